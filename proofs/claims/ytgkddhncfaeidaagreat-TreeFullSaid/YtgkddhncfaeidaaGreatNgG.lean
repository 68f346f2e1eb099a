/- Squeezed: the texts as they are written lie in wip/tpl. -/
import Derived.Test.YtgkddhncfaeidaaGreatPart06
import Derived.Deep.DeepCutAuto
set_option maxRecDepth 100000
set_option maxHeartbeats 4000000
set_option linter.unusedSimpArgs false
set_option linter.unusedVariables false
namespace Go.Proofs.YtgkddhncfaeidaaGreat
open Go.ChangeShapes Go.WideShapes Go.ChangeAt Go.RowKit CrcM PageM
def zeroNd:Array Value:=#[.bool false,.slice none 0 0,.slice none 0 0,.slice none 0 0]
theorem get_leaf (g o cap:Nat) (c:UInt8) (b:List UInt8) (w:World) (hx:BytesAt w (some ⟨g,o,none⟩) (c :: b)) (hl:b.length=c.toNat*30) (hc:b.length+1≤cap) (hcm:cap≤maxLen) (len:Nat) (hlen:len=b.length+1) (hpos0:0<c.toNat) (N:NodeD) (hN:N=⟨true,entsP c.toNat b,[],[]⟩) :
 Calls Tryz.prog 84 #[.bool true,.slice (some ⟨g,o,none⟩) len cap] w fun e w'=>(okNode N→∃ l':NdL,e=.returned (.tuple #[.agg #[.bool N.leaf,.slice l'.EA N.es.length l'.ec,.slice l'.KA N.ks.length l'.kc,.slice l'.DA N.ds.length l'.dc],.int .i64 0])∧NodeAt w' N l'∧NdNew w' w.heap.size N l')∧(¬ okNode N→e=.returned (.tuple #[.agg zeroNd,.int .i64 3]))∧Below w.heap.size w w':=by
 obtain ⟨n,hn⟩:∃ n,n=c.toNat:=⟨_,rfl⟩
 have hn8:n<256:=by rw [hn];exact c.toNat_lt
 rw [← hn] at hl hN hpos0
 obtain ⟨b1,o1,hA,hcell⟩:=hx (by simp)
 injection hA with hA
 injection hA with h1 h2
 subst h1 h2
 have c0:w.cell? ⟨g,o,none⟩=some (.int .u8 (n:Int)):=by have:=hcell 0 (by simp);rw [hn];simpa using this
 have hgl:g<w.heap.size:=World.block_lt_of_cell? _ _ c0
 have hbb:BytesAt w (some ⟨g,o+1,none⟩) b:=fun _=>⟨g,o+1,rfl,fun k hk=>by have:=hcell (k+1) (by simp;omega);simp only [List.getElem_cons_succ] at this;rw [show o+1+k=o+(k+1) by omega];exact this⟩
 have hl1:len=n*30+1:=by omega
 have d1:((len:Int) == 0)=false:=by rw [beq_eq_false_iff_ne];omega
 have d2:((len:Int) != 1+(n:Int)*30)=false:=by simp;omega
 have hw1:wrap64 ((n:Int)*30)=(n:Int)*30:=IntWalk.wrap64_in _ ⟨by omega,by omega⟩
 have hw2:wrap64 (1+(n:Int)*30)=1+(n:Int)*30:=IntWalk.wrap64_in _ ⟨by omega,by omega⟩
 have hlc:len≤cap:=by omega
 have h1l:1≤len:=by omega
 have hpos:0<len:=by omega
 have hcap1:cap≠1:=by omega
 have hcap1':¬ cap=1:=hcap1
 unfold maxLen at hcm
 have HBB:=Lib.hid hbb
 have HN:=Lib.hid hN
 have HNC:=Lib.hid hn
 have HL:=Lib.hid hl
 have HL1:=Lib.hid hl1
 have HLEN:=Lib.hid hlen
 clear hx hcell hbb hN hn hl hl1 hlen
 go_enter Tryz.func84,Tryz.ntmps84
 go_upto_region 8 with fail
 obtain ⟨W,eW⟩:∃ W,W=(((w.alloc (.cells #[.bool false,.slice none 0 0,.slice none 0 0,.slice none 0 0] 86)).alloc (.cells #[.bool true,.slice none 0 0,.slice none 0 0,.slice none 0 0] 86)).alloc (.cells #[.slice (some ⟨g,o+1,none⟩) (len - 1) (cap - 1)] 205)):=⟨_,rfl⟩
 have hbW:Below w.heap.size w W:=by rw [eW];exact (((Below.refl _ _).alloc (Nat.le_refl _) _).alloc (by simp) _).alloc (by simp;omega) _
 have hws:W.heap.size=w.heap.size+3:=by rw [eW];simp
 have hr0:W.heap[w.heap.size]?=some (.cells #[.bool false,.slice none 0 0,.slice none 0 0,.slice none 0 0] 86 (0,0)):=by
  rw [eW,Below.heap_alloc _ _ _ (by simp;omega)]
  exact heap_alloc2_old _ _ _
 have hr1:W.heap[w.heap.size+1]?=some (.cells #[.bool true,.slice none 0 0,.slice none 0 0,.slice none 0 0] 86 (0,0)):=by
  rw [eW,Below.heap_alloc _ _ _ (by simp)]
  exact heap_alloc2_new _ _ _
 have hr2:W.heap[w.heap.size+2]?=some (.cells #[.slice (some ⟨g,o+1,none⟩) (len - 1) (cap - 1)] 205 (0,0)):=by
  rw [eW]
  exact (congrArg (fun k=>(World.alloc _ _).heap[k]?) (by simp)).trans (heap_alloc_new _ _)
 rw [← eW]
 have hge:GeS w W W true (.slice none 0 0) (.slice none 0 0) (.slice none 0 0) [] [] [] b:={
  bel:=Below.refl _ _
  out:=hr1
  cur:=⟨some ⟨g,o+1,none⟩,cap - 1,by rw [hr2,show len - 1=b.length by have:=HLEN.out;omega],by omega,by unfold maxLen;omega,HBB.out.below hbW,fun _ a ha=>by injection ha with ha;rw [← ha];show g<_;omega⟩
  rowE:=World.ownsRow_nil _ _ _ _
  rowK:=World.ownsRow_nil _ _ _ _
  rowD:=World.ownsRow_nil _ _ _ _ }
 have c1:=(hbW.cell hgl).trans c0
 have HGE:=Lib.hid hge
 have HBW:=Lib.hid hbW
 have HWS:=Lib.hid hws
 have HR0:=Lib.hid hr0
 clear eW hbW hws hr0 hr1 hr2 hge c0
 go_upto_region 9 with fail
 clear c1
 obtain ⟨ie,hie,hiez,hies,hieb⟩:=info_parts infoEnt_to_any
 go_loopw [33] (fun i wr=>∃ (k:Nat) (vE:Value),k≤n∧i=.int .u8 k∧Hid (GeS w W wr true vE (.slice none 0 0) (.slice none 0 0) (entsP k b) [] [] (b.drop (30*k)))) (fun i _=>n - (intOf i).toNat)
 case atStart=>exact ⟨0,_,by omega,rfl,by simpa [entsP] using HGE⟩
 case round =>
  clear HGE
  obtain ⟨k,vE,hk,rfl,HS⟩:=hrel
  obtain ⟨W0,rfl⟩:∃ W0,W0=wr:=⟨_,rfl⟩
  by_cases hlt:k<n
  ·have hmod:((k:Int)+1) % 256=(k:Int)+1:=by omega
   have hel:(entsP k b).length=k:=by simp [entsP]
   obtain ⟨e,hee⟩:∃ e,entP (b.drop (30*k))=e:=⟨_,rfl⟩
   have hsz:w.heap.size+1≤W0.heap.size:=by have:=HS.out.lt;omega
   have HSZ:=Lib.hid hsz
   have HEL:=Lib.hid hel
   have HEE:=Lib.hid hee
   have HLB:Hid (30≤(b.drop (30*k)).length):=Lib.hid (by rw [List.length_drop,HL.out];omega)
   have HDD:Hid ((b.drop (30*k)).drop 30=b.drop (30*(k+1))):=Lib.hid (by rw [List.drop_drop];congr 1)
   clear hsz hel hee
   have HCALL:Hid (∀ W',CurAt W' (w.heap.size+2) (b.drop (30*k))→Calls Tryz.prog 123 #[.pointer (some ⟨w.heap.size+2,0,none⟩)] W' fun e' w'=>e'=.returned (.agg #[.int .i64 e.se,.int .i64 e.st,.int .i64 e.en,.int .i64 e.ad,.int .i64 e.le,.int .i64 e.cn,.int .i64 e.co,.int .u32 e.cr])∧CurAt w' (w.heap.size+2) (b.drop (30*(k+1)))∧W'.grownBy w' (some (w.heap.size+2))):=Lib.hid (fun W' hW=>(entry_cur W' _ _ hW HLB.out).mono (fun e' w' ⟨a,c,d⟩=>⟨by rw [a,HEE.out],by rw [HDD.out] at c;exact c,d⟩))
   go_upto_region 11 with fail
   have hfill:Hid (Instr.fill (fun i=>some (i*ie.size,ie.size)) ((Array.range (1*ie.size)).map ((Value.agg #[.int .i64 0,.int .i64 0,.int .i64 0,.int .i64 0,.int .i64 0,.int .i64 0,.int .i64 0,.int .u32 0]).cells[· % (Value.agg #[.int .i64 0,.int .i64 0,.int .i64 0,.int .i64 0,.int .i64 0,.int .i64 0,.int .i64 0,.int .u32 0]).cells.size]!)) [(0,.agg #[.int .i64 e.se,.int .i64 e.st,.int .i64 e.en,.int .i64 e.ad,.int .i64 e.le,.int .i64 e.cn,.int .i64 e.co,.int .u32 e.cr])]=some #[.int .i64 e.se,.int .i64 e.st,.int .i64 e.en,.int .i64 e.ad,.int .i64 e.le,.int .i64 e.cn,.int .i64 e.co,.int .u32 e.cr]):=Lib.hid (by rw [hies];exact fill_eight _ _ rfl (by simp))
   refine region_ways4 (w.heap.size+1) HSZ.out (.two [0] 1 (.one [] 2 (.one [] 3 (.one [] 4 (.one [5] 6 (.done []))))) 2 (.two [] 1 (.one [] 3 (.one [] 4 (.one [5] 6 (.done [])))) 3 (.one [] 1 (.one [] 4 (.one [5] 6 (.done [])))))) (by kernel_rfl) (by kernel_rfl) ?_
   rintro wd hbd
   have BD:Hid (Below (w.heap.size+1) W0 wd):=Lib.hid (hbd.mono HSZ.out)
   have SD:=Lib.hid (HS.out.below hbd)
   have z0:=nd_cell SD.out.out 1 _ rfl
   clear hbd
   rw [wpWays_two4]
   try simp only [List.map_cons,List.map_nil,opAt,List.getElem?_toArray,List.getElem?_cons_zero,List.getElem?_cons_succ,Option.getD_some]
   repeat (go_big_quiet_step (fail))
   refine wpQuiet_nil ⟨?_,?_⟩
   ·go_wp2_with fail
    refine ⟨⟨⟨_,BD.out⟩,rfl⟩,?_⟩
    try simp only [Act.put,List.setIfInBounds_toArray,List.set_cons_zero,List.set_cons_succ]
    rw [wpWays_one4]
    try simp only [List.map_nil,opAt,List.getElem?_toArray,List.getElem?_cons_zero,List.getElem?_cons_succ,Option.getD_some]
    refine wpQuiet_nil ?_
    go_wp2_with (go_at_call 123;(with_reducible refine (HCALL.out _ SD.out.cur).mono ?_);rintro e' x1 ⟨rfl,hcc1,hb1⟩;have B1:=Lib.hid (BD.out.grown hb1 (Nat.le_trans HSZ.out BD.out.size) (fun k hk=>by injection hk;omega));have S1:=Lib.hid (SD.out.took hb1 hcc1);clear hb1 hcc1)
    refine ⟨⟨⟨_,B1.out⟩,rfl⟩,?_⟩
    try simp only [Act.put,List.setIfInBounds_toArray,List.set_cons_zero,List.set_cons_succ]
    rw [wpWays_one4]
    try simp only [List.map_nil,opAt,List.getElem?_toArray,List.getElem?_cons_zero,List.getElem?_cons_succ,Option.getD_some]
    refine wpQuiet_nil ?_
    go_wp2_with (refine wpList_buildSlice rfl 29 40 1 _ rfl #[.int .i64 e.se,.int .i64 e.st,.int .i64 e.en,.int .i64 e.ad,.int .i64 e.le,.int .i64 e.cn,.int .i64 e.co,.int .u32 e.cr] ie _ Tryz.underlying29 hie hiez (by rw [hies];decide) (by rw [hies];decide) (by rw [Array.toList_map];exact hfill.out) ?_)
    have B2:=Lib.hid (B1.out.alloc (Nat.le_trans HSZ.out B1.out.size) (.cells #[.int .i64 e.se,.int .i64 e.st,.int .i64 e.en,.int .i64 e.ad,.int .i64 e.le,.int .i64 e.cn,.int .i64 e.co,.int .u32 e.cr] 40))
    have S2:=Lib.hid (S1.out.below ((Below.refl _ _).alloc (Nat.le_refl _) (.cells #[.int .i64 e.se,.int .i64 e.st,.int .i64 e.en,.int .i64 e.ad,.int .i64 e.le,.int .i64 e.cn,.int .i64 e.co,.int .u32 e.cr] 40)))
    have hnews2:Hid (∀ (j:Nat) (u:Value),(enC e)[j]?=some u→(x1.alloc (.cells #[.int .i64 e.se,.int .i64 e.st,.int .i64 e.en,.int .i64 e.ad,.int .i64 e.le,.int .i64 e.cn,.int .i64 e.co,.int .u32 e.cr] 40)).cell? ((⟨x1.heap.size,0,none⟩:Addr).add j)=some u):=Lib.hid (fun j u hj=>by rw [Addr.add_mid,World.cell?_alloc_new];simpa [enC] using hj)
    refine ⟨⟨⟨_,B2.out⟩,rfl⟩,?_⟩
    try simp only [Act.put,List.setIfInBounds_toArray,List.set_cons_zero,List.set_cons_succ]
    rw [wpWays_one4]
    try simp only [List.map_nil,opAt,List.getElem?_toArray,List.getElem?_cons_zero,List.getElem?_cons_succ,Option.getD_some]
    refine wpQuiet_nil ?_
    go_wp2_with (at_builtin;refine wpList_append_own_at _ rfl (.tmp 37) (.tmp 39) 29 rfl (w.heap.size+3) 40 ie _ 8 64 Tryz.underlying29 hie hiez hies hieb rfl (by omega) _ (entsP k b).length ((entsP k b).flatMap enC) rfl S2.out.rowE ⟨x1.heap.size,0,none⟩ 1 1 (enC e) rfl rfl hnews2.out (enC_one e) (by rw [HEL.out];unfold maxLen;omega) (by rw [HEL.out];omega) (by have:=S2.out.lt;omega) ?_;intro v3 x3 ho3 hg3 _ _)
    obtain ⟨A3,c3,rfl⟩:=row_form ho3
    obtain ⟨-,o3,-⟩:=S2.out.grown S2.out.rowE hg3 (by decide) (by decide)
    have zc3:=nd_cell o3 1 _ rfl
    have zf3:x3.frozen? ⟨w.heap.size+1,1,none⟩=false:=by simp [World.frozen?,o3]
    have SS3:=Lib.hid (S2.out.setE hg3 ho3)
    have B3:=Lib.hid (B2.out.grown hg3 (Nat.le_trans HSZ.out B2.out.size) (fun k hk=>by have:=(S2.out.rowE.lt k hk).1;omega))
    clear ho3 hg3 o3
    refine ⟨⟨⟨_,B3.out⟩,rfl⟩,?_⟩
    try simp only [Act.put,List.setIfInBounds_toArray,List.set_cons_zero,List.set_cons_succ]
    rw [wpWays_one4]
    try simp only [List.map_cons,List.map_nil,opAt,List.getElem?_toArray,List.getElem?_cons_zero,List.getElem?_cons_succ,Option.getD_some]
    repeat (go_big_quiet_step (fail))
    refine wpQuiet_nil ?_
    go_wp2_with fail
    have BX3:Hid (Below (w.heap.size+1) W0 (x3.setCell ⟨w.heap.size+1,1,none⟩ (.slice A3 ((entsP k b).length+1) c3))):=Lib.hid (bel_set B3.out (by omega))
    refine ⟨⟨⟨_,BX3.out⟩,rfl⟩,?_⟩
    try simp only [Act.put,List.setIfInBounds_toArray,List.set_cons_zero,List.set_cons_succ]
    rw [wpWays_done4]
    try simp only [List.map_nil]
    refine wpQuiet_nil ?_
    clear z0
    go_wp2_with fail
    go_roundw
    case rel=>exact ⟨k+1,_,by omega,by go_num,Lib.hid (by rw [entsP_succ,HEE.out];exact SS3.out)⟩
    case measure=>first | (simp [intOf];done) | (simp [intOf];omega)
   ·skip
    go_wp2_with (go_at_call 123;(with_reducible refine (HCALL.out _ SD.out.cur).mono ?_);rintro e' x4 ⟨rfl,hcc4,hb4⟩;have B4:=Lib.hid (BD.out.grown hb4 (Nat.le_trans HSZ.out BD.out.size) (fun k hk=>by injection hk;omega));have S4:=Lib.hid (SD.out.took hb4 hcc4);clear hb4 hcc4)
    have z4:=nd_cell S4.out.out 1 _ rfl
    refine ⟨⟨⟨_,B4.out⟩,rfl⟩,?_⟩
    try simp only [Act.put,List.setIfInBounds_toArray,List.set_cons_zero,List.set_cons_succ]
    rw [wpWays_two4]
    try simp only [List.map_nil,opAt,List.getElem?_toArray,List.getElem?_cons_zero,List.getElem?_cons_succ,Option.getD_some]
    refine wpQuiet_nil ⟨?_,?_⟩
    ·go_wp2_with fail
     refine ⟨⟨⟨_,B4.out⟩,rfl⟩,?_⟩
     try simp only [Act.put,List.setIfInBounds_toArray,List.set_cons_zero,List.set_cons_succ]
     rw [wpWays_one4]
     try simp only [List.map_nil,opAt,List.getElem?_toArray,List.getElem?_cons_zero,List.getElem?_cons_succ,Option.getD_some]
     refine wpQuiet_nil ?_
     go_wp2_with (refine wpList_buildSlice rfl 29 40 1 _ rfl #[.int .i64 e.se,.int .i64 e.st,.int .i64 e.en,.int .i64 e.ad,.int .i64 e.le,.int .i64 e.cn,.int .i64 e.co,.int .u32 e.cr] ie _ Tryz.underlying29 hie hiez (by rw [hies];decide) (by rw [hies];decide) (by rw [Array.toList_map];exact hfill.out) ?_)
     have B5:=Lib.hid (B4.out.alloc (Nat.le_trans HSZ.out B4.out.size) (.cells #[.int .i64 e.se,.int .i64 e.st,.int .i64 e.en,.int .i64 e.ad,.int .i64 e.le,.int .i64 e.cn,.int .i64 e.co,.int .u32 e.cr] 40))
     have S5:=Lib.hid (S4.out.below ((Below.refl _ _).alloc (Nat.le_refl _) (.cells #[.int .i64 e.se,.int .i64 e.st,.int .i64 e.en,.int .i64 e.ad,.int .i64 e.le,.int .i64 e.cn,.int .i64 e.co,.int .u32 e.cr] 40)))
     have hnews5:Hid (∀ (j:Nat) (u:Value),(enC e)[j]?=some u→(x4.alloc (.cells #[.int .i64 e.se,.int .i64 e.st,.int .i64 e.en,.int .i64 e.ad,.int .i64 e.le,.int .i64 e.cn,.int .i64 e.co,.int .u32 e.cr] 40)).cell? ((⟨x4.heap.size,0,none⟩:Addr).add j)=some u):=Lib.hid (fun j u hj=>by rw [Addr.add_mid,World.cell?_alloc_new];simpa [enC] using hj)
     refine ⟨⟨⟨_,B5.out⟩,rfl⟩,?_⟩
     try simp only [Act.put,List.setIfInBounds_toArray,List.set_cons_zero,List.set_cons_succ]
     rw [wpWays_one4]
     try simp only [List.map_nil,opAt,List.getElem?_toArray,List.getElem?_cons_zero,List.getElem?_cons_succ,Option.getD_some]
     refine wpQuiet_nil ?_
     go_wp2_with (at_builtin;refine wpList_append_own_at _ rfl (.tmp 37) (.tmp 39) 29 rfl (w.heap.size+3) 40 ie _ 8 64 Tryz.underlying29 hie hiez hies hieb rfl (by omega) _ (entsP k b).length ((entsP k b).flatMap enC) rfl S5.out.rowE ⟨x4.heap.size,0,none⟩ 1 1 (enC e) rfl rfl hnews5.out (enC_one e) (by rw [HEL.out];unfold maxLen;omega) (by rw [HEL.out];omega) (by have:=S5.out.lt;omega) ?_;intro v6 x6 ho6 hg6 _ _)
     obtain ⟨A6,c6,rfl⟩:=row_form ho6
     obtain ⟨-,o6,-⟩:=S5.out.grown S5.out.rowE hg6 (by decide) (by decide)
     have zc6:=nd_cell o6 1 _ rfl
     have zf6:x6.frozen? ⟨w.heap.size+1,1,none⟩=false:=by simp [World.frozen?,o6]
     have SS6:=Lib.hid (S5.out.setE hg6 ho6)
     have B6:=Lib.hid (B5.out.grown hg6 (Nat.le_trans HSZ.out B5.out.size) (fun k hk=>by have:=(S5.out.rowE.lt k hk).1;omega))
     clear ho6 hg6 o6
     refine ⟨⟨⟨_,B6.out⟩,rfl⟩,?_⟩
     try simp only [Act.put,List.setIfInBounds_toArray,List.set_cons_zero,List.set_cons_succ]
     rw [wpWays_one4]
     try simp only [List.map_cons,List.map_nil,opAt,List.getElem?_toArray,List.getElem?_cons_zero,List.getElem?_cons_succ,Option.getD_some]
     repeat (go_big_quiet_step (fail))
     refine wpQuiet_nil ?_
     go_wp2_with fail
     have BX6:Hid (Below (w.heap.size+1) W0 (x6.setCell ⟨w.heap.size+1,1,none⟩ (.slice A6 ((entsP k b).length+1) c6))):=Lib.hid (bel_set B6.out (by omega))
     refine ⟨⟨⟨_,BX6.out⟩,rfl⟩,?_⟩
     try simp only [Act.put,List.setIfInBounds_toArray,List.set_cons_zero,List.set_cons_succ]
     rw [wpWays_done4]
     try simp only [List.map_nil]
     refine wpQuiet_nil ?_
     clear z0
     go_wp2_with fail
     go_roundw
     case rel=>exact ⟨k+1,_,by omega,by go_num,Lib.hid (by rw [entsP_succ,HEE.out];exact SS6.out)⟩
     case measure=>first | (simp [intOf];done) | (simp [intOf];omega)
    ·skip
     go_wp2_with (refine wpList_buildSlice rfl 29 40 1 _ rfl #[.int .i64 e.se,.int .i64 e.st,.int .i64 e.en,.int .i64 e.ad,.int .i64 e.le,.int .i64 e.cn,.int .i64 e.co,.int .u32 e.cr] ie _ Tryz.underlying29 hie hiez (by rw [hies];decide) (by rw [hies];decide) (by rw [Array.toList_map];exact hfill.out) ?_)
     have B7:=Lib.hid (B4.out.alloc (Nat.le_trans HSZ.out B4.out.size) (.cells #[.int .i64 e.se,.int .i64 e.st,.int .i64 e.en,.int .i64 e.ad,.int .i64 e.le,.int .i64 e.cn,.int .i64 e.co,.int .u32 e.cr] 40))
     have S7:=Lib.hid (S4.out.below ((Below.refl _ _).alloc (Nat.le_refl _) (.cells #[.int .i64 e.se,.int .i64 e.st,.int .i64 e.en,.int .i64 e.ad,.int .i64 e.le,.int .i64 e.cn,.int .i64 e.co,.int .u32 e.cr] 40)))
     have hnews7:Hid (∀ (j:Nat) (u:Value),(enC e)[j]?=some u→(x4.alloc (.cells #[.int .i64 e.se,.int .i64 e.st,.int .i64 e.en,.int .i64 e.ad,.int .i64 e.le,.int .i64 e.cn,.int .i64 e.co,.int .u32 e.cr] 40)).cell? ((⟨x4.heap.size,0,none⟩:Addr).add j)=some u):=Lib.hid (fun j u hj=>by rw [Addr.add_mid,World.cell?_alloc_new];simpa [enC] using hj)
     have z7:=nd_cell S7.out.out 1 _ rfl
     refine ⟨⟨⟨_,B7.out⟩,rfl⟩,?_⟩
     try simp only [Act.put,List.setIfInBounds_toArray,List.set_cons_zero,List.set_cons_succ]
     rw [wpWays_one4]
     try simp only [List.map_nil,opAt,List.getElem?_toArray,List.getElem?_cons_zero,List.getElem?_cons_succ,Option.getD_some]
     refine wpQuiet_nil ?_
     go_wp2_with fail
     refine ⟨⟨⟨_,B7.out⟩,rfl⟩,?_⟩
     try simp only [Act.put,List.setIfInBounds_toArray,List.set_cons_zero,List.set_cons_succ]
     rw [wpWays_one4]
     try simp only [List.map_nil,opAt,List.getElem?_toArray,List.getElem?_cons_zero,List.getElem?_cons_succ,Option.getD_some]
     refine wpQuiet_nil ?_
     go_wp2_with (at_builtin;refine wpList_append_own_at _ rfl (.tmp 37) (.tmp 39) 29 rfl (w.heap.size+3) 40 ie _ 8 64 Tryz.underlying29 hie hiez hies hieb rfl (by omega) _ (entsP k b).length ((entsP k b).flatMap enC) rfl S7.out.rowE ⟨x4.heap.size,0,none⟩ 1 1 (enC e) rfl rfl hnews7.out (enC_one e) (by rw [HEL.out];unfold maxLen;omega) (by rw [HEL.out];omega) (by have:=S7.out.lt;omega) ?_;intro v8 x8 ho8 hg8 _ _)
     obtain ⟨A8,c8,rfl⟩:=row_form ho8
     obtain ⟨-,o8,-⟩:=S7.out.grown S7.out.rowE hg8 (by decide) (by decide)
     have zc8:=nd_cell o8 1 _ rfl
     have zf8:x8.frozen? ⟨w.heap.size+1,1,none⟩=false:=by simp [World.frozen?,o8]
     have SS8:=Lib.hid (S7.out.setE hg8 ho8)
     have B8:=Lib.hid (B7.out.grown hg8 (Nat.le_trans HSZ.out B7.out.size) (fun k hk=>by have:=(S7.out.rowE.lt k hk).1;omega))
     clear ho8 hg8 o8
     refine ⟨⟨⟨_,B8.out⟩,rfl⟩,?_⟩
     try simp only [Act.put,List.setIfInBounds_toArray,List.set_cons_zero,List.set_cons_succ]
     rw [wpWays_one4]
     try simp only [List.map_cons,List.map_nil,opAt,List.getElem?_toArray,List.getElem?_cons_zero,List.getElem?_cons_succ,Option.getD_some]
     repeat (go_big_quiet_step (fail))
     refine wpQuiet_nil ?_
     go_wp2_with fail
     have BX8:Hid (Below (w.heap.size+1) W0 (x8.setCell ⟨w.heap.size+1,1,none⟩ (.slice A8 ((entsP k b).length+1) c8))):=Lib.hid (bel_set B8.out (by omega))
     refine ⟨⟨⟨_,BX8.out⟩,rfl⟩,?_⟩
     try simp only [Act.put,List.setIfInBounds_toArray,List.set_cons_zero,List.set_cons_succ]
     rw [wpWays_done4]
     try simp only [List.map_nil]
     refine wpQuiet_nil ?_
     clear z0
     go_wp2_with fail
     go_roundw
     case rel=>exact ⟨k+1,_,by omega,by go_num,Lib.hid (by rw [entsP_succ,HEE.out];exact SS8.out)⟩
     case measure=>first | (simp [intOf];done) | (simp [intOf];omega)
  ·obtain rfl:k=n:=by omega
   obtain ⟨A,cE,rfl⟩:=row_form HS.out.rowE
   have hcap:=row_cap HS.out.rowE
   obtain ⟨l',hl'⟩:∃ l':NdL,l'=⟨A,cE,none,0,none,0⟩:=⟨_,rfl⟩
   have hat:∀ W',Below W0.heap.size W0 W'→NodeAt W' N l':=fun W' hb=>by
    have h':=HS.out.below hb
    rw [HN.out,hl']
    exact { e:=EnAt.of_row h'.rowE,k:=fun h=>absurd rfl h,d:=fun h=>absurd rfl h,ec:=hcap.1,kc:=Nat.le_refl _,dc:=Nat.le_refl _,em:=hcap.2,km:=by unfold maxLen;simp,dm:=by unfold maxLen;simp }
   have hargs:(#[.bool N.leaf,.slice l'.EA N.es.length l'.ec,.slice l'.KA N.ks.length l'.kc,.slice l'.DA N.ds.length l'.dc]:Array Value)=#[.bool true,.slice A (entsP k b).length cE,.slice none 0 0,.slice none 0 0]:=by rw [HN.out,hl'];rfl
   obtain ⟨r,hr⟩:=IsB.ex (okNode N)
   have HRC:Hid (Calls Tryz.prog 49 #[.agg #[.bool true,.slice A (entsP k b).length cE,.slice none 0 0,.slice none 0 0]] W0 fun e w'=>e=.returned (.bool r)∧Below W0.heap.size W0 w'):=Lib.hid (by rw [← hargs];exact right_any N l' r hr W0 (hat W0 (Below.refl _ _)))
   have HAT:=Lib.hid hat
   have HARG:=Lib.hid hargs
   have HRR:=Lib.hid hr
   have hd:decide ((k:Int)<(k:Int))=false:=by simp
   have HLP:=Lib.hid hl'
   clear hat hargs hr hl' hcap
   have ho:=HS.out.out
   have hz:=(HS.out.bel.block w.heap.size (by omega)).trans HR0.out
   have HZ:=Lib.hid hz
   have HOUT:=Lib.hid ho
   clear hz ho
   cases r with
   | true =>
     obtain ⟨nE,hnE⟩:∃ x,(entsP k b).length=x:=⟨_,rfl⟩
     rw [hnE] at HRC HOUT HARG
     have HNE:=Lib.hid hnE
     clear hnE
     go_wp2_with (first | (go_at_call 49;refine (HRC.out).mono ?_;rintro e' x9 ⟨rfl,hb9⟩;have HB9:=Lib.hid hb9;have z9:=(hb9.block w.heap.size (Array.getElem?_eq_some_iff.1 HZ.out).1).trans HZ.out;have HZ9:=Lib.hid z9;obtain ⟨p0,p1,p2,p3,f0,f1,f2,f3⟩:=four_cells z9;have o9:=(hb9.block _ (Array.getElem?_eq_some_iff.1 HOUT.out).1).trans HOUT.out;have HO9:=Lib.hid o9;clear hb9 z9 o9) | (refine wpList_load_row rfl 86 (.tmp 7) rfl (w.heap.size+1) rfl 86 _ (0,0) _ HOUT.out Tryz.underlying86 rfl (by kernel_rfl) ?_) | (refine wpList_load_row rfl 86 (.tmp 7) rfl (w.heap.size+1) rfl 86 _ (0,0) _ HO9.out Tryz.underlying86 rfl (by kernel_rfl) ?_))
     refine bodyPost_ret (v:=.tuple #[.agg #[.bool true,.slice A nE cE,.slice none 0 0,.slice none 0 0],.int .i64 0]) (results_cell_tmp' (p:=4) (u:=5) (ty:=86) rfl _ _ w.heap.size 86 #[.bool true,.slice A nE cE,.slice none 0 0,.slice none 0 0] (0,0) _ rfl (set_four HZ9.out _ _ _ _) Tryz.underlying86 rfl (by kernel_rfl)) rfl ?_
     have hbf:=below_set4 (g:=w.heap.size) (HBW.out.trans ((HS.out.bel.mono (Nat.le_succ _)).trans (HB9.out.mono (by have:=HS.out.lt;omega)))) (Nat.le_refl _) (.bool true) (.slice A nE cE) (.slice none 0 0) (.slice none 0 0)
     refine ⟨fun _=>⟨l',by rw [HARG.out],?_,?_⟩,fun h=>absurd HRR.out.yes h,hbf⟩
     rotate_left
     ·have h':=HS.out.below HB9.out
      have q1:=row_set4 (a:=.bool true) (b:=.slice A nE cE) (c:=.slice none 0 0) (d:=.slice none 0 0) h'.rowE HZ9.out (by decide)
      rw [HN.out,HLP.out]
      exact ⟨row_new HS.out.rowE (by omega),fun a h=>(by cases h),fun a h=>(by cases h),row_less q1 (by omega),World.ownsRow_nil _ _ _ _,World.ownsRow_nil _ _ _ _⟩
     have h':=HS.out.below HB9.out
     have q1:=row_set4 (a:=.bool true) (b:=.slice A nE cE) (c:=.slice none 0 0) (d:=.slice none 0 0) h'.rowE HZ9.out (by decide)
     have m1:=row_cap q1
     rw [HN.out,HLP.out]
     exact { e:=EnAt.of_row q1,k:=fun h=>absurd rfl h,d:=fun h=>absurd rfl h,ec:=m1.1,kc:=Nat.le_refl _,dc:=Nat.le_refl _,em:=m1.2,km:=by unfold maxLen;simp,dm:=by unfold maxLen;simp }
   | false =>
     obtain ⟨nE,hnE⟩:∃ x,(entsP k b).length=x:=⟨_,rfl⟩
     rw [hnE] at HRC HOUT HARG
     have HNE:=Lib.hid hnE
     clear hnE
     go_wp2_with (first | (go_at_call 49;refine (HRC.out).mono ?_;rintro e' x9 ⟨rfl,hb9⟩;have HB9:=Lib.hid hb9;have z9:=(hb9.block w.heap.size (Array.getElem?_eq_some_iff.1 HZ.out).1).trans HZ.out;have HZ9:=Lib.hid z9;obtain ⟨p0,p1,p2,p3,f0,f1,f2,f3⟩:=four_cells z9;have o9:=(hb9.block _ (Array.getElem?_eq_some_iff.1 HOUT.out).1).trans HOUT.out;have HO9:=Lib.hid o9;clear hb9 z9 o9) | (refine wpList_load_row rfl 86 (.tmp 7) rfl (w.heap.size+1) rfl 86 _ (0,0) _ HOUT.out Tryz.underlying86 rfl (by kernel_rfl) ?_) | (refine wpList_load_row rfl 86 (.tmp 7) rfl (w.heap.size+1) rfl 86 _ (0,0) _ HO9.out Tryz.underlying86 rfl (by kernel_rfl) ?_))
     refine bodyPost_ret (v:=.tuple #[.agg #[.bool false,.slice none 0 0,.slice none 0 0,.slice none 0 0],.int .i64 3]) (results_cell_tmp' (p:=4) (u:=5) (ty:=86) rfl _ _ w.heap.size 86 #[.bool false,.slice none 0 0,.slice none 0 0,.slice none 0 0] (0,0) _ rfl (set_four HZ9.out _ _ _ _) Tryz.underlying86 rfl (by kernel_rfl)) rfl ?_
     have hbf:=below_set4 (g:=w.heap.size) (HBW.out.trans ((HS.out.bel.mono (Nat.le_succ _)).trans (HB9.out.mono (by have:=HS.out.lt;omega)))) (Nat.le_refl _) (.bool false) (.slice none 0 0) (.slice none 0 0) (.slice none 0 0)
     exact ⟨fun h=>absurd h HRR.out.no,fun _=>rfl,hbf⟩
end Go.Proofs.YtgkddhncfaeidaaGreat
