/- Squeezed: the texts as they are written lie in wip/tpl. -/
import Derived.Test.YtgkddhncfaeidaaGreatNgG
set_option maxRecDepth 100000
set_option maxHeartbeats 4000000
set_option linter.unusedSimpArgs false
set_option linter.unusedVariables false
namespace Go.Proofs.YtgkddhncfaeidaaGreat
open Go.ChangeShapes Go.WideShapes Go.ChangeAt Go.RowKit CrcM PageM
theorem get_inner (g o cap:Nat) (c:UInt8) (b:List UInt8) (w:World) (hx:BytesAt w (some ⟨g,o,none⟩) (c :: b)) (hl:b.length=c.toNat*14) (hc:b.length+1≤cap) (hcm:cap≤maxLen) (len:Nat) (hlen:len=b.length+1) (hpos0:0<c.toNat) (N:NodeD) (hN:N=⟨false,[],keysP c.toNat b,kidsP c.toNat b⟩) :
 Calls Tryz.prog 84 #[.bool false,.slice (some ⟨g,o,none⟩) len cap] w fun e w'=>(okNode N→∃ l':NdL,e=.returned (.tuple #[.agg #[.bool N.leaf,.slice l'.EA N.es.length l'.ec,.slice l'.KA N.ks.length l'.kc,.slice l'.DA N.ds.length l'.dc],.int .i64 0])∧NodeAt w' N l'∧NdNew w' w.heap.size N l')∧(¬ okNode N→e=.returned (.tuple #[.agg zeroNd,.int .i64 3]))∧Below w.heap.size w w':=by
 obtain ⟨n,hn⟩:∃ n,n=c.toNat:=⟨_,rfl⟩
 have hn8:n<256:=by rw [hn];exact c.toNat_lt
 rw [← hn] at hl hN hpos0
 obtain ⟨b1,o1,hA,hcell⟩:=hx (by simp)
 injection hA with hA
 injection hA with h1 h2
 subst h1 h2
 have c0:w.cell? ⟨g,o,none⟩=some (.int .u8 (n:Int)):=by have:=hcell 0 (by simp);rw [hn];simpa using this
 have hgl:g<w.heap.size:=World.block_lt_of_cell? _ _ c0
 have hbb:BytesAt w (some ⟨g,o+1,none⟩) b:=fun _=>⟨g,o+1,rfl,fun k hk=>by have:=hcell (k+1) (by simp;omega);simp only [List.getElem_cons_succ] at this;rw [show o+1+k=o+(k+1) by omega];exact this⟩
 have hl1:len=n*14+1:=by omega
 have d1:((len:Int) == 0)=false:=by rw [beq_eq_false_iff_ne];omega
 have d2:((len:Int) != 1+(n:Int)*14)=false:=by simp;omega
 have hw1:wrap64 ((n:Int)*14)=(n:Int)*14:=IntWalk.wrap64_in _ ⟨by omega,by omega⟩
 have hw2:wrap64 (1+(n:Int)*14)=1+(n:Int)*14:=IntWalk.wrap64_in _ ⟨by omega,by omega⟩
 have hlc:len≤cap:=by omega
 have h1l:1≤len:=by omega
 have hpos:0<len:=by omega
 have hcap1:cap≠1:=by omega
 have hcap1':¬ cap=1:=hcap1
 unfold maxLen at hcm
 have HBB:=Lib.hid hbb
 have HN:=Lib.hid hN
 have HNC:=Lib.hid hn
 have HL:=Lib.hid hl
 have HL1:=Lib.hid hl1
 have HLEN:=Lib.hid hlen
 clear hx hcell hbb hN hn hl hl1 hlen
 go_enter Tryz.func84,Tryz.ntmps84
 go_upto_region 8 with fail
 obtain ⟨W,eW⟩:∃ W,W=(((w.alloc (.cells #[.bool false,.slice none 0 0,.slice none 0 0,.slice none 0 0] 86)).alloc (.cells #[.bool false,.slice none 0 0,.slice none 0 0,.slice none 0 0] 86)).alloc (.cells #[.slice (some ⟨g,o+1,none⟩) (len - 1) (cap - 1)] 205)):=⟨_,rfl⟩
 have hbW:Below w.heap.size w W:=by rw [eW];exact (((Below.refl _ _).alloc (Nat.le_refl _) _).alloc (by simp) _).alloc (by simp;omega) _
 have hws:W.heap.size=w.heap.size+3:=by rw [eW];simp
 have hr0:W.heap[w.heap.size]?=some (.cells #[.bool false,.slice none 0 0,.slice none 0 0,.slice none 0 0] 86 (0,0)):=by
  rw [eW,Below.heap_alloc _ _ _ (by simp;omega)]
  exact heap_alloc2_old _ _ _
 have hr1:W.heap[w.heap.size+1]?=some (.cells #[.bool false,.slice none 0 0,.slice none 0 0,.slice none 0 0] 86 (0,0)):=by
  rw [eW,Below.heap_alloc _ _ _ (by simp)]
  exact heap_alloc2_new _ _ _
 have hr2:W.heap[w.heap.size+2]?=some (.cells #[.slice (some ⟨g,o+1,none⟩) (len - 1) (cap - 1)] 205 (0,0)):=by
  rw [eW]
  exact (congrArg (fun k=>(World.alloc _ _).heap[k]?) (by simp)).trans (heap_alloc_new _ _)
 rw [← eW]
 have hge:GeS w W W false (.slice none 0 0) (.slice none 0 0) (.slice none 0 0) [] [] [] b:={
  bel:=Below.refl _ _
  out:=hr1
  cur:=⟨some ⟨g,o+1,none⟩,cap - 1,by rw [hr2,show len - 1=b.length by have:=HLEN.out;omega],by omega,by unfold maxLen;omega,HBB.out.below hbW,fun _ a ha=>by injection ha with ha;rw [← ha];show g<_;omega⟩
  rowE:=World.ownsRow_nil _ _ _ _
  rowK:=World.ownsRow_nil _ _ _ _
  rowD:=World.ownsRow_nil _ _ _ _ }
 have c1:=(hbW.cell hgl).trans c0
 have HGE:=Lib.hid hge
 have HBW:=Lib.hid hbW
 have HWS:=Lib.hid hws
 have HR0:=Lib.hid hr0
 clear eW hbW hws hr0 hr1 hr2 hge c0
 go_upto_region 9 with fail
 clear c1
 obtain ⟨ik,hik,hikz,hiks,hikb⟩:=info_parts infoKey_to_any
 obtain ⟨ii,hii,hiiz,hiis,hiib⟩:=info_parts infoIntN
 go_loopw [33] (fun i wr=>∃ (k:Nat) (vK vD:Value),k≤n∧i=.int .u8 k∧Hid (GeS w W wr false (.slice none 0 0) vK vD [] (keysP k b) (kidsP k b) (b.drop (14*k)))) (fun i _=>n - (intOf i).toNat)
 case atStart=>exact ⟨0,_,_,by omega,rfl,by simpa [keysP,kidsP] using HGE⟩
 case round =>
  clear HGE
  obtain ⟨k,vK,vD,hk,rfl,HS⟩:=hrel
  obtain ⟨W0,rfl⟩:∃ W0,W0=wr:=⟨_,rfl⟩
  by_cases hlt:k<n
  ·have hmod:((k:Int)+1) % 256=(k:Int)+1:=by omega
   have HEK:Hid ((keysP k b).length=k):=Lib.hid (by simp [keysP])
   have HED:Hid ((kidsP k b).length=k):=Lib.hid (by simp [kidsP])
   obtain ⟨e,hee⟩:∃ e,keyP (b.drop (14*k))=e:=⟨_,rfl⟩
   obtain ⟨n2,hn2⟩:∃ m,val (((b.drop (14*k)).drop 12).take 2)=m:=⟨_,rfl⟩
   obtain ⟨z,hz⟩:∃ z,wrap64 (n2:Int)=z:=⟨_,rfl⟩
   have HZ2:Hid (kidP (b.drop (14*k))=z):=Lib.hid (by unfold kidP s64;rw [hn2,hz])
   have hsz:w.heap.size+1≤W0.heap.size:=by have:=HS.out.lt;omega
   have HSZ:=Lib.hid hsz
   have HEE:=Lib.hid hee
   have hlb:14≤(b.drop (14*k)).length:=by rw [List.length_drop,HL.out];omega
   have HDD:Hid (((b.drop (14*k)).drop 12).drop 2=b.drop (14*(k+1))):=Lib.hid (by rw [List.drop_drop,List.drop_drop];congr 1)
   have HCK:Hid (∀ W',CurAt W' (w.heap.size+2) (b.drop (14*k))→Calls Tryz.prog 124 #[.pointer (some ⟨w.heap.size+2,0,none⟩)] W' fun e' w'=>e'=.returned (.agg #[.int .i64 e.se,.int .i64 e.st])∧CurAt w' (w.heap.size+2) ((b.drop (14*k)).drop 12)∧W'.grownBy w' (some (w.heap.size+2))):=Lib.hid (fun W' hW=>(key_cur W' _ _ hW (by omega)).mono (fun e' w' ⟨a,c,d⟩=>⟨by rw [a,HEE.out],c,d⟩))
   have HCD:Hid (∀ W',CurAt W' (w.heap.size+2) ((b.drop (14*k)).drop 12)→Calls Tryz.prog 125 #[.pointer (some ⟨w.heap.size+2,0,none⟩),.int .i64 2] W' fun e' w'=>e'=.returned (.int .u64 n2)∧CurAt w' (w.heap.size+2) (b.drop (14*(k+1)))∧W'.grownBy w' (some (w.heap.size+2))):=Lib.hid (fun W' hW=>(high_cur W' _ _ hW 2 2 (by decide) (by decide) (by rw [List.length_drop];omega) (by decide)).mono (fun e' w' ⟨a,c,d,_⟩=>⟨by rw [a,hn2],by rw [HDD.out] at c;exact c,d⟩))
   clear hsz hee hn2 hlb
   have hfill:Hid (Instr.fill (fun i=>some (i*ik.size,ik.size)) ((Array.range (1*ik.size)).map ((Value.agg #[.int .i64 0,.int .i64 0]).cells[· % (Value.agg #[.int .i64 0,.int .i64 0]).cells.size]!)) [(0,.agg #[.int .i64 e.se,.int .i64 e.st])]=some #[.int .i64 e.se,.int .i64 e.st]):=Lib.hid (by rw [hiks];exact fill_twoN _ _ rfl (by simp))
   go_upto_region 12 with fail
   have q1:w.heap.size+1≤W0.heap.size:=by have:=HS.out.lt;omega
   have Q1:=Lib.hid q1
   clear q1
   refine region_ways4 (w.heap.size+1) Q1.out (.two [0] 1 (.one [] 2 (.one [] 3 (.one [] 4 (.one [5] 6 (.done []))))) 2 (.two [] 1 (.one [] 3 (.one [] 4 (.one [5] 6 (.done [])))) 3 (.one [] 1 (.one [] 4 (.one [5] 6 (.done [])))))) (by kernel_rfl) (by kernel_rfl) ?_
   rintro wd1 hbd
   have BD1:Hid (Below (w.heap.size+1) W0 wd1):=Lib.hid (hbd.mono Q1.out)
   have SD1:=Lib.hid (HS.out.below hbd)
   have z1:=nd_cell SD1.out.out 2 _ rfl
   clear hbd
   rw [wpWays_two4]
   try simp only [List.map_cons,List.map_nil,opAt,List.getElem?_toArray,List.getElem?_cons_zero,List.getElem?_cons_succ,Option.getD_some]
   repeat (go_big_quiet_step (fail))
   refine wpQuiet_nil ⟨?_,?_⟩
   ·go_wp2_with fail
    refine ⟨⟨⟨_,BD1.out⟩,rfl⟩,?_⟩
    try simp only [Act.put,List.setIfInBounds_toArray,List.set_cons_zero,List.set_cons_succ]
    rw [wpWays_one4]
    try simp only [List.map_nil,opAt,List.getElem?_toArray,List.getElem?_cons_zero,List.getElem?_cons_succ,Option.getD_some]
    refine wpQuiet_nil ?_
    go_wp2_with (go_at_call 124;(with_reducible refine (HCK.out _ SD1.out.cur).mono ?_);rintro e' x2 ⟨rfl,hcc2,hb2⟩;have B2:=Lib.hid (BD1.out.grown hb2 (Nat.le_trans Q1.out BD1.out.size) (fun k hk=>by injection hk;omega));have S2:=Lib.hid (SD1.out.took hb2 hcc2);clear hb2 hcc2)
    refine ⟨⟨⟨_,B2.out⟩,rfl⟩,?_⟩
    try simp only [Act.put,List.setIfInBounds_toArray,List.set_cons_zero,List.set_cons_succ]
    rw [wpWays_one4]
    try simp only [List.map_nil,opAt,List.getElem?_toArray,List.getElem?_cons_zero,List.getElem?_cons_succ,Option.getD_some]
    refine wpQuiet_nil ?_
    go_wp2_with (refine wpList_buildSlice rfl 84 38 1 _ rfl #[.int .i64 e.se,.int .i64 e.st] ik _ Tryz.underlying84 hik hikz (by rw [hiks];decide) (by rw [hiks];decide) (by rw [Array.toList_map];exact hfill.out) ?_)
    have B3:=Lib.hid (B2.out.alloc (Nat.le_trans Q1.out B2.out.size) (.cells #[.int .i64 e.se,.int .i64 e.st] 38))
    have S3:=Lib.hid (S2.out.below ((Below.refl _ _).alloc (Nat.le_refl _) (.cells #[.int .i64 e.se,.int .i64 e.st] 38)))
    have hnews3:Hid (∀ (j:Nat) (u:Value),(kyC e)[j]?=some u→(x2.alloc (.cells #[.int .i64 e.se,.int .i64 e.st] 38)).cell? ((⟨x2.heap.size,0,none⟩:Addr).add j)=some u):=Lib.hid (fun j u hj=>by rw [Addr.add_mid,World.cell?_alloc_new];simpa [kyC,kdC] using hj)
    refine ⟨⟨⟨_,B3.out⟩,rfl⟩,?_⟩
    try simp only [Act.put,List.setIfInBounds_toArray,List.set_cons_zero,List.set_cons_succ]
    rw [wpWays_one4]
    try simp only [List.map_nil,opAt,List.getElem?_toArray,List.getElem?_cons_zero,List.getElem?_cons_succ,Option.getD_some]
    refine wpQuiet_nil ?_
    go_wp2_with (at_builtin;refine wpList_append_own_at _ rfl (.tmp 43) (.tmp 45) 84 rfl (w.heap.size+3) 38 ik _ 2 16 Tryz.underlying84 hik hikz hiks hikb rfl (by omega) _ (keysP k b).length ((keysP k b).flatMap kyC) rfl S3.out.rowK ⟨x2.heap.size,0,none⟩ 1 1 (kyC e) rfl rfl hnews3.out (kyC_one e) (by rw [HEK.out];unfold maxLen;omega) (by rw [HEK.out];omega) (by have:=S3.out.lt;omega) ?_;intro v4 x4 ho4 hg4 _ _)
    obtain ⟨A4,c4,rfl⟩:=row_form ho4
    obtain ⟨-,o4,-⟩:=S3.out.grown S3.out.rowK hg4 (by decide) (by decide)
    have zc4:=nd_cell o4 2 _ rfl
    have zf4:x4.frozen? ⟨w.heap.size+1,2,none⟩=false:=by simp [World.frozen?,o4]
    have SS4:=Lib.hid (S3.out.setK hg4 ho4)
    have B4:=Lib.hid (B3.out.grown hg4 (Nat.le_trans Q1.out B3.out.size) (fun k hk=>by have:=(S3.out.rowK.lt k hk).1;omega))
    clear ho4 hg4 o4
    refine ⟨⟨⟨_,B4.out⟩,rfl⟩,?_⟩
    try simp only [Act.put,List.setIfInBounds_toArray,List.set_cons_zero,List.set_cons_succ]
    rw [wpWays_one4]
    try simp only [List.map_cons,List.map_nil,opAt,List.getElem?_toArray,List.getElem?_cons_zero,List.getElem?_cons_succ,Option.getD_some]
    repeat (go_big_quiet_step (fail))
    refine wpQuiet_nil ?_
    go_wp2_with fail
    have BX4:Hid (Below (w.heap.size+1) W0 (x4.setCell ⟨w.heap.size+1,2,none⟩ (.slice A4 ((keysP k b).length+1) c4))):=Lib.hid (bel_set B4.out (by omega))
    refine ⟨⟨⟨_,BX4.out⟩,rfl⟩,?_⟩
    try simp only [Act.put,List.setIfInBounds_toArray,List.set_cons_zero,List.set_cons_succ]
    rw [wpWays_done4]
    try simp only [List.map_nil]
    refine wpQuiet_nil ?_
    clear z1 zc4 zf4
    obtain ⟨Y4,hY4⟩:∃ Y,Y=x4.setCell ⟨w.heap.size+1,2,none⟩ (.slice A4 ((keysP k b).length+1) c4):=⟨_,rfl⟩
    rw [← hY4] at SS4 ⊢
    clear hY4 BX4
    go_upto_region 13 with fail
    have q5:w.heap.size+1≤Y4.heap.size:=by have:=SS4.out.lt;omega
    have Q5:=Lib.hid q5
    clear q5
    refine region_ways4 (w.heap.size+1) Q5.out (.two [0] 1 (.one [] 2 (.one [3] 4 (.one [] 5 (.one [6] 7 (.done []))))) 2 (.two [3] 1 (.one [] 4 (.one [] 5 (.one [6] 7 (.done [])))) 4 (.one [] 1 (.one [] 5 (.one [6] 7 (.done [])))))) (by kernel_rfl) (by kernel_rfl) ?_
    rintro wd5 hbd
    have BD5:Hid (Below (w.heap.size+1) Y4 wd5):=Lib.hid (hbd.mono Q5.out)
    have SD5:=Lib.hid (SS4.out.below hbd)
    have z5:=nd_cell SD5.out.out 3 _ rfl
    clear hbd
    rw [wpWays_two4]
    try simp only [List.map_cons,List.map_nil,opAt,List.getElem?_toArray,List.getElem?_cons_zero,List.getElem?_cons_succ,Option.getD_some]
    repeat (go_big_quiet_step (fail))
    refine wpQuiet_nil ⟨?_,?_⟩
    ·go_wp2_with fail
     refine ⟨⟨⟨_,BD5.out⟩,rfl⟩,?_⟩
     try simp only [Act.put,List.setIfInBounds_toArray,List.set_cons_zero,List.set_cons_succ]
     rw [wpWays_one4]
     try simp only [List.map_nil,opAt,List.getElem?_toArray,List.getElem?_cons_zero,List.getElem?_cons_succ,Option.getD_some]
     refine wpQuiet_nil ?_
     go_wp2_with (go_at_call 125;(with_reducible refine (HCD.out _ SD5.out.cur).mono ?_);rintro e' x6 ⟨rfl,hcc6,hb6⟩;have B6:=Lib.hid (BD5.out.grown hb6 (Nat.le_trans Q5.out BD5.out.size) (fun k hk=>by injection hk;omega));have S6:=Lib.hid (SD5.out.took hb6 hcc6);clear hb6 hcc6)
     refine ⟨⟨⟨_,B6.out⟩,rfl⟩,?_⟩
     try simp only [Act.put,List.setIfInBounds_toArray,List.set_cons_zero,List.set_cons_succ]
     rw [wpWays_one4]
     try simp only [List.map_cons,List.map_nil,opAt,List.getElem?_toArray,List.getElem?_cons_zero,List.getElem?_cons_succ,Option.getD_some]
     repeat (go_big_quiet_step (fail))
     refine wpQuiet_nil ?_
     go_wp2_with fail
     have B7:=Lib.hid (B6.out.alloc (Nat.le_trans Q5.out B6.out.size) (.cells #[.int .i64 z] 3))
     have S7:=Lib.hid (S6.out.below ((Below.refl _ _).alloc (Nat.le_refl _) (.cells #[.int .i64 z] 3)))
     have hnews7:Hid (∀ (j:Nat) (u:Value),([kdC z])[j]?=some u→(x6.alloc (.cells #[.int .i64 z] 3)).cell? ((⟨x6.heap.size,0,none⟩:Addr).add j)=some u):=Lib.hid (fun j u hj=>by rw [Addr.add_mid,World.cell?_alloc_new];simpa [kyC,kdC] using hj)
     refine ⟨⟨⟨_,B7.out⟩,rfl⟩,?_⟩
     try simp only [Act.put,List.setIfInBounds_toArray,List.set_cons_zero,List.set_cons_succ]
     rw [wpWays_one4]
     try simp only [List.map_nil,opAt,List.getElem?_toArray,List.getElem?_cons_zero,List.getElem?_cons_succ,Option.getD_some]
     refine wpQuiet_nil ?_
     go_wp2_with (at_builtin;refine wpList_append_own_at _ rfl (.tmp 49) (.tmp 52) 59 rfl (w.heap.size+3) 3 ii _ 1 8 Tryz.underlying59 hii hiiz hiis hiib rfl (by omega) _ (kidsP k b).length ((kidsP k b).map kdC) rfl S7.out.rowD ⟨x6.heap.size,0,none⟩ 1 1 ([kdC z]) rfl rfl hnews7.out (by intro u hu;simp [kdC] at hu;subst hu;rfl) (by rw [HED.out];unfold maxLen;omega) (by rw [HED.out];omega) (by have:=S7.out.lt;omega) ?_;intro v8 x8 ho8 hg8 _ _)
     obtain ⟨A8,c8,rfl⟩:=row_form ho8
     obtain ⟨-,o8,-⟩:=S7.out.grown S7.out.rowD hg8 (by decide) (by decide)
     have zc8:=nd_cell o8 3 _ rfl
     have zf8:x8.frozen? ⟨w.heap.size+1,3,none⟩=false:=by simp [World.frozen?,o8]
     have SS8:=Lib.hid (S7.out.setD hg8 ho8)
     have B8:=Lib.hid (B7.out.grown hg8 (Nat.le_trans Q5.out B7.out.size) (fun k hk=>by have:=(S7.out.rowD.lt k hk).1;omega))
     clear ho8 hg8 o8
     refine ⟨⟨⟨_,B8.out⟩,rfl⟩,?_⟩
     try simp only [Act.put,List.setIfInBounds_toArray,List.set_cons_zero,List.set_cons_succ]
     rw [wpWays_one4]
     try simp only [List.map_cons,List.map_nil,opAt,List.getElem?_toArray,List.getElem?_cons_zero,List.getElem?_cons_succ,Option.getD_some]
     repeat (go_big_quiet_step (fail))
     refine wpQuiet_nil ?_
     go_wp2_with fail
     have BX8:Hid (Below (w.heap.size+1) Y4 (x8.setCell ⟨w.heap.size+1,3,none⟩ (.slice A8 ((kidsP k b).length+1) c8))):=Lib.hid (bel_set B8.out (by omega))
     refine ⟨⟨⟨_,BX8.out⟩,rfl⟩,?_⟩
     try simp only [Act.put,List.setIfInBounds_toArray,List.set_cons_zero,List.set_cons_succ]
     rw [wpWays_done4]
     try simp only [List.map_nil]
     refine wpQuiet_nil ?_
     clear z5 zc8 zf8
     obtain ⟨Y8,hY8⟩:∃ Y,Y=x8.setCell ⟨w.heap.size+1,3,none⟩ (.slice A8 ((kidsP k b).length+1) c8):=⟨_,rfl⟩
     rw [← hY8] at SS8 ⊢
     clear hY8 BX8
     go_wp2_with fail
     go_roundw
     case rel=>exact ⟨k+1,_,_,by omega,by go_num,Lib.hid (by rw [keysP_succ,kidsP_succ,HEE.out,HZ2.out];exact SS8.out)⟩
     case measure=>first | (simp [intOf];done) | (simp [intOf];omega)
    ·skip
     go_wp2_with (go_at_call 125;(with_reducible refine (HCD.out _ SD5.out.cur).mono ?_);rintro e' x9 ⟨rfl,hcc9,hb9⟩;have B9:=Lib.hid (BD5.out.grown hb9 (Nat.le_trans Q5.out BD5.out.size) (fun k hk=>by injection hk;omega));have S9:=Lib.hid (SD5.out.took hb9 hcc9);clear hb9 hcc9)
     have zz9:=nd_cell S9.out.out 3 _ rfl
     refine ⟨⟨⟨_,B9.out⟩,rfl⟩,?_⟩
     try simp only [Act.put,List.setIfInBounds_toArray,List.set_cons_zero,List.set_cons_succ]
     rw [wpWays_two4]
     try simp only [List.map_cons,List.map_nil,opAt,List.getElem?_toArray,List.getElem?_cons_zero,List.getElem?_cons_succ,Option.getD_some]
     repeat (go_big_quiet_step (fail))
     refine wpQuiet_nil ⟨?_,?_⟩
     ·go_wp2_with fail
      refine ⟨⟨⟨_,B9.out⟩,rfl⟩,?_⟩
      try simp only [Act.put,List.setIfInBounds_toArray,List.set_cons_zero,List.set_cons_succ]
      rw [wpWays_one4]
      try simp only [List.map_nil,opAt,List.getElem?_toArray,List.getElem?_cons_zero,List.getElem?_cons_succ,Option.getD_some]
      refine wpQuiet_nil ?_
      go_wp2_with fail
      have B10:=Lib.hid (B9.out.alloc (Nat.le_trans Q5.out B9.out.size) (.cells #[.int .i64 z] 3))
      have S10:=Lib.hid (S9.out.below ((Below.refl _ _).alloc (Nat.le_refl _) (.cells #[.int .i64 z] 3)))
      have hnews10:Hid (∀ (j:Nat) (u:Value),([kdC z])[j]?=some u→(x9.alloc (.cells #[.int .i64 z] 3)).cell? ((⟨x9.heap.size,0,none⟩:Addr).add j)=some u):=Lib.hid (fun j u hj=>by rw [Addr.add_mid,World.cell?_alloc_new];simpa [kyC,kdC] using hj)
      refine ⟨⟨⟨_,B10.out⟩,rfl⟩,?_⟩
      try simp only [Act.put,List.setIfInBounds_toArray,List.set_cons_zero,List.set_cons_succ]
      rw [wpWays_one4]
      try simp only [List.map_nil,opAt,List.getElem?_toArray,List.getElem?_cons_zero,List.getElem?_cons_succ,Option.getD_some]
      refine wpQuiet_nil ?_
      go_wp2_with (at_builtin;refine wpList_append_own_at _ rfl (.tmp 49) (.tmp 52) 59 rfl (w.heap.size+3) 3 ii _ 1 8 Tryz.underlying59 hii hiiz hiis hiib rfl (by omega) _ (kidsP k b).length ((kidsP k b).map kdC) rfl S10.out.rowD ⟨x9.heap.size,0,none⟩ 1 1 ([kdC z]) rfl rfl hnews10.out (by intro u hu;simp [kdC] at hu;subst hu;rfl) (by rw [HED.out];unfold maxLen;omega) (by rw [HED.out];omega) (by have:=S10.out.lt;omega) ?_;intro v11 x11 ho11 hg11 _ _)
      obtain ⟨A11,c11,rfl⟩:=row_form ho11
      obtain ⟨-,o11,-⟩:=S10.out.grown S10.out.rowD hg11 (by decide) (by decide)
      have zc11:=nd_cell o11 3 _ rfl
      have zf11:x11.frozen? ⟨w.heap.size+1,3,none⟩=false:=by simp [World.frozen?,o11]
      have SS11:=Lib.hid (S10.out.setD hg11 ho11)
      have B11:=Lib.hid (B10.out.grown hg11 (Nat.le_trans Q5.out B10.out.size) (fun k hk=>by have:=(S10.out.rowD.lt k hk).1;omega))
      clear ho11 hg11 o11
      refine ⟨⟨⟨_,B11.out⟩,rfl⟩,?_⟩
      try simp only [Act.put,List.setIfInBounds_toArray,List.set_cons_zero,List.set_cons_succ]
      rw [wpWays_one4]
      try simp only [List.map_cons,List.map_nil,opAt,List.getElem?_toArray,List.getElem?_cons_zero,List.getElem?_cons_succ,Option.getD_some]
      repeat (go_big_quiet_step (fail))
      refine wpQuiet_nil ?_
      go_wp2_with fail
      have BX11:Hid (Below (w.heap.size+1) Y4 (x11.setCell ⟨w.heap.size+1,3,none⟩ (.slice A11 ((kidsP k b).length+1) c11))):=Lib.hid (bel_set B11.out (by omega))
      refine ⟨⟨⟨_,BX11.out⟩,rfl⟩,?_⟩
      try simp only [Act.put,List.setIfInBounds_toArray,List.set_cons_zero,List.set_cons_succ]
      rw [wpWays_done4]
      try simp only [List.map_nil]
      refine wpQuiet_nil ?_
      clear z5 zc11 zf11
      obtain ⟨Y11,hY11⟩:∃ Y,Y=x11.setCell ⟨w.heap.size+1,3,none⟩ (.slice A11 ((kidsP k b).length+1) c11):=⟨_,rfl⟩
      rw [← hY11] at SS11 ⊢
      clear hY11 BX11
      go_wp2_with fail
      go_roundw
      case rel=>exact ⟨k+1,_,_,by omega,by go_num,Lib.hid (by rw [keysP_succ,kidsP_succ,HEE.out,HZ2.out];exact SS11.out)⟩
      case measure=>first | (simp [intOf];done) | (simp [intOf];omega)
     ·skip
      go_wp2_with fail
      have B12:=Lib.hid (B9.out.alloc (Nat.le_trans Q5.out B9.out.size) (.cells #[.int .i64 z] 3))
      have S12:=Lib.hid (S9.out.below ((Below.refl _ _).alloc (Nat.le_refl _) (.cells #[.int .i64 z] 3)))
      have hnews12:Hid (∀ (j:Nat) (u:Value),([kdC z])[j]?=some u→(x9.alloc (.cells #[.int .i64 z] 3)).cell? ((⟨x9.heap.size,0,none⟩:Addr).add j)=some u):=Lib.hid (fun j u hj=>by rw [Addr.add_mid,World.cell?_alloc_new];simpa [kyC,kdC] using hj)
      have zz12:=nd_cell S12.out.out 3 _ rfl
      refine ⟨⟨⟨_,B12.out⟩,rfl⟩,?_⟩
      try simp only [Act.put,List.setIfInBounds_toArray,List.set_cons_zero,List.set_cons_succ]
      rw [wpWays_one4]
      try simp only [List.map_nil,opAt,List.getElem?_toArray,List.getElem?_cons_zero,List.getElem?_cons_succ,Option.getD_some]
      refine wpQuiet_nil ?_
      go_wp2_with fail
      refine ⟨⟨⟨_,B12.out⟩,rfl⟩,?_⟩
      try simp only [Act.put,List.setIfInBounds_toArray,List.set_cons_zero,List.set_cons_succ]
      rw [wpWays_one4]
      try simp only [List.map_nil,opAt,List.getElem?_toArray,List.getElem?_cons_zero,List.getElem?_cons_succ,Option.getD_some]
      refine wpQuiet_nil ?_
      go_wp2_with (at_builtin;refine wpList_append_own_at _ rfl (.tmp 49) (.tmp 52) 59 rfl (w.heap.size+3) 3 ii _ 1 8 Tryz.underlying59 hii hiiz hiis hiib rfl (by omega) _ (kidsP k b).length ((kidsP k b).map kdC) rfl S12.out.rowD ⟨x9.heap.size,0,none⟩ 1 1 ([kdC z]) rfl rfl hnews12.out (by intro u hu;simp [kdC] at hu;subst hu;rfl) (by rw [HED.out];unfold maxLen;omega) (by rw [HED.out];omega) (by have:=S12.out.lt;omega) ?_;intro v13 x13 ho13 hg13 _ _)
      obtain ⟨A13,c13,rfl⟩:=row_form ho13
      obtain ⟨-,o13,-⟩:=S12.out.grown S12.out.rowD hg13 (by decide) (by decide)
      have zc13:=nd_cell o13 3 _ rfl
      have zf13:x13.frozen? ⟨w.heap.size+1,3,none⟩=false:=by simp [World.frozen?,o13]
      have SS13:=Lib.hid (S12.out.setD hg13 ho13)
      have B13:=Lib.hid (B12.out.grown hg13 (Nat.le_trans Q5.out B12.out.size) (fun k hk=>by have:=(S12.out.rowD.lt k hk).1;omega))
      clear ho13 hg13 o13
      refine ⟨⟨⟨_,B13.out⟩,rfl⟩,?_⟩
      try simp only [Act.put,List.setIfInBounds_toArray,List.set_cons_zero,List.set_cons_succ]
      rw [wpWays_one4]
      try simp only [List.map_cons,List.map_nil,opAt,List.getElem?_toArray,List.getElem?_cons_zero,List.getElem?_cons_succ,Option.getD_some]
      repeat (go_big_quiet_step (fail))
      refine wpQuiet_nil ?_
      go_wp2_with fail
      have BX13:Hid (Below (w.heap.size+1) Y4 (x13.setCell ⟨w.heap.size+1,3,none⟩ (.slice A13 ((kidsP k b).length+1) c13))):=Lib.hid (bel_set B13.out (by omega))
      refine ⟨⟨⟨_,BX13.out⟩,rfl⟩,?_⟩
      try simp only [Act.put,List.setIfInBounds_toArray,List.set_cons_zero,List.set_cons_succ]
      rw [wpWays_done4]
      try simp only [List.map_nil]
      refine wpQuiet_nil ?_
      clear z5 zc13 zf13
      obtain ⟨Y13,hY13⟩:∃ Y,Y=x13.setCell ⟨w.heap.size+1,3,none⟩ (.slice A13 ((kidsP k b).length+1) c13):=⟨_,rfl⟩
      rw [← hY13] at SS13 ⊢
      clear hY13 BX13
      go_wp2_with fail
      go_roundw
      case rel=>exact ⟨k+1,_,_,by omega,by go_num,Lib.hid (by rw [keysP_succ,kidsP_succ,HEE.out,HZ2.out];exact SS13.out)⟩
      case measure=>first | (simp [intOf];done) | (simp [intOf];omega)
   ·skip
    go_wp2_with (go_at_call 124;(with_reducible refine (HCK.out _ SD1.out.cur).mono ?_);rintro e' x14 ⟨rfl,hcc14,hb14⟩;have B14:=Lib.hid (BD1.out.grown hb14 (Nat.le_trans Q1.out BD1.out.size) (fun k hk=>by injection hk;omega));have S14:=Lib.hid (SD1.out.took hb14 hcc14);clear hb14 hcc14)
    have zz14:=nd_cell S14.out.out 2 _ rfl
    refine ⟨⟨⟨_,B14.out⟩,rfl⟩,?_⟩
    try simp only [Act.put,List.setIfInBounds_toArray,List.set_cons_zero,List.set_cons_succ]
    rw [wpWays_two4]
    try simp only [List.map_nil,opAt,List.getElem?_toArray,List.getElem?_cons_zero,List.getElem?_cons_succ,Option.getD_some]
    refine wpQuiet_nil ⟨?_,?_⟩
    ·go_wp2_with fail
     refine ⟨⟨⟨_,B14.out⟩,rfl⟩,?_⟩
     try simp only [Act.put,List.setIfInBounds_toArray,List.set_cons_zero,List.set_cons_succ]
     rw [wpWays_one4]
     try simp only [List.map_nil,opAt,List.getElem?_toArray,List.getElem?_cons_zero,List.getElem?_cons_succ,Option.getD_some]
     refine wpQuiet_nil ?_
     go_wp2_with (refine wpList_buildSlice rfl 84 38 1 _ rfl #[.int .i64 e.se,.int .i64 e.st] ik _ Tryz.underlying84 hik hikz (by rw [hiks];decide) (by rw [hiks];decide) (by rw [Array.toList_map];exact hfill.out) ?_)
     have B15:=Lib.hid (B14.out.alloc (Nat.le_trans Q1.out B14.out.size) (.cells #[.int .i64 e.se,.int .i64 e.st] 38))
     have S15:=Lib.hid (S14.out.below ((Below.refl _ _).alloc (Nat.le_refl _) (.cells #[.int .i64 e.se,.int .i64 e.st] 38)))
     have hnews15:Hid (∀ (j:Nat) (u:Value),(kyC e)[j]?=some u→(x14.alloc (.cells #[.int .i64 e.se,.int .i64 e.st] 38)).cell? ((⟨x14.heap.size,0,none⟩:Addr).add j)=some u):=Lib.hid (fun j u hj=>by rw [Addr.add_mid,World.cell?_alloc_new];simpa [kyC,kdC] using hj)
     refine ⟨⟨⟨_,B15.out⟩,rfl⟩,?_⟩
     try simp only [Act.put,List.setIfInBounds_toArray,List.set_cons_zero,List.set_cons_succ]
     rw [wpWays_one4]
     try simp only [List.map_nil,opAt,List.getElem?_toArray,List.getElem?_cons_zero,List.getElem?_cons_succ,Option.getD_some]
     refine wpQuiet_nil ?_
     go_wp2_with (at_builtin;refine wpList_append_own_at _ rfl (.tmp 43) (.tmp 45) 84 rfl (w.heap.size+3) 38 ik _ 2 16 Tryz.underlying84 hik hikz hiks hikb rfl (by omega) _ (keysP k b).length ((keysP k b).flatMap kyC) rfl S15.out.rowK ⟨x14.heap.size,0,none⟩ 1 1 (kyC e) rfl rfl hnews15.out (kyC_one e) (by rw [HEK.out];unfold maxLen;omega) (by rw [HEK.out];omega) (by have:=S15.out.lt;omega) ?_;intro v16 x16 ho16 hg16 _ _)
     obtain ⟨A16,c16,rfl⟩:=row_form ho16
     obtain ⟨-,o16,-⟩:=S15.out.grown S15.out.rowK hg16 (by decide) (by decide)
     have zc16:=nd_cell o16 2 _ rfl
     have zf16:x16.frozen? ⟨w.heap.size+1,2,none⟩=false:=by simp [World.frozen?,o16]
     have SS16:=Lib.hid (S15.out.setK hg16 ho16)
     have B16:=Lib.hid (B15.out.grown hg16 (Nat.le_trans Q1.out B15.out.size) (fun k hk=>by have:=(S15.out.rowK.lt k hk).1;omega))
     clear ho16 hg16 o16
     refine ⟨⟨⟨_,B16.out⟩,rfl⟩,?_⟩
     try simp only [Act.put,List.setIfInBounds_toArray,List.set_cons_zero,List.set_cons_succ]
     rw [wpWays_one4]
     try simp only [List.map_cons,List.map_nil,opAt,List.getElem?_toArray,List.getElem?_cons_zero,List.getElem?_cons_succ,Option.getD_some]
     repeat (go_big_quiet_step (fail))
     refine wpQuiet_nil ?_
     go_wp2_with fail
     have BX16:Hid (Below (w.heap.size+1) W0 (x16.setCell ⟨w.heap.size+1,2,none⟩ (.slice A16 ((keysP k b).length+1) c16))):=Lib.hid (bel_set B16.out (by omega))
     refine ⟨⟨⟨_,BX16.out⟩,rfl⟩,?_⟩
     try simp only [Act.put,List.setIfInBounds_toArray,List.set_cons_zero,List.set_cons_succ]
     rw [wpWays_done4]
     try simp only [List.map_nil]
     refine wpQuiet_nil ?_
     clear z1 zc16 zf16
     obtain ⟨Y16,hY16⟩:∃ Y,Y=x16.setCell ⟨w.heap.size+1,2,none⟩ (.slice A16 ((keysP k b).length+1) c16):=⟨_,rfl⟩
     rw [← hY16] at SS16 ⊢
     clear hY16 BX16
     go_upto_region 13 with fail
     have q17:w.heap.size+1≤Y16.heap.size:=by have:=SS16.out.lt;omega
     have Q17:=Lib.hid q17
     clear q17
     refine region_ways4 (w.heap.size+1) Q17.out (.two [0] 1 (.one [] 2 (.one [3] 4 (.one [] 5 (.one [6] 7 (.done []))))) 2 (.two [3] 1 (.one [] 4 (.one [] 5 (.one [6] 7 (.done [])))) 4 (.one [] 1 (.one [] 5 (.one [6] 7 (.done [])))))) (by kernel_rfl) (by kernel_rfl) ?_
     rintro wd17 hbd
     have BD17:Hid (Below (w.heap.size+1) Y16 wd17):=Lib.hid (hbd.mono Q17.out)
     have SD17:=Lib.hid (SS16.out.below hbd)
     have z17:=nd_cell SD17.out.out 3 _ rfl
     clear hbd
     rw [wpWays_two4]
     try simp only [List.map_cons,List.map_nil,opAt,List.getElem?_toArray,List.getElem?_cons_zero,List.getElem?_cons_succ,Option.getD_some]
     repeat (go_big_quiet_step (fail))
     refine wpQuiet_nil ⟨?_,?_⟩
     ·go_wp2_with fail
      refine ⟨⟨⟨_,BD17.out⟩,rfl⟩,?_⟩
      try simp only [Act.put,List.setIfInBounds_toArray,List.set_cons_zero,List.set_cons_succ]
      rw [wpWays_one4]
      try simp only [List.map_nil,opAt,List.getElem?_toArray,List.getElem?_cons_zero,List.getElem?_cons_succ,Option.getD_some]
      refine wpQuiet_nil ?_
      go_wp2_with (go_at_call 125;(with_reducible refine (HCD.out _ SD17.out.cur).mono ?_);rintro e' x18 ⟨rfl,hcc18,hb18⟩;have B18:=Lib.hid (BD17.out.grown hb18 (Nat.le_trans Q17.out BD17.out.size) (fun k hk=>by injection hk;omega));have S18:=Lib.hid (SD17.out.took hb18 hcc18);clear hb18 hcc18)
      refine ⟨⟨⟨_,B18.out⟩,rfl⟩,?_⟩
      try simp only [Act.put,List.setIfInBounds_toArray,List.set_cons_zero,List.set_cons_succ]
      rw [wpWays_one4]
      try simp only [List.map_cons,List.map_nil,opAt,List.getElem?_toArray,List.getElem?_cons_zero,List.getElem?_cons_succ,Option.getD_some]
      repeat (go_big_quiet_step (fail))
      refine wpQuiet_nil ?_
      go_wp2_with fail
      have B19:=Lib.hid (B18.out.alloc (Nat.le_trans Q17.out B18.out.size) (.cells #[.int .i64 z] 3))
      have S19:=Lib.hid (S18.out.below ((Below.refl _ _).alloc (Nat.le_refl _) (.cells #[.int .i64 z] 3)))
      have hnews19:Hid (∀ (j:Nat) (u:Value),([kdC z])[j]?=some u→(x18.alloc (.cells #[.int .i64 z] 3)).cell? ((⟨x18.heap.size,0,none⟩:Addr).add j)=some u):=Lib.hid (fun j u hj=>by rw [Addr.add_mid,World.cell?_alloc_new];simpa [kyC,kdC] using hj)
      refine ⟨⟨⟨_,B19.out⟩,rfl⟩,?_⟩
      try simp only [Act.put,List.setIfInBounds_toArray,List.set_cons_zero,List.set_cons_succ]
      rw [wpWays_one4]
      try simp only [List.map_nil,opAt,List.getElem?_toArray,List.getElem?_cons_zero,List.getElem?_cons_succ,Option.getD_some]
      refine wpQuiet_nil ?_
      go_wp2_with (at_builtin;refine wpList_append_own_at _ rfl (.tmp 49) (.tmp 52) 59 rfl (w.heap.size+3) 3 ii _ 1 8 Tryz.underlying59 hii hiiz hiis hiib rfl (by omega) _ (kidsP k b).length ((kidsP k b).map kdC) rfl S19.out.rowD ⟨x18.heap.size,0,none⟩ 1 1 ([kdC z]) rfl rfl hnews19.out (by intro u hu;simp [kdC] at hu;subst hu;rfl) (by rw [HED.out];unfold maxLen;omega) (by rw [HED.out];omega) (by have:=S19.out.lt;omega) ?_;intro v20 x20 ho20 hg20 _ _)
      obtain ⟨A20,c20,rfl⟩:=row_form ho20
      obtain ⟨-,o20,-⟩:=S19.out.grown S19.out.rowD hg20 (by decide) (by decide)
      have zc20:=nd_cell o20 3 _ rfl
      have zf20:x20.frozen? ⟨w.heap.size+1,3,none⟩=false:=by simp [World.frozen?,o20]
      have SS20:=Lib.hid (S19.out.setD hg20 ho20)
      have B20:=Lib.hid (B19.out.grown hg20 (Nat.le_trans Q17.out B19.out.size) (fun k hk=>by have:=(S19.out.rowD.lt k hk).1;omega))
      clear ho20 hg20 o20
      refine ⟨⟨⟨_,B20.out⟩,rfl⟩,?_⟩
      try simp only [Act.put,List.setIfInBounds_toArray,List.set_cons_zero,List.set_cons_succ]
      rw [wpWays_one4]
      try simp only [List.map_cons,List.map_nil,opAt,List.getElem?_toArray,List.getElem?_cons_zero,List.getElem?_cons_succ,Option.getD_some]
      repeat (go_big_quiet_step (fail))
      refine wpQuiet_nil ?_
      go_wp2_with fail
      have BX20:Hid (Below (w.heap.size+1) Y16 (x20.setCell ⟨w.heap.size+1,3,none⟩ (.slice A20 ((kidsP k b).length+1) c20))):=Lib.hid (bel_set B20.out (by omega))
      refine ⟨⟨⟨_,BX20.out⟩,rfl⟩,?_⟩
      try simp only [Act.put,List.setIfInBounds_toArray,List.set_cons_zero,List.set_cons_succ]
      rw [wpWays_done4]
      try simp only [List.map_nil]
      refine wpQuiet_nil ?_
      clear z17 zc20 zf20
      obtain ⟨Y20,hY20⟩:∃ Y,Y=x20.setCell ⟨w.heap.size+1,3,none⟩ (.slice A20 ((kidsP k b).length+1) c20):=⟨_,rfl⟩
      rw [← hY20] at SS20 ⊢
      clear hY20 BX20
      go_wp2_with fail
      go_roundw
      case rel=>exact ⟨k+1,_,_,by omega,by go_num,Lib.hid (by rw [keysP_succ,kidsP_succ,HEE.out,HZ2.out];exact SS20.out)⟩
      case measure=>first | (simp [intOf];done) | (simp [intOf];omega)
     ·skip
      go_wp2_with (go_at_call 125;(with_reducible refine (HCD.out _ SD17.out.cur).mono ?_);rintro e' x21 ⟨rfl,hcc21,hb21⟩;have B21:=Lib.hid (BD17.out.grown hb21 (Nat.le_trans Q17.out BD17.out.size) (fun k hk=>by injection hk;omega));have S21:=Lib.hid (SD17.out.took hb21 hcc21);clear hb21 hcc21)
      have zz21:=nd_cell S21.out.out 3 _ rfl
      refine ⟨⟨⟨_,B21.out⟩,rfl⟩,?_⟩
      try simp only [Act.put,List.setIfInBounds_toArray,List.set_cons_zero,List.set_cons_succ]
      rw [wpWays_two4]
      try simp only [List.map_cons,List.map_nil,opAt,List.getElem?_toArray,List.getElem?_cons_zero,List.getElem?_cons_succ,Option.getD_some]
      repeat (go_big_quiet_step (fail))
      refine wpQuiet_nil ⟨?_,?_⟩
      ·go_wp2_with fail
       refine ⟨⟨⟨_,B21.out⟩,rfl⟩,?_⟩
       try simp only [Act.put,List.setIfInBounds_toArray,List.set_cons_zero,List.set_cons_succ]
       rw [wpWays_one4]
       try simp only [List.map_nil,opAt,List.getElem?_toArray,List.getElem?_cons_zero,List.getElem?_cons_succ,Option.getD_some]
       refine wpQuiet_nil ?_
       go_wp2_with fail
       have B22:=Lib.hid (B21.out.alloc (Nat.le_trans Q17.out B21.out.size) (.cells #[.int .i64 z] 3))
       have S22:=Lib.hid (S21.out.below ((Below.refl _ _).alloc (Nat.le_refl _) (.cells #[.int .i64 z] 3)))
       have hnews22:Hid (∀ (j:Nat) (u:Value),([kdC z])[j]?=some u→(x21.alloc (.cells #[.int .i64 z] 3)).cell? ((⟨x21.heap.size,0,none⟩:Addr).add j)=some u):=Lib.hid (fun j u hj=>by rw [Addr.add_mid,World.cell?_alloc_new];simpa [kyC,kdC] using hj)
       refine ⟨⟨⟨_,B22.out⟩,rfl⟩,?_⟩
       try simp only [Act.put,List.setIfInBounds_toArray,List.set_cons_zero,List.set_cons_succ]
       rw [wpWays_one4]
       try simp only [List.map_nil,opAt,List.getElem?_toArray,List.getElem?_cons_zero,List.getElem?_cons_succ,Option.getD_some]
       refine wpQuiet_nil ?_
       go_wp2_with (at_builtin;refine wpList_append_own_at _ rfl (.tmp 49) (.tmp 52) 59 rfl (w.heap.size+3) 3 ii _ 1 8 Tryz.underlying59 hii hiiz hiis hiib rfl (by omega) _ (kidsP k b).length ((kidsP k b).map kdC) rfl S22.out.rowD ⟨x21.heap.size,0,none⟩ 1 1 ([kdC z]) rfl rfl hnews22.out (by intro u hu;simp [kdC] at hu;subst hu;rfl) (by rw [HED.out];unfold maxLen;omega) (by rw [HED.out];omega) (by have:=S22.out.lt;omega) ?_;intro v23 x23 ho23 hg23 _ _)
       obtain ⟨A23,c23,rfl⟩:=row_form ho23
       obtain ⟨-,o23,-⟩:=S22.out.grown S22.out.rowD hg23 (by decide) (by decide)
       have zc23:=nd_cell o23 3 _ rfl
       have zf23:x23.frozen? ⟨w.heap.size+1,3,none⟩=false:=by simp [World.frozen?,o23]
       have SS23:=Lib.hid (S22.out.setD hg23 ho23)
       have B23:=Lib.hid (B22.out.grown hg23 (Nat.le_trans Q17.out B22.out.size) (fun k hk=>by have:=(S22.out.rowD.lt k hk).1;omega))
       clear ho23 hg23 o23
       refine ⟨⟨⟨_,B23.out⟩,rfl⟩,?_⟩
       try simp only [Act.put,List.setIfInBounds_toArray,List.set_cons_zero,List.set_cons_succ]
       rw [wpWays_one4]
       try simp only [List.map_cons,List.map_nil,opAt,List.getElem?_toArray,List.getElem?_cons_zero,List.getElem?_cons_succ,Option.getD_some]
       repeat (go_big_quiet_step (fail))
       refine wpQuiet_nil ?_
       go_wp2_with fail
       have BX23:Hid (Below (w.heap.size+1) Y16 (x23.setCell ⟨w.heap.size+1,3,none⟩ (.slice A23 ((kidsP k b).length+1) c23))):=Lib.hid (bel_set B23.out (by omega))
       refine ⟨⟨⟨_,BX23.out⟩,rfl⟩,?_⟩
       try simp only [Act.put,List.setIfInBounds_toArray,List.set_cons_zero,List.set_cons_succ]
       rw [wpWays_done4]
       try simp only [List.map_nil]
       refine wpQuiet_nil ?_
       clear z17 zc23 zf23
       obtain ⟨Y23,hY23⟩:∃ Y,Y=x23.setCell ⟨w.heap.size+1,3,none⟩ (.slice A23 ((kidsP k b).length+1) c23):=⟨_,rfl⟩
       rw [← hY23] at SS23 ⊢
       clear hY23 BX23
       go_wp2_with fail
       go_roundw
       case rel=>exact ⟨k+1,_,_,by omega,by go_num,Lib.hid (by rw [keysP_succ,kidsP_succ,HEE.out,HZ2.out];exact SS23.out)⟩
       case measure=>first | (simp [intOf];done) | (simp [intOf];omega)
      ·skip
       go_wp2_with fail
       have B24:=Lib.hid (B21.out.alloc (Nat.le_trans Q17.out B21.out.size) (.cells #[.int .i64 z] 3))
       have S24:=Lib.hid (S21.out.below ((Below.refl _ _).alloc (Nat.le_refl _) (.cells #[.int .i64 z] 3)))
       have hnews24:Hid (∀ (j:Nat) (u:Value),([kdC z])[j]?=some u→(x21.alloc (.cells #[.int .i64 z] 3)).cell? ((⟨x21.heap.size,0,none⟩:Addr).add j)=some u):=Lib.hid (fun j u hj=>by rw [Addr.add_mid,World.cell?_alloc_new];simpa [kyC,kdC] using hj)
       have zz24:=nd_cell S24.out.out 3 _ rfl
       refine ⟨⟨⟨_,B24.out⟩,rfl⟩,?_⟩
       try simp only [Act.put,List.setIfInBounds_toArray,List.set_cons_zero,List.set_cons_succ]
       rw [wpWays_one4]
       try simp only [List.map_nil,opAt,List.getElem?_toArray,List.getElem?_cons_zero,List.getElem?_cons_succ,Option.getD_some]
       refine wpQuiet_nil ?_
       go_wp2_with fail
       refine ⟨⟨⟨_,B24.out⟩,rfl⟩,?_⟩
       try simp only [Act.put,List.setIfInBounds_toArray,List.set_cons_zero,List.set_cons_succ]
       rw [wpWays_one4]
       try simp only [List.map_nil,opAt,List.getElem?_toArray,List.getElem?_cons_zero,List.getElem?_cons_succ,Option.getD_some]
       refine wpQuiet_nil ?_
       go_wp2_with (at_builtin;refine wpList_append_own_at _ rfl (.tmp 49) (.tmp 52) 59 rfl (w.heap.size+3) 3 ii _ 1 8 Tryz.underlying59 hii hiiz hiis hiib rfl (by omega) _ (kidsP k b).length ((kidsP k b).map kdC) rfl S24.out.rowD ⟨x21.heap.size,0,none⟩ 1 1 ([kdC z]) rfl rfl hnews24.out (by intro u hu;simp [kdC] at hu;subst hu;rfl) (by rw [HED.out];unfold maxLen;omega) (by rw [HED.out];omega) (by have:=S24.out.lt;omega) ?_;intro v25 x25 ho25 hg25 _ _)
       obtain ⟨A25,c25,rfl⟩:=row_form ho25
       obtain ⟨-,o25,-⟩:=S24.out.grown S24.out.rowD hg25 (by decide) (by decide)
       have zc25:=nd_cell o25 3 _ rfl
       have zf25:x25.frozen? ⟨w.heap.size+1,3,none⟩=false:=by simp [World.frozen?,o25]
       have SS25:=Lib.hid (S24.out.setD hg25 ho25)
       have B25:=Lib.hid (B24.out.grown hg25 (Nat.le_trans Q17.out B24.out.size) (fun k hk=>by have:=(S24.out.rowD.lt k hk).1;omega))
       clear ho25 hg25 o25
       refine ⟨⟨⟨_,B25.out⟩,rfl⟩,?_⟩
       try simp only [Act.put,List.setIfInBounds_toArray,List.set_cons_zero,List.set_cons_succ]
       rw [wpWays_one4]
       try simp only [List.map_cons,List.map_nil,opAt,List.getElem?_toArray,List.getElem?_cons_zero,List.getElem?_cons_succ,Option.getD_some]
       repeat (go_big_quiet_step (fail))
       refine wpQuiet_nil ?_
       go_wp2_with fail
       have BX25:Hid (Below (w.heap.size+1) Y16 (x25.setCell ⟨w.heap.size+1,3,none⟩ (.slice A25 ((kidsP k b).length+1) c25))):=Lib.hid (bel_set B25.out (by omega))
       refine ⟨⟨⟨_,BX25.out⟩,rfl⟩,?_⟩
       try simp only [Act.put,List.setIfInBounds_toArray,List.set_cons_zero,List.set_cons_succ]
       rw [wpWays_done4]
       try simp only [List.map_nil]
       refine wpQuiet_nil ?_
       clear z17 zc25 zf25
       obtain ⟨Y25,hY25⟩:∃ Y,Y=x25.setCell ⟨w.heap.size+1,3,none⟩ (.slice A25 ((kidsP k b).length+1) c25):=⟨_,rfl⟩
       rw [← hY25] at SS25 ⊢
       clear hY25 BX25
       go_wp2_with fail
       go_roundw
       case rel=>exact ⟨k+1,_,_,by omega,by go_num,Lib.hid (by rw [keysP_succ,kidsP_succ,HEE.out,HZ2.out];exact SS25.out)⟩
       case measure=>first | (simp [intOf];done) | (simp [intOf];omega)
    ·skip
     go_wp2_with (refine wpList_buildSlice rfl 84 38 1 _ rfl #[.int .i64 e.se,.int .i64 e.st] ik _ Tryz.underlying84 hik hikz (by rw [hiks];decide) (by rw [hiks];decide) (by rw [Array.toList_map];exact hfill.out) ?_)
     have B26:=Lib.hid (B14.out.alloc (Nat.le_trans Q1.out B14.out.size) (.cells #[.int .i64 e.se,.int .i64 e.st] 38))
     have S26:=Lib.hid (S14.out.below ((Below.refl _ _).alloc (Nat.le_refl _) (.cells #[.int .i64 e.se,.int .i64 e.st] 38)))
     have hnews26:Hid (∀ (j:Nat) (u:Value),(kyC e)[j]?=some u→(x14.alloc (.cells #[.int .i64 e.se,.int .i64 e.st] 38)).cell? ((⟨x14.heap.size,0,none⟩:Addr).add j)=some u):=Lib.hid (fun j u hj=>by rw [Addr.add_mid,World.cell?_alloc_new];simpa [kyC,kdC] using hj)
     have zz26:=nd_cell S26.out.out 2 _ rfl
     refine ⟨⟨⟨_,B26.out⟩,rfl⟩,?_⟩
     try simp only [Act.put,List.setIfInBounds_toArray,List.set_cons_zero,List.set_cons_succ]
     rw [wpWays_one4]
     try simp only [List.map_nil,opAt,List.getElem?_toArray,List.getElem?_cons_zero,List.getElem?_cons_succ,Option.getD_some]
     refine wpQuiet_nil ?_
     go_wp2_with fail
     refine ⟨⟨⟨_,B26.out⟩,rfl⟩,?_⟩
     try simp only [Act.put,List.setIfInBounds_toArray,List.set_cons_zero,List.set_cons_succ]
     rw [wpWays_one4]
     try simp only [List.map_nil,opAt,List.getElem?_toArray,List.getElem?_cons_zero,List.getElem?_cons_succ,Option.getD_some]
     refine wpQuiet_nil ?_
     go_wp2_with (at_builtin;refine wpList_append_own_at _ rfl (.tmp 43) (.tmp 45) 84 rfl (w.heap.size+3) 38 ik _ 2 16 Tryz.underlying84 hik hikz hiks hikb rfl (by omega) _ (keysP k b).length ((keysP k b).flatMap kyC) rfl S26.out.rowK ⟨x14.heap.size,0,none⟩ 1 1 (kyC e) rfl rfl hnews26.out (kyC_one e) (by rw [HEK.out];unfold maxLen;omega) (by rw [HEK.out];omega) (by have:=S26.out.lt;omega) ?_;intro v27 x27 ho27 hg27 _ _)
     obtain ⟨A27,c27,rfl⟩:=row_form ho27
     obtain ⟨-,o27,-⟩:=S26.out.grown S26.out.rowK hg27 (by decide) (by decide)
     have zc27:=nd_cell o27 2 _ rfl
     have zf27:x27.frozen? ⟨w.heap.size+1,2,none⟩=false:=by simp [World.frozen?,o27]
     have SS27:=Lib.hid (S26.out.setK hg27 ho27)
     have B27:=Lib.hid (B26.out.grown hg27 (Nat.le_trans Q1.out B26.out.size) (fun k hk=>by have:=(S26.out.rowK.lt k hk).1;omega))
     clear ho27 hg27 o27
     refine ⟨⟨⟨_,B27.out⟩,rfl⟩,?_⟩
     try simp only [Act.put,List.setIfInBounds_toArray,List.set_cons_zero,List.set_cons_succ]
     rw [wpWays_one4]
     try simp only [List.map_cons,List.map_nil,opAt,List.getElem?_toArray,List.getElem?_cons_zero,List.getElem?_cons_succ,Option.getD_some]
     repeat (go_big_quiet_step (fail))
     refine wpQuiet_nil ?_
     go_wp2_with fail
     have BX27:Hid (Below (w.heap.size+1) W0 (x27.setCell ⟨w.heap.size+1,2,none⟩ (.slice A27 ((keysP k b).length+1) c27))):=Lib.hid (bel_set B27.out (by omega))
     refine ⟨⟨⟨_,BX27.out⟩,rfl⟩,?_⟩
     try simp only [Act.put,List.setIfInBounds_toArray,List.set_cons_zero,List.set_cons_succ]
     rw [wpWays_done4]
     try simp only [List.map_nil]
     refine wpQuiet_nil ?_
     clear z1 zc27 zf27
     obtain ⟨Y27,hY27⟩:∃ Y,Y=x27.setCell ⟨w.heap.size+1,2,none⟩ (.slice A27 ((keysP k b).length+1) c27):=⟨_,rfl⟩
     rw [← hY27] at SS27 ⊢
     clear hY27 BX27
     go_upto_region 13 with fail
     have q28:w.heap.size+1≤Y27.heap.size:=by have:=SS27.out.lt;omega
     have Q28:=Lib.hid q28
     clear q28
     refine region_ways4 (w.heap.size+1) Q28.out (.two [0] 1 (.one [] 2 (.one [3] 4 (.one [] 5 (.one [6] 7 (.done []))))) 2 (.two [3] 1 (.one [] 4 (.one [] 5 (.one [6] 7 (.done [])))) 4 (.one [] 1 (.one [] 5 (.one [6] 7 (.done [])))))) (by kernel_rfl) (by kernel_rfl) ?_
     rintro wd28 hbd
     have BD28:Hid (Below (w.heap.size+1) Y27 wd28):=Lib.hid (hbd.mono Q28.out)
     have SD28:=Lib.hid (SS27.out.below hbd)
     have z28:=nd_cell SD28.out.out 3 _ rfl
     clear hbd
     rw [wpWays_two4]
     try simp only [List.map_cons,List.map_nil,opAt,List.getElem?_toArray,List.getElem?_cons_zero,List.getElem?_cons_succ,Option.getD_some]
     repeat (go_big_quiet_step (fail))
     refine wpQuiet_nil ⟨?_,?_⟩
     ·go_wp2_with fail
      refine ⟨⟨⟨_,BD28.out⟩,rfl⟩,?_⟩
      try simp only [Act.put,List.setIfInBounds_toArray,List.set_cons_zero,List.set_cons_succ]
      rw [wpWays_one4]
      try simp only [List.map_nil,opAt,List.getElem?_toArray,List.getElem?_cons_zero,List.getElem?_cons_succ,Option.getD_some]
      refine wpQuiet_nil ?_
      go_wp2_with (go_at_call 125;(with_reducible refine (HCD.out _ SD28.out.cur).mono ?_);rintro e' x29 ⟨rfl,hcc29,hb29⟩;have B29:=Lib.hid (BD28.out.grown hb29 (Nat.le_trans Q28.out BD28.out.size) (fun k hk=>by injection hk;omega));have S29:=Lib.hid (SD28.out.took hb29 hcc29);clear hb29 hcc29)
      refine ⟨⟨⟨_,B29.out⟩,rfl⟩,?_⟩
      try simp only [Act.put,List.setIfInBounds_toArray,List.set_cons_zero,List.set_cons_succ]
      rw [wpWays_one4]
      try simp only [List.map_cons,List.map_nil,opAt,List.getElem?_toArray,List.getElem?_cons_zero,List.getElem?_cons_succ,Option.getD_some]
      repeat (go_big_quiet_step (fail))
      refine wpQuiet_nil ?_
      go_wp2_with fail
      have B30:=Lib.hid (B29.out.alloc (Nat.le_trans Q28.out B29.out.size) (.cells #[.int .i64 z] 3))
      have S30:=Lib.hid (S29.out.below ((Below.refl _ _).alloc (Nat.le_refl _) (.cells #[.int .i64 z] 3)))
      have hnews30:Hid (∀ (j:Nat) (u:Value),([kdC z])[j]?=some u→(x29.alloc (.cells #[.int .i64 z] 3)).cell? ((⟨x29.heap.size,0,none⟩:Addr).add j)=some u):=Lib.hid (fun j u hj=>by rw [Addr.add_mid,World.cell?_alloc_new];simpa [kyC,kdC] using hj)
      refine ⟨⟨⟨_,B30.out⟩,rfl⟩,?_⟩
      try simp only [Act.put,List.setIfInBounds_toArray,List.set_cons_zero,List.set_cons_succ]
      rw [wpWays_one4]
      try simp only [List.map_nil,opAt,List.getElem?_toArray,List.getElem?_cons_zero,List.getElem?_cons_succ,Option.getD_some]
      refine wpQuiet_nil ?_
      go_wp2_with (at_builtin;refine wpList_append_own_at _ rfl (.tmp 49) (.tmp 52) 59 rfl (w.heap.size+3) 3 ii _ 1 8 Tryz.underlying59 hii hiiz hiis hiib rfl (by omega) _ (kidsP k b).length ((kidsP k b).map kdC) rfl S30.out.rowD ⟨x29.heap.size,0,none⟩ 1 1 ([kdC z]) rfl rfl hnews30.out (by intro u hu;simp [kdC] at hu;subst hu;rfl) (by rw [HED.out];unfold maxLen;omega) (by rw [HED.out];omega) (by have:=S30.out.lt;omega) ?_;intro v31 x31 ho31 hg31 _ _)
      obtain ⟨A31,c31,rfl⟩:=row_form ho31
      obtain ⟨-,o31,-⟩:=S30.out.grown S30.out.rowD hg31 (by decide) (by decide)
      have zc31:=nd_cell o31 3 _ rfl
      have zf31:x31.frozen? ⟨w.heap.size+1,3,none⟩=false:=by simp [World.frozen?,o31]
      have SS31:=Lib.hid (S30.out.setD hg31 ho31)
      have B31:=Lib.hid (B30.out.grown hg31 (Nat.le_trans Q28.out B30.out.size) (fun k hk=>by have:=(S30.out.rowD.lt k hk).1;omega))
      clear ho31 hg31 o31
      refine ⟨⟨⟨_,B31.out⟩,rfl⟩,?_⟩
      try simp only [Act.put,List.setIfInBounds_toArray,List.set_cons_zero,List.set_cons_succ]
      rw [wpWays_one4]
      try simp only [List.map_cons,List.map_nil,opAt,List.getElem?_toArray,List.getElem?_cons_zero,List.getElem?_cons_succ,Option.getD_some]
      repeat (go_big_quiet_step (fail))
      refine wpQuiet_nil ?_
      go_wp2_with fail
      have BX31:Hid (Below (w.heap.size+1) Y27 (x31.setCell ⟨w.heap.size+1,3,none⟩ (.slice A31 ((kidsP k b).length+1) c31))):=Lib.hid (bel_set B31.out (by omega))
      refine ⟨⟨⟨_,BX31.out⟩,rfl⟩,?_⟩
      try simp only [Act.put,List.setIfInBounds_toArray,List.set_cons_zero,List.set_cons_succ]
      rw [wpWays_done4]
      try simp only [List.map_nil]
      refine wpQuiet_nil ?_
      clear z28 zc31 zf31
      obtain ⟨Y31,hY31⟩:∃ Y,Y=x31.setCell ⟨w.heap.size+1,3,none⟩ (.slice A31 ((kidsP k b).length+1) c31):=⟨_,rfl⟩
      rw [← hY31] at SS31 ⊢
      clear hY31 BX31
      go_wp2_with fail
      go_roundw
      case rel=>exact ⟨k+1,_,_,by omega,by go_num,Lib.hid (by rw [keysP_succ,kidsP_succ,HEE.out,HZ2.out];exact SS31.out)⟩
      case measure=>first | (simp [intOf];done) | (simp [intOf];omega)
     ·skip
      go_wp2_with (go_at_call 125;(with_reducible refine (HCD.out _ SD28.out.cur).mono ?_);rintro e' x32 ⟨rfl,hcc32,hb32⟩;have B32:=Lib.hid (BD28.out.grown hb32 (Nat.le_trans Q28.out BD28.out.size) (fun k hk=>by injection hk;omega));have S32:=Lib.hid (SD28.out.took hb32 hcc32);clear hb32 hcc32)
      have zz32:=nd_cell S32.out.out 3 _ rfl
      refine ⟨⟨⟨_,B32.out⟩,rfl⟩,?_⟩
      try simp only [Act.put,List.setIfInBounds_toArray,List.set_cons_zero,List.set_cons_succ]
      rw [wpWays_two4]
      try simp only [List.map_cons,List.map_nil,opAt,List.getElem?_toArray,List.getElem?_cons_zero,List.getElem?_cons_succ,Option.getD_some]
      repeat (go_big_quiet_step (fail))
      refine wpQuiet_nil ⟨?_,?_⟩
      ·go_wp2_with fail
       refine ⟨⟨⟨_,B32.out⟩,rfl⟩,?_⟩
       try simp only [Act.put,List.setIfInBounds_toArray,List.set_cons_zero,List.set_cons_succ]
       rw [wpWays_one4]
       try simp only [List.map_nil,opAt,List.getElem?_toArray,List.getElem?_cons_zero,List.getElem?_cons_succ,Option.getD_some]
       refine wpQuiet_nil ?_
       go_wp2_with fail
       have B33:=Lib.hid (B32.out.alloc (Nat.le_trans Q28.out B32.out.size) (.cells #[.int .i64 z] 3))
       have S33:=Lib.hid (S32.out.below ((Below.refl _ _).alloc (Nat.le_refl _) (.cells #[.int .i64 z] 3)))
       have hnews33:Hid (∀ (j:Nat) (u:Value),([kdC z])[j]?=some u→(x32.alloc (.cells #[.int .i64 z] 3)).cell? ((⟨x32.heap.size,0,none⟩:Addr).add j)=some u):=Lib.hid (fun j u hj=>by rw [Addr.add_mid,World.cell?_alloc_new];simpa [kyC,kdC] using hj)
       refine ⟨⟨⟨_,B33.out⟩,rfl⟩,?_⟩
       try simp only [Act.put,List.setIfInBounds_toArray,List.set_cons_zero,List.set_cons_succ]
       rw [wpWays_one4]
       try simp only [List.map_nil,opAt,List.getElem?_toArray,List.getElem?_cons_zero,List.getElem?_cons_succ,Option.getD_some]
       refine wpQuiet_nil ?_
       go_wp2_with (at_builtin;refine wpList_append_own_at _ rfl (.tmp 49) (.tmp 52) 59 rfl (w.heap.size+3) 3 ii _ 1 8 Tryz.underlying59 hii hiiz hiis hiib rfl (by omega) _ (kidsP k b).length ((kidsP k b).map kdC) rfl S33.out.rowD ⟨x32.heap.size,0,none⟩ 1 1 ([kdC z]) rfl rfl hnews33.out (by intro u hu;simp [kdC] at hu;subst hu;rfl) (by rw [HED.out];unfold maxLen;omega) (by rw [HED.out];omega) (by have:=S33.out.lt;omega) ?_;intro v34 x34 ho34 hg34 _ _)
       obtain ⟨A34,c34,rfl⟩:=row_form ho34
       obtain ⟨-,o34,-⟩:=S33.out.grown S33.out.rowD hg34 (by decide) (by decide)
       have zc34:=nd_cell o34 3 _ rfl
       have zf34:x34.frozen? ⟨w.heap.size+1,3,none⟩=false:=by simp [World.frozen?,o34]
       have SS34:=Lib.hid (S33.out.setD hg34 ho34)
       have B34:=Lib.hid (B33.out.grown hg34 (Nat.le_trans Q28.out B33.out.size) (fun k hk=>by have:=(S33.out.rowD.lt k hk).1;omega))
       clear ho34 hg34 o34
       refine ⟨⟨⟨_,B34.out⟩,rfl⟩,?_⟩
       try simp only [Act.put,List.setIfInBounds_toArray,List.set_cons_zero,List.set_cons_succ]
       rw [wpWays_one4]
       try simp only [List.map_cons,List.map_nil,opAt,List.getElem?_toArray,List.getElem?_cons_zero,List.getElem?_cons_succ,Option.getD_some]
       repeat (go_big_quiet_step (fail))
       refine wpQuiet_nil ?_
       go_wp2_with fail
       have BX34:Hid (Below (w.heap.size+1) Y27 (x34.setCell ⟨w.heap.size+1,3,none⟩ (.slice A34 ((kidsP k b).length+1) c34))):=Lib.hid (bel_set B34.out (by omega))
       refine ⟨⟨⟨_,BX34.out⟩,rfl⟩,?_⟩
       try simp only [Act.put,List.setIfInBounds_toArray,List.set_cons_zero,List.set_cons_succ]
       rw [wpWays_done4]
       try simp only [List.map_nil]
       refine wpQuiet_nil ?_
       clear z28 zc34 zf34
       obtain ⟨Y34,hY34⟩:∃ Y,Y=x34.setCell ⟨w.heap.size+1,3,none⟩ (.slice A34 ((kidsP k b).length+1) c34):=⟨_,rfl⟩
       rw [← hY34] at SS34 ⊢
       clear hY34 BX34
       go_wp2_with fail
       go_roundw
       case rel=>exact ⟨k+1,_,_,by omega,by go_num,Lib.hid (by rw [keysP_succ,kidsP_succ,HEE.out,HZ2.out];exact SS34.out)⟩
       case measure=>first | (simp [intOf];done) | (simp [intOf];omega)
      ·skip
       go_wp2_with fail
       have B35:=Lib.hid (B32.out.alloc (Nat.le_trans Q28.out B32.out.size) (.cells #[.int .i64 z] 3))
       have S35:=Lib.hid (S32.out.below ((Below.refl _ _).alloc (Nat.le_refl _) (.cells #[.int .i64 z] 3)))
       have hnews35:Hid (∀ (j:Nat) (u:Value),([kdC z])[j]?=some u→(x32.alloc (.cells #[.int .i64 z] 3)).cell? ((⟨x32.heap.size,0,none⟩:Addr).add j)=some u):=Lib.hid (fun j u hj=>by rw [Addr.add_mid,World.cell?_alloc_new];simpa [kyC,kdC] using hj)
       have zz35:=nd_cell S35.out.out 3 _ rfl
       refine ⟨⟨⟨_,B35.out⟩,rfl⟩,?_⟩
       try simp only [Act.put,List.setIfInBounds_toArray,List.set_cons_zero,List.set_cons_succ]
       rw [wpWays_one4]
       try simp only [List.map_nil,opAt,List.getElem?_toArray,List.getElem?_cons_zero,List.getElem?_cons_succ,Option.getD_some]
       refine wpQuiet_nil ?_
       go_wp2_with fail
       refine ⟨⟨⟨_,B35.out⟩,rfl⟩,?_⟩
       try simp only [Act.put,List.setIfInBounds_toArray,List.set_cons_zero,List.set_cons_succ]
       rw [wpWays_one4]
       try simp only [List.map_nil,opAt,List.getElem?_toArray,List.getElem?_cons_zero,List.getElem?_cons_succ,Option.getD_some]
       refine wpQuiet_nil ?_
       go_wp2_with (at_builtin;refine wpList_append_own_at _ rfl (.tmp 49) (.tmp 52) 59 rfl (w.heap.size+3) 3 ii _ 1 8 Tryz.underlying59 hii hiiz hiis hiib rfl (by omega) _ (kidsP k b).length ((kidsP k b).map kdC) rfl S35.out.rowD ⟨x32.heap.size,0,none⟩ 1 1 ([kdC z]) rfl rfl hnews35.out (by intro u hu;simp [kdC] at hu;subst hu;rfl) (by rw [HED.out];unfold maxLen;omega) (by rw [HED.out];omega) (by have:=S35.out.lt;omega) ?_;intro v36 x36 ho36 hg36 _ _)
       obtain ⟨A36,c36,rfl⟩:=row_form ho36
       obtain ⟨-,o36,-⟩:=S35.out.grown S35.out.rowD hg36 (by decide) (by decide)
       have zc36:=nd_cell o36 3 _ rfl
       have zf36:x36.frozen? ⟨w.heap.size+1,3,none⟩=false:=by simp [World.frozen?,o36]
       have SS36:=Lib.hid (S35.out.setD hg36 ho36)
       have B36:=Lib.hid (B35.out.grown hg36 (Nat.le_trans Q28.out B35.out.size) (fun k hk=>by have:=(S35.out.rowD.lt k hk).1;omega))
       clear ho36 hg36 o36
       refine ⟨⟨⟨_,B36.out⟩,rfl⟩,?_⟩
       try simp only [Act.put,List.setIfInBounds_toArray,List.set_cons_zero,List.set_cons_succ]
       rw [wpWays_one4]
       try simp only [List.map_cons,List.map_nil,opAt,List.getElem?_toArray,List.getElem?_cons_zero,List.getElem?_cons_succ,Option.getD_some]
       repeat (go_big_quiet_step (fail))
       refine wpQuiet_nil ?_
       go_wp2_with fail
       have BX36:Hid (Below (w.heap.size+1) Y27 (x36.setCell ⟨w.heap.size+1,3,none⟩ (.slice A36 ((kidsP k b).length+1) c36))):=Lib.hid (bel_set B36.out (by omega))
       refine ⟨⟨⟨_,BX36.out⟩,rfl⟩,?_⟩
       try simp only [Act.put,List.setIfInBounds_toArray,List.set_cons_zero,List.set_cons_succ]
       rw [wpWays_done4]
       try simp only [List.map_nil]
       refine wpQuiet_nil ?_
       clear z28 zc36 zf36
       obtain ⟨Y36,hY36⟩:∃ Y,Y=x36.setCell ⟨w.heap.size+1,3,none⟩ (.slice A36 ((kidsP k b).length+1) c36):=⟨_,rfl⟩
       rw [← hY36] at SS36 ⊢
       clear hY36 BX36
       go_wp2_with fail
       go_roundw
       case rel=>exact ⟨k+1,_,_,by omega,by go_num,Lib.hid (by rw [keysP_succ,kidsP_succ,HEE.out,HZ2.out];exact SS36.out)⟩
       case measure=>first | (simp [intOf];done) | (simp [intOf];omega)
  ·obtain rfl:k=n:=by omega
   obtain ⟨A,cE,rfl⟩:=row_form HS.out.rowK
   obtain ⟨A2,cD,rfl⟩:=row_form HS.out.rowD
   have hcap:=row_cap HS.out.rowK
   have hcap2:=row_cap HS.out.rowD
   obtain ⟨l',hl'⟩:∃ l':NdL,l'=⟨none,0,A,cE,A2,cD⟩:=⟨_,rfl⟩
   have hat:∀ W',Below W0.heap.size W0 W'→NodeAt W' N l':=fun W' hb=>by
    have h':=HS.out.below hb
    rw [HN.out,hl']
    exact { e:=fun h=>absurd rfl h,k:=KyAt.of_row h'.rowK,d:=KdAt.of_row h'.rowD,ec:=Nat.le_refl _,kc:=hcap.1,dc:=hcap2.1,em:=by unfold maxLen;simp,km:=hcap.2,dm:=hcap2.2 }
   have hargs:(#[.bool N.leaf,.slice l'.EA N.es.length l'.ec,.slice l'.KA N.ks.length l'.kc,.slice l'.DA N.ds.length l'.dc]:Array Value)=#[.bool false,.slice none 0 0,.slice A (keysP k b).length cE,.slice A2 (kidsP k b).length cD]:=by rw [HN.out,hl'];rfl
   obtain ⟨r,hr⟩:=IsB.ex (okNode N)
   have HRC:Hid (Calls Tryz.prog 49 #[.agg #[.bool false,.slice none 0 0,.slice A (keysP k b).length cE,.slice A2 (kidsP k b).length cD]] W0 fun e w'=>e=.returned (.bool r)∧Below W0.heap.size W0 w'):=Lib.hid (by rw [← hargs];exact right_any N l' r hr W0 (hat W0 (Below.refl _ _)))
   have HAT:=Lib.hid hat
   have HARG:=Lib.hid hargs
   have HRR:=Lib.hid hr
   have hd:decide ((k:Int)<(k:Int))=false:=by simp
   have HLP:=Lib.hid hl'
   clear hat hargs hr hl' hcap hcap2
   have ho:=HS.out.out
   have hz:=(HS.out.bel.block w.heap.size (by omega)).trans HR0.out
   have HZ:=Lib.hid hz
   have HOUT:=Lib.hid ho
   clear hz ho
   cases r with
   | true =>
     obtain ⟨nE,hnE⟩:∃ x,(keysP k b).length=x:=⟨_,rfl⟩
     obtain ⟨nD,hnD⟩:∃ x,(kidsP k b).length=x:=⟨_,rfl⟩
     rw [hnE,hnD] at HRC HOUT HARG
     have HNE:=Lib.hid hnE
     clear hnE hnD
     go_wp2_with (first | (go_at_call 49;refine (HRC.out).mono ?_;rintro e' x9 ⟨rfl,hb9⟩;have HB9:=Lib.hid hb9;have z9:=(hb9.block w.heap.size (Array.getElem?_eq_some_iff.1 HZ.out).1).trans HZ.out;have HZ9:=Lib.hid z9;obtain ⟨p0,p1,p2,p3,f0,f1,f2,f3⟩:=four_cells z9;have o9:=(hb9.block _ (Array.getElem?_eq_some_iff.1 HOUT.out).1).trans HOUT.out;have HO9:=Lib.hid o9;clear hb9 z9 o9) | (refine wpList_load_row rfl 86 (.tmp 7) rfl (w.heap.size+1) rfl 86 _ (0,0) _ HOUT.out Tryz.underlying86 rfl (by kernel_rfl) ?_) | (refine wpList_load_row rfl 86 (.tmp 7) rfl (w.heap.size+1) rfl 86 _ (0,0) _ HO9.out Tryz.underlying86 rfl (by kernel_rfl) ?_))
     refine bodyPost_ret (v:=.tuple #[.agg #[.bool false,.slice none 0 0,.slice A nE cE,.slice A2 nD cD],.int .i64 0]) (results_cell_tmp' (p:=4) (u:=5) (ty:=86) rfl _ _ w.heap.size 86 #[.bool false,.slice none 0 0,.slice A nE cE,.slice A2 nD cD] (0,0) _ rfl (set_four HZ9.out _ _ _ _) Tryz.underlying86 rfl (by kernel_rfl)) rfl ?_
     have hbf:=below_set4 (g:=w.heap.size) (HBW.out.trans ((HS.out.bel.mono (Nat.le_succ _)).trans (HB9.out.mono (by have:=HS.out.lt;omega)))) (Nat.le_refl _) (.bool false) (.slice none 0 0) (.slice A nE cE) (.slice A2 nD cD)
     refine ⟨fun _=>⟨l',by rw [HARG.out],?_,?_⟩,fun h=>absurd HRR.out.yes h,hbf⟩
     rotate_left
     ·have h':=HS.out.below HB9.out
      have q1:=row_set4 (a:=.bool false) (b:=.slice none 0 0) (c:=.slice A nE cE) (d:=.slice A2 nD cD) h'.rowK HZ9.out (by decide)
      have q2:=row_set4 (a:=.bool false) (b:=.slice none 0 0) (c:=.slice A nE cE) (d:=.slice A2 nD cD) h'.rowD HZ9.out (by decide)
      rw [HN.out,HLP.out]
      exact ⟨fun a h=>(by cases h),row_new HS.out.rowK (by omega),row_new HS.out.rowD (by omega),World.ownsRow_nil _ _ _ _,row_less q1 (by omega),row_less q2 (by omega)⟩
     have h':=HS.out.below HB9.out
     have q1:=row_set4 (a:=.bool false) (b:=.slice none 0 0) (c:=.slice A nE cE) (d:=.slice A2 nD cD) h'.rowK HZ9.out (by decide)
     have q2:=row_set4 (a:=.bool false) (b:=.slice none 0 0) (c:=.slice A nE cE) (d:=.slice A2 nD cD) h'.rowD HZ9.out (by decide)
     have m2:=row_cap q2
     have m1:=row_cap q1
     rw [HN.out,HLP.out]
     exact { e:=fun h=>absurd rfl h,k:=KyAt.of_row q1,d:=KdAt.of_row q2,ec:=Nat.le_refl _,kc:=m1.1,dc:=m2.1,em:=by unfold maxLen;simp,km:=m1.2,dm:=m2.2 }
   | false =>
     obtain ⟨nE,hnE⟩:∃ x,(keysP k b).length=x:=⟨_,rfl⟩
     obtain ⟨nD,hnD⟩:∃ x,(kidsP k b).length=x:=⟨_,rfl⟩
     rw [hnE,hnD] at HRC HOUT HARG
     have HNE:=Lib.hid hnE
     clear hnE hnD
     go_wp2_with (first | (go_at_call 49;refine (HRC.out).mono ?_;rintro e' x9 ⟨rfl,hb9⟩;have HB9:=Lib.hid hb9;have z9:=(hb9.block w.heap.size (Array.getElem?_eq_some_iff.1 HZ.out).1).trans HZ.out;have HZ9:=Lib.hid z9;obtain ⟨p0,p1,p2,p3,f0,f1,f2,f3⟩:=four_cells z9;have o9:=(hb9.block _ (Array.getElem?_eq_some_iff.1 HOUT.out).1).trans HOUT.out;have HO9:=Lib.hid o9;clear hb9 z9 o9) | (refine wpList_load_row rfl 86 (.tmp 7) rfl (w.heap.size+1) rfl 86 _ (0,0) _ HOUT.out Tryz.underlying86 rfl (by kernel_rfl) ?_) | (refine wpList_load_row rfl 86 (.tmp 7) rfl (w.heap.size+1) rfl 86 _ (0,0) _ HO9.out Tryz.underlying86 rfl (by kernel_rfl) ?_))
     refine bodyPost_ret (v:=.tuple #[.agg #[.bool false,.slice none 0 0,.slice none 0 0,.slice none 0 0],.int .i64 3]) (results_cell_tmp' (p:=4) (u:=5) (ty:=86) rfl _ _ w.heap.size 86 #[.bool false,.slice none 0 0,.slice none 0 0,.slice none 0 0] (0,0) _ rfl (set_four HZ9.out _ _ _ _) Tryz.underlying86 rfl (by kernel_rfl)) rfl ?_
     have hbf:=below_set4 (g:=w.heap.size) (HBW.out.trans ((HS.out.bel.mono (Nat.le_succ _)).trans (HB9.out.mono (by have:=HS.out.lt;omega)))) (Nat.le_refl _) (.bool false) (.slice none 0 0) (.slice none 0 0) (.slice none 0 0)
     exact ⟨fun h=>absurd h HRR.out.no,fun _=>rfl,hbf⟩
end Go.Proofs.YtgkddhncfaeidaaGreat
