/- Squeezed: the texts as they are written lie in wip/tpl. -/
import Derived.Test.YtgkddhncfaeidaaGreatPart23
import Derived.Test.YtgkddhncfaeidaaGreatPart22
import Derived.Test.YtgkddhncfaeidaaGreatPart09
set_option maxRecDepth 100000
set_option maxHeartbeats 8000000
set_option linter.unusedSimpArgs false
set_option linter.unusedVariables false
namespace Go.Proofs.YtgkddhncfaeidaaGreat
open Go.RowKit Go.ChangeShapes Go.WideShapes Go.ChangeAt CrcM PageM
def kindB (leaf:Bool):UInt8:=if leaf=true then 76 else 73
theorem kindB_isK (b:Bool):isK (kindB b)=true:=by cases b <;> rfl
theorem kind_leaf (b:Bool) (w:World):Calls Tryz.prog 75 #[.bool b] w fun e w'=>e=.returned (.int .u8 ((kindB b).toNat:Int))∧w=w':=by
 cases b
 all_goals
  go_enter Tryz.func75,Tryz.ntmps75
  go_wp2_with fail
  go_ret
  exact ⟨rfl,rfl⟩
def pgV (gen:Nat) (y:(Nat × (NodeD × NdL)) × (Option Addr × Nat)):List Value:=[.int .u8 ((kindB y.1.2.1.leaf).toNat:Int),.int .i64 (y.1.1:Int),.int .u64 (gen:Int),.slice y.2.1 (nodeB y.1.2.1).length y.2.2]
theorem lenPgV (gen:Nat) (y):(pgV gen y).length=4:=rfl
theorem pgV_one (gen:Nat) (y):∀ u ∈ pgV gen y,u.oneCell'=true:=by
 intro u hu
 simp [pgV] at hu
 rcases hu with rfl | rfl | rfl | rfl <;> rfl
theorem infoPg:(Tryz.prog.info? 156).map (fun i=>(i.zero,i.size,i.bytes))=some (some (.agg #[.int .u8 0,.int .i64 0,.int .u64 0,.slice none 0 0]),4,48):=by kernel_rfl
theorem meas_step4 {M k:Nat} {z:Int} (h:k<M) (e:z=(k:Int)+1):M - (intOf (.int .i64 z)).toNat<M - (intOf (.int .i64 (k:Int))).toNat:=by
 subst e
 simp only [intOf]
 omega
def putPg (gen:Nat) (x:Nat × (NodeD × NdL)):List UInt8:=putP ⟨kindB x.2.1.leaf,(x.1:Int),gen,nodeB x.2.1⟩
def PgsOf (gen:Nat) (nw nw':List UInt8) (L:List (Nat × (NodeD × NdL))):Prop:=(∀ x ∈ L,pageOf nw' x.1=putPg gen x)∧∀ a,a ∉ L.map Prod.fst→pageOf nw' a=pageOf nw a
theorem PgsOf.nil (gen:Nat) (nw:List UInt8):PgsOf gen nw nw []:=⟨by simp,fun _ _=>rfl⟩
theorem PgsOf.snoc {gen:Nat} {nw nw1 nw2:List UInt8} {L:List (Nat × (NodeD × NdL))} {x:Nat × (NodeD × NdL)} (h:PgsOf gen nw nw1 L) (h1:pageOf nw2 x.1=putPg gen x) (h2:∀ a,a≠x.1→pageOf nw2 a=pageOf nw1 a) (hx:x.1 ∉ L.map Prod.fst):PgsOf gen nw nw2 (L ++ [x]):=by
 refine ⟨fun y hy=>?_,fun a ha=>?_⟩
 ·rw [List.mem_append] at hy
  rcases hy with hy | hy
  ·rw [h2 y.1 (fun e=>hx (e ▸ List.mem_map_of_mem hy))]
   exact h.1 y hy
  ·obtain rfl:y=x:=by simpa using hy
   exact h1
 ·rw [List.map_append,List.mem_append] at ha
  rw [h2 a (fun e=>ha (.inr (by rw [e];simp)))]
  exact h.2 a (fun e=>ha (.inl e))
structure W2S (w2 wr:World) (gen:Nat) (B g gs gn Ls cs cn:Nat) (rw:Value) (st nw:List UInt8) (ws:List (Nat × List UInt8)) (L:List (Nat × (NodeD × NdL))) (k N:Nat) (rw':Value) (ws':List (Nat × List UInt8)) (nw':List UInt8):Prop where
 dk:Dk wr B N g gs gn rw' Ls cs cn st nw' ws' true (-1)
 cnt:ws'.length=ws.length+4*k
 pgs:PgsOf gen nw nw' (L.take k)
 out:OuterX (DkX g gn rw) w2 wr
 mov:Moved w2 rw.ownBlock rw'.ownBlock
theorem nd_len {n:NodeD} (h:okNode n):(nodeB n).length≤238∧1≤(nodeB n).length:=by
 obtain ⟨c,b,e,h1,h2,h3,h4⟩:=nodeB_form h
 rw [e,List.length_cons,h2]
 unfold okNode at h
 unfold sizeP
 unfold NodeD.size at h4 h3 ⊢
 by_cases hl:n.leaf=true
 ·rw [if_pos hl] at h ⊢
  rw [if_pos hl]
  have:=h.2.2.2.1
  omega
 ·rw [if_neg hl] at h4 ⊢
  rw [if_neg hl]
  omega
theorem nodup_take {L:List (Nat × (NodeD × NdL))} {j:Nat} {y:Nat × (NodeD × NdL)} (hn:(L.map Prod.fst).Nodup) (hy:L[j]?=some y):y.1 ∉ (L.take j).map Prod.fst:=by
 intro hm
 obtain ⟨z,hz,he⟩:=List.mem_map.1 hm
 obtain ⟨i,hi,hiz⟩:=List.getElem_of_mem hz
 have hij:i<j:=by rw [List.length_take] at hi;omega
 have hjl:j<L.length:=(List.getElem?_eq_some_iff.1 hy).1
 rw [List.getElem_take] at hiz
 have h1:(L.map Prod.fst)[i]'(by rw [List.length_map];omega)=(L.map Prod.fst)[j]'(by rw [List.length_map];exact hjl):=by
  rw [List.getElem_map,List.getElem_map,hiz,he,(List.getElem?_eq_some_iff.1 hy).2]
 exact List.pairwise_iff_getElem.1 hn i j _ _ hij h1
structure WrS (w wr:World) (gen:Nat) (L:List (Nat × (NodeD × NdL))) (k:Nat) (pv:Value) (bl:List (Option Addr × Nat)):Prop where
 len:bl.length=k
 bel:Below w.heap.size w wr
 row:wr.ownsRow w.heap.size 156 4 pv k (((L.take k).zip bl).flatMap (pgV gen))
 bod:∀ y ∈ (L.take k).zip bl,OwnS wr w.heap.size (.slice y.2.1 (nodeB y.1.2.1).length y.2.2) 5 (nodeB y.1.2.1)
theorem write_yes (gc gv p B0 gen:Nat) (U Uv Vv V:List Bool) (lv:Value) (L:List (Nat × (NodeD × NdL))) (hU:U.length=512) (hUv:Uv.length=512) (hV:V.length=512) (hVv:Vv.length=512) (hg:gen<18446744073709551616) {B N g gs gn Ls cs cn:Nat} {rw:Value} {st nw:List UInt8} {ws:List (Nat × List UInt8)}
 (hL:ws.length+4*L.length≤990) (hnd:(L.map Prod.fst).Nodup) (hn:∀ x ∈ L,okNode x.2.1∧256*x.1+256≤Ls) (w:World) (hnt:∀ x ∈ L,NodeT w x.2.1 x.2.2) (h:ChgS w gc gv p B0 U V lv L) (hv:ViewAt w gv g gen (p:Int) Uv Vv) (hd:Dk w B N g gs gn rw Ls cs cn st nw ws true (-1)) :
 Calls Tryz.prog 50 #[.pointer (some ⟨gc,0,none⟩)] w fun e w'=>e=.returned (.int .i64 0)∧ViewAt w' gv g gen (p:Int) U Vv∧(∃ rw' ws' nw',Dk w' B w'.heap.size g gs gn rw' Ls cs cn st nw' ws' true (-1)∧ws'.length=ws.length+4*L.length∧PgsOf gen nw nw' L∧Moved w rw.ownBlock rw'.ownBlock)∧OuterX (fun k=>DkX g gn rw k∨k=gv) w w':=by
 have H:=Lib.hid h
 have HVW:=Lib.hid hv
 have HD:=Lib.hid hd
 have HU:=Lib.hid hU
 have HV:=Lib.hid hV
 have HUv:=Lib.hid hUv
 have HVv:=Lib.hid hVv
 have HN:=Lib.hid hn
 have HNT:=Lib.hid hnt
 have HG:=Lib.hid hg
 have HLL:=Lib.hid hL
 have HND:=Lib.hid hnd
 clear hnd
 clear hnt h hv hd hU hV hn hg hL hUv hVv
 obtain ⟨n,hn⟩:∃ n,L.length=n:=⟨_,rfl⟩
 have HNL:=Lib.hid hn
 have HNN:Hid (n≤250):=Lib.hid (by have:=HLL.out;omega)
 obtain ⟨Al,cl,hlv⟩:=row_form H.out.row
 rw [hn] at hlv
 subst hlv
 have HROW:Hid (w.ownsRow B0 151 5 (.slice Al n cl) n (L.flatMap ldC)):=Lib.hid (by have h1:=H.out.row;rwa [hn] at h1)
 clear hn
 have c0:=H.out.chg.cl HU.out HV.out
 go_enter Tryz.func50,Tryz.ntmps50
 go_upto_region 3 with fail
 have HST:Hid (WrS w w gen L 0 (.slice none 0 0) []):=Lib.hid { len:=rfl,bel:=Below.refl _ _,row:=World.ownsRow_nil _ _ _ _,bod:=by simp }
 clear c0
 go_loopw [16,3] (fun i pv wr=>∃ k:Nat,k≤n∧i=.int .i64 (k:Int)∧Hid (∃ bl,WrS w wr gen L k pv bl))
  (fun i _ _=>n - (intOf i).toNat)
 case atStart=>exact ⟨0,Nat.zero_le _,rfl,Lib.hid ⟨_,HST.out⟩⟩
 case round =>
  clear HST
  obtain ⟨k,hk,rfl,HR⟩:=hrel
  obtain ⟨bl,hs⟩:=HR.out
  have HS:=Lib.hid hs
  clear HR hs
  by_cases hlt:k<n
  ·obtain ⟨y,hy⟩:∃ y,L[k]?=some y:=⟨_,List.getElem?_eq_getElem (by rw [HNL.out];exact hlt)⟩
   have HY:=Lib.hid hy
   have HYN:=Lib.hid (HN.out y (List.mem_of_getElem? hy))
   have HYT:=Lib.hid ((HNT.out y (List.mem_of_getElem? hy)).below HS.out.bel)
   obtain ⟨gA,hA,_,hcA⟩:=row_cells HROW.out (by intro e;have:=congrArg List.length e;rw [flatV_len lenLdC,HNL.out] at this;simp at this;omega)
   subst hA
   have q:=fun j u (hu:(ldC y)[j]?=some u)=>(HS.out.bel.cell (World.block_lt_of_cell? _ _ (hcA (k*5+j) u (flat_get lenLdC L k y j u hy hu)))).trans (hcA (k*5+j) u (flat_get lenLdC L k y j u hy hu))
   have e0:=q 0 _ rfl
   have e1:=q 1 _ rfl
   have e2:=q 2 _ rfl
   have e3:=q 3 _ rfl
   have e4:=q 4 _ rfl
   rw [Nat.add_zero] at e0
   have hkm:decide ((k:Int)<(n:Int))=true:=by simp;omega
   clear hy q hcA
   go_upto_region 5 with fail
   obtain ⟨wa,hwa⟩:∃ wa,wa=wr.alloc (.cells #[.int .i64 (y.1:Int),.bool y.2.1.leaf,.slice y.2.2.EA y.2.1.es.length y.2.2.ec,.slice y.2.2.KA y.2.1.ks.length y.2.2.kc,.slice y.2.2.DA y.2.1.ds.length y.2.2.dc] 151):=⟨_,rfl⟩
   have GA:Hid (wa.heap[wr.heap.size]?=some (.cells #[.int .i64 (y.1:Int),.bool y.2.1.leaf,.slice y.2.2.EA y.2.1.es.length y.2.2.ec,.slice y.2.2.KA y.2.1.ks.length y.2.2.kc,.slice y.2.2.DA y.2.1.ds.length y.2.2.dc] 151 (0,0))):=Lib.hid (by rw [hwa];exact heap_alloc_new _ _)
   have BA:=Lib.hid (alloc_bel hwa)
   rw [← hwa]
   clear hwa e0 e1 e2 e3 e4
   have hna:wa.rangeAt wr.heap.size 1 [.bool y.2.1.leaf,.slice y.2.2.EA y.2.1.es.length y.2.2.ec,.slice y.2.2.KA y.2.1.ks.length y.2.2.kc,.slice y.2.2.DA y.2.1.ds.length y.2.2.dc]:=range_of_block (X:=[.int .i64 (y.1:Int)]) (Z:=[]) (cs:=[.int .i64 (y.1:Int),.bool y.2.1.leaf,.slice y.2.2.EA y.2.1.es.length y.2.2.ec,.slice y.2.2.KA y.2.1.ks.length y.2.2.kc,.slice y.2.2.DA y.2.1.ds.length y.2.2.dc]) GA.out rfl rfl
   obtain ⟨bL,hbL⟩:∃ bL,bL=(nodeB y.2.1).length:=⟨_,rfl⟩
   have HBL:=Lib.hid hbL
   clear hbL
   go_upto_region 8 with (first
    | (refine wpList_load_mid rfl 86 (.tmp 21) rfl wr.heap.size 1 rfl _ _ hna Tryz.underlying86 rfl (by kernel_rfl) ?_)
    | (go_at_call 74;refine (put_yes y.2.1 y.2.2 HYN.out.1 _ (HYT.out.at_.below BA.out) bL HBL.out).mono ?_;rintro e w4 ⟨Ab,cb,rfl,ho4,hb4⟩;have O4:=Lib.hid ho4;have B4:=Lib.hid (BA.out.trans (hb4.mono BA.out.size));have G4:=Lib.hid (row_stays GA.out hb4);clear ho4 hb4))
   clear hna
   have HC4:=Lib.hid ((H.out.chg.below HS.out.bel).below B4.out)
   have HV4:=Lib.hid ((HVW.out.below HS.out.bel).below B4.out)
   have R4:=Lib.hid (row_below HS.out.row B4.out)
   have hXc:¬ (u3.ownBlock=some gc):=fun e=>(HC4.out.ne_row R4.out (by decide)) e.symm
   have hXv:¬ (u3.ownBlock=some gv):=fun e=>by
    have h1:=(World.ownsRow.lt HS.out.row _ e).1
    have:=HVW.out.lt
    omega
   have hX5:¬ (u3.ownBlock=some wr.heap.size):=fun e=>by
    have:=(World.ownsRow.lt HS.out.row _ e).2
    omega
   have g1:∀ z:SubX (fun q=>u3.ownBlock=some q) w4,z.at_.cell? ⟨wr.heap.size,1,none⟩=some (.bool y.2.1.leaf):=fun z=>nd_cell (z.ok_.heap G4.out hX5) 1 _ rfl
   have g2:∀ z:SubX (fun q=>u3.ownBlock=some q) w4,z.at_.cell? ⟨wr.heap.size,0,none⟩=some (.int .i64 (y.1:Int)):=fun z=>nd_cell (z.ok_.heap G4.out hX5) 0 _ rfl
   have g3:∀ z:SubX (fun q=>u3.ownBlock=some q) w4,z.at_.cell? ⟨gc,0,none⟩=some (.pointer (some ⟨gv,0,none⟩)):=fun z=>(HC4.out.keep (z.ok_.block _ HC4.out.lt hXc)).cv
   have g4:∀ z:SubX (fun q=>u3.ownBlock=some q) w4,z.at_.cell? ⟨gv,257,none⟩=some (.int .u64 (gen:Int)):=fun z=>(HV4.out.keep (z.ok_.block _ HV4.out.lt hXv)).cg
   refine region_waysX 18 (fun q=>u3.ownBlock=some q) (.one [0,1,2,3,5,6,7,8,9,10,11,12,13,14] 4 (.one [15] 16 (.one [] 17 (.done [])))) (by kernel_rfl) (by kernel_rfl) ?_
   rintro wd hbd
   have BD:=Lib.hid hbd
   clear hbd
   rw [wpWaysT_one]
   try simp only [List.map_cons,List.map_nil,opAt,List.getElem?_toArray,List.getElem?_cons_zero,List.getElem?_cons_succ,Option.getD_some]
   repeat (first
    | go_big_quiet_step (fail))
   clear g1 g2 g3 g4
   refine wpQuiet_nil ?_
   go_wp2_with (go_at_call 75;refine (kind_leaf y.2.1.leaf _).mono ?_;rintro e w5 ⟨rfl,hw5⟩;subst hw5)
   refine ⟨⟨⟨_,outerX_of_below BD.out⟩,rfl⟩,?_⟩
   try simp only [Act.put,List.setIfInBounds_toArray,List.set_cons_zero,List.set_cons_succ]
   rw [wpWaysT_one]
   try simp only [List.map_cons,List.map_nil,opAt,List.getElem?_toArray,List.getElem?_cons_zero,List.getElem?_cons_succ,Option.getD_some]
   repeat (first
    | go_big_quiet_step (fail))
   refine wpQuiet_nil ?_
   go_wp2_with fail
   obtain ⟨wz,hwz⟩:∃ wz,wz=wd.alloc (.cells #[.int .u8 ((kindB y.2.1.leaf).toNat:Int),.int .i64 (y.1:Int),.int .u64 (gen:Int),.slice Ab bL cb] 156):=⟨_,rfl⟩
   rw [← hwz]
   have BZ:=Lib.hid (BD.out.trans ((alloc_bel hwz).mono BD.out.size))
   have CZ:Hid (CellsAt wz (some ⟨wd.heap.size,0,none⟩) (pgV gen (y,(Ab,cb)))):=Lib.hid (by
    rw [hwz,HBL.out]
    exact cellsAt_new wd (pgV gen (y,(Ab,cb))) _)
   have RZ:=Lib.hid (row_below R4.out BZ.out)
   clear hwz
   refine ⟨⟨⟨_,outerX_of_below BZ.out⟩,rfl⟩,?_⟩
   try simp only [Act.put,List.setIfInBounds_toArray,List.set_cons_zero,List.set_cons_succ]
   rw [wpWaysT_one]
   try simp only [List.map_cons,List.map_nil,opAt,List.getElem?_toArray,List.getElem?_cons_zero,List.getElem?_cons_succ,Option.getD_some]
   refine wpQuiet_nil ?_
   go_wp2_with (at_builtin;refine wpList_append_row rfl (.tmp 28) (.tmp 44) 149 rfl Tryz.underlying149 (.agg #[.int .u8 0,.int .i64 0,.int .u64 0,.slice none 0 0]) 48 infoPg (by rfl) (by decide) _ rfl RZ.out (some ⟨wd.heap.size,0,none⟩) 1 1 rfl rfl CZ.out (pgV_one _ _) (by have:=HNN.out;omega) (by have:=HNN.out;unfold maxLen;omega) (by have:=HS.out.bel.size;have:=B4.out.size;have:=BZ.out.size;omega) (k+1) rfl (((L.take k).zip bl).flatMap (pgV gen) ++ pgV gen (y,(Ab,cb))) rfl ?_;intro A1 c1 x1 R1 gg1;have OX:Hid (OuterX (fun q=>u3.ownBlock=some q) w4 x1):=Lib.hid ((outerX_of_below BZ.out).grown gg1 (fun k hk=>.inl hk));have KX:Hid (KeptNot 156 wz x1):=Lib.hid (KeptNot.of_row RZ.out gg1);have NX:Hid (Below w.heap.size wz x1):=Lib.hid (grown_new RZ.out (Nat.le_refl _) (by have:=HS.out.bel.size;have:=B4.out.size;have:=BZ.out.size;omega) gg1);have RX:=Lib.hid R1;clear R1 gg1)
   refine ⟨⟨⟨_,OX.out⟩,rfl⟩,?_⟩
   try simp only [Act.put,List.setIfInBounds_toArray,List.set_cons_zero,List.set_cons_succ]
   rw [wpWaysT_done]
   simp only [List.map_nil,List.drop_succ_cons,List.drop_zero]
   refine wpQuiet_nil ?_
   have HEND:Hid (∃ bl,WrS w x1 gen L (k+1) (.slice A1 (k+1) c1) bl):=Lib.hid (by
    have hlt2:(L.take k).length=bl.length:=by rw [List.length_take,HNL.out,HS.out.len];omega
    have ez:(L.take (k+1)).zip (bl ++ [(Ab,cb)])=(L.take k).zip bl ++ [(y,(Ab,cb))]:=by
     rw [take_snoc HY.out,List.zip_append hlt2]
     rfl
    refine ⟨bl ++ [(Ab,cb)],{ len:=by rw [List.length_append,HS.out.len];rfl,bel:=?_,row:=?_,bod:=?_ }⟩
    ·have h1:=HS.out.bel.trans ((B4.out.trans (BZ.out.mono B4.out.size)).mono HS.out.bel.size)
     exact h1.trans NX.out
    ·rw [ez,List.flatMap_append]
     simp only [List.flatMap_cons,List.flatMap_nil,List.append_nil]
     exact RX.out
    ·intro z hz
     rw [ez,List.mem_append] at hz
     rcases hz with hz | hz
     ·have h1:=(HS.out.bod z hz).below B4.out
      have h2:=h1.below BZ.out
      exact KX.out.row h2 (by decide)
     ·have hz':z=(y,(Ab,cb)):=by simpa using hz
      subst hz'
      have h1:=O4.out
      rw [HBL.out] at h1
      exact KX.out.row (row_mono (h1.below BZ.out) (by have:=HS.out.bel.size;have:=BA.out.size;omega)) (by decide))
   have hkw:wrap64 ((k:Int)+1)=(k:Int)+1:=by have:=HNN.out;unfold wrap64;omega
   clear RX NX KX OX RZ CZ BZ BD hXc hXv hX5 R4 HC4 HV4 G4 O4 B4 GA BA HS HYT HYN HY
   go_wp2_with fail
   go_roundw
   case rel=>exact ⟨k+1,by omega,by go_num,HEND⟩
   case measure=>first | exact meas_step4 hlt rfl | exact meas_step4 hlt hkw
  ·obtain rfl:k=n:=by omega
   have hkm:decide ((k:Int)<(k:Int))=false:=by simp
   have HW:=Lib.hid HS.out
   clear HS
   obtain ⟨Ap,cp,rfl⟩:=row_form HW.out.row
   have HZL:Hid (((L.take k).zip bl).length=k):=Lib.hid (by rw [List.length_zip,List.length_take,HNL.out,HW.out.len];omega)
   have HLT:Hid (L.take k=L):=Lib.hid (List.take_of_length_le (by rw [HNL.out];exact Nat.le_refl _))
   have HC2:=Lib.hid (H.out.chg.below HW.out.bel)
   have HV2:=Lib.hid (HVW.out.below HW.out.bel)
   have HD2:=Lib.hid (HD.out.below HW.out.bel)
   go_upto_region 11 with fail
   have HST:Hid (W2S wr wr gen B g gs gn Ls cs cn rw st nw ws L 0 N rw ws nw):=Lib.hid { dk:=HD2.out,cnt:=rfl,pgs:=PgsOf.nil _ _,out:=OuterX.refl _ _,mov:=.inl rfl }
   clear hkm
   obtain ⟨w2,hw2⟩:∃ w2,w2=wr:=⟨_,rfl⟩
   rw [← hw2]
   rw [← hw2] at HST HW HC2 HV2 HD2
   clear hw2
   go_loopw [49] (fun i w3=>∃ j:Nat,j≤k∧i=.int .i64 (j:Int)∧Hid (∃ N' rw' ws' nw',W2S w2 w3 gen B g gs gn Ls cs cn rw st nw ws L j N' rw' ws' nw'))
    (fun i _=>k - (intOf i).toNat)
   case atStart=>exact ⟨0,Nat.zero_le _,rfl,Lib.hid ⟨_,_,_,_,HST.out⟩⟩
   case round =>
    clear HST
    obtain ⟨j,hj,rfl,HR⟩:=hrel
    obtain ⟨N',rw',ws',nw',hs⟩:=HR.out
    have HS:=Lib.hid hs
    clear HR hs
    have hxv:=HD2.out.notX HV2.out (by decide) (.inl (by decide)) (by decide)
    have hxc:=HD2.out.notX HC2.out (by decide) (.inl (by decide)) (by decide)
    have KV:=Lib.hid (HV2.out.keep (HS.out.out.block _ HV2.out.lt hxv))
    have KC:=Lib.hid (HC2.out.keep (HS.out.out.block _ HC2.out.lt hxc))
    clear hxv hxc
    by_cases hlj:j<k
    ·obtain ⟨y,hy⟩:∃ y,L[j]?=some y:=⟨_,List.getElem?_eq_getElem (by rw [HNL.out];exact hlj)⟩
     obtain ⟨Ab,hb⟩:∃ Ab,bl[j]?=some Ab:=⟨_,List.getElem?_eq_getElem (by rw [HW.out.len];exact hlj)⟩
     have hz:((L.take k).zip bl)[j]?=some (y,Ab):=by rw [HLT.out,List.getElem?_zip_eq_some];exact ⟨hy,hb⟩
     have HY:=Lib.hid hy
     have HYN:=Lib.hid (HN.out y (List.mem_of_getElem? hy))
     have hbo:=HW.out.bod _ (List.mem_of_getElem? hz)
     have HBO:Hid (OwnS wr w.heap.size (.slice Ab.1 (nodeB y.2.1).length Ab.2) 5 (nodeB y.2.1)):=Lib.hid (hbo.keep (fun q hq=>by
      have hqb:=hbo.block q hq
      rcases hbo.cases with ⟨e,_⟩ | ⟨q2,cap,e,ho⟩
      ·rw [e] at hq
       simp [Value.ownBlock] at hq
      ·rw [e] at hq
       obtain rfl:q2=q:=by simpa [Value.ownBlock] using hq
       obtain ⟨_,_,_,cur,hc,_⟩:=ho.parts
       exact HS.out.out.block _ hqb.2 (HD2.out.notX hc (by decide) (.inr (Nat.le_trans HD.out.NN hqb.1)) (by decide))))
     obtain ⟨gP,hP,_,hcP⟩:=row_cells HW.out.row (by intro e;have:=congrArg List.length e;rw [flatV_len (lenPgV gen),HZL.out] at this;simp at this;omega)
     have htP:∃ cur,w2.heap[gP]?=some (.cells cur 156 (0,0)):=by
      obtain ⟨b,off,cs2,fr,hA,hc⟩:=HasTy.of_row HW.out.row (by omega)
      rw [hP] at hA
      cases hA
      rcases HW.out.row.2 with ⟨h0,_⟩ | ⟨q2,cap,cur,hv,_,hq,_⟩
      ·rw [hP] at h0;cases h0
      ·rw [hP] at hv;cases hv;exact ⟨cur,hq⟩
     obtain ⟨curP,hcur⟩:=htP
     subst hP
     have hkP:=HS.out.out.block gP (Array.getElem?_eq_some_iff.1 hcur).1 (HD2.out.notX hcur (by decide) (.inl (by decide)) (by decide))
     have q:=fun i u (hu:(pgV gen (y,Ab))[i]?=some u)=>(World.cell?_of_block (a:=⟨gP,j*4+i,none⟩) hkP).trans (hcP (j*4+i) u (flat_get (lenPgV gen) _ j (y,Ab) i u hz hu))
     have e0:=q 0 _ rfl
     have e1:=q 1 _ rfl
     have e2:=q 2 _ rfl
     have e3:=q 3 _ rfl
     rw [Nat.add_zero] at e0
     obtain ⟨bL,hbL⟩:∃ bL,(nodeB y.2.1).length=bL:=⟨_,rfl⟩
     have HBL:=Lib.hid hbL
     have hkm:decide ((j:Int)<(k:Int))=true:=by simp;omega
     rw [hbL] at e3
     dsimp only at e0 e1 e2 e3
     clear hy hb hz q hcP hbo hcur hkP hbL
     go_upto_region 13 with fail
     obtain ⟨wa,hwa⟩:∃ wa,wa=wr.alloc (.cells #[.int .u8 ((kindB y.2.1.leaf).toNat:Int),.int .i64 (y.1:Int),.int .u64 (gen:Int),.slice Ab.1 bL Ab.2] 156):=⟨_,rfl⟩
     have GA:Hid (wa.heap[wr.heap.size]?=some (.cells #[.int .u8 ((kindB y.2.1.leaf).toNat:Int),.int .i64 (y.1:Int),.int .u64 (gen:Int),.slice Ab.1 bL Ab.2] 156 (0,0))):=Lib.hid (by rw [hwa];exact heap_alloc_new _ _)
     have BA:=Lib.hid (alloc_bel hwa)
     have DA:=Lib.hid (HS.out.dk.below BA.out)
     have VA:=Lib.hid (KV.out.below BA.out)
     have CA:=Lib.hid (KC.out.below BA.out)
     have OA:=Lib.hid (HBO.out.below BA.out)
     rw [← hwa]
     clear hwa e0 e1 e2 e3
     have hxv:=DA.out.notX VA.out (by decide) (.inl (by decide)) (by decide)
     have hxc:=DA.out.notX CA.out (by decide) (.inl (by decide)) (by decide)
     have hxp:=DA.out.notX GA.out (by decide) (.inl (by decide)) (by decide)
     have g1:∀ z:SubX (DkX g gn rw') wa,z.at_.cell? ⟨gc,0,none⟩=some (.pointer (some ⟨gv,0,none⟩)):=fun z=>(CA.out.keep (z.ok_.block _ CA.out.lt hxc)).cv
     have g2:∀ z:SubX (DkX g gn rw') wa,z.at_.rangeAt gv 0 tab.toList:=fun z=>(VA.out.keep (z.ok_.block _ VA.out.lt hxv)).ctab
     have g3:∀ z:SubX (DkX g gn rw') wa,z.at_.cell? ⟨gv,256,none⟩=some (.pointer (some ⟨g,0,none⟩)):=fun z=>(VA.out.keep (z.ok_.block _ VA.out.lt hxv)).cd
     have g4:∀ z:SubX (DkX g gn rw') wa,z.at_.heap[wr.heap.size]?=some (.cells #[.int .u8 ((kindB y.2.1.leaf).toNat:Int),.int .i64 (y.1:Int),.int .u64 (gen:Int),.slice Ab.1 bL Ab.2] 156 (0,0)):=fun z=>z.ok_.heap GA.out hxp
     have hnb:=nd_len HYN.out.1
     have ha512:y.1<512:=by have h1:=HYN.out.2;have h2:=HD.out.hi;omega
     have HPW:Hid (∀ W:World,Below wa.heap.size wa W→Calls Tryz.prog 76 #[.agg tab,.pointer (some ⟨g,0,none⟩),.agg #[.int .u8 ((kindB y.2.1.leaf).toNat:Int),.int .i64 (y.1:Int),.int .u64 (gen:Int),.slice Ab.1 bL Ab.2]] W fun e w'=>e=.returned (.int .i64 0)∧WrotePg W w' B g gs gn rw' Ls cs cn st nw' ws' y.1 (putPg gen y)):=Lib.hid (fun W hW=>by
      refine pwrite_pgX (DA.out.below hW) (by rw [HS.out.cnt];have:=HLL.out;rw [HNL.out] at this;omega) (kindB y.2.1.leaf) y.1 gen (nodeB y.2.1) (putPg gen y) rfl (kindB_isK _) ha512 HG.out hnb.1 HYN.out.2 Ab.1 Ab.2 ?_ ?_ _ (by rw [← HBL.out];rfl)
      ·exact (OA.out.below hW).bytes
      ·exact (OA.out.below hW).caps.2.1)
     clear hxv hxc hxp hnb ha512
     refine region_waysX 16 (DkX g gn rw') (.one [0,1,2,3,4,5,6,7,8,9,10,11,12,13,14] 15 (.done [])) (by kernel_rfl) (by kernel_rfl) ?_
     rintro wd hbd
     have BD:=Lib.hid hbd
     clear hbd
     rw [wpWaysT_one]
     try simp only [List.map_cons,List.map_nil,opAt,List.getElem?_toArray,List.getElem?_cons_zero,List.getElem?_cons_succ,Option.getD_some]
     repeat (first
      | (go_big_quiet_want;refine quietX_load_mid 71 (.tmp 58) rfl gv 0 rfl tab.toList _ g2 Tryz.underlying71 rfl (by rw [tab_len];exact info64) ?_;simp only [Act.put,List.setIfInBounds_toArray,List.set_cons_zero,List.set_cons_succ];go_big_quiet_on)
      | (go_big_quiet_want;refine quietX_load_row 156 (.tmp 9) rfl wr.heap.size rfl 156 _ (0,0) _ g4 Tryz.underlying156 rfl (by kernel_rfl) ?_;simp only [Act.put,List.setIfInBounds_toArray,List.set_cons_zero,List.set_cons_succ];go_big_quiet_on)
      | go_big_quiet_step (fail))
     clear g1 g2 g3 g4
     refine wpQuiet_nil ?_
     simp only [Array.toArray_toList]
     go_wp2_with (go_at_call 76;refine (HPW.out _ BD.out).mono ?_;rintro e w4 ⟨rfl,hwp⟩;have WP:=Lib.hid hwp;clear hwp)
     have OX:Hid (OuterX (DkX g gn rw') wa w4):=Lib.hid (OuterX.of_moved BD.out WP.out.2.1)
     refine ⟨⟨⟨_,OX.out⟩,rfl⟩,?_⟩
     try simp only [Act.put,List.setIfInBounds_toArray,List.set_cons_zero,List.set_cons_succ]
     rw [wpWaysT_done]
     simp only [List.map_nil,List.drop_succ_cons,List.drop_zero]
     refine wpQuiet_nil ?_
     have HEND:Hid (∃ N' rw' ws' nw',W2S w2 w4 gen B g gs gn Ls cs cn rw st nw ws L (j+1) N' rw' ws' nw'):=Lib.hid (by
      obtain ⟨⟨rw2,ws2,nw2,hdk,hws,hp1,hp2,hmv⟩,ho,_⟩:=WP.out
      refine ⟨_,rw2,ws2,nw2,{ dk:=hdk,cnt:=by rw [hws,HS.out.cnt];omega,pgs:=?_,out:=?_,mov:=?_ }⟩
      ·rw [take_snoc HY.out]
       exact HS.out.pgs.snoc hp1 hp2 (nodup_take HND.out HY.out)
      ·exact HS.out.out.chain HS.out.mov (OuterX.of_moved BA.out OX.out)
      ·exact HS.out.mov.trans (by have:=HS.out.out.size;have:=BA.out.size;have:=BD.out.size;omega) hmv)
     have hkw:wrap64 ((j:Int)+1)=(j:Int)+1:=by have:=HNN.out;unfold wrap64;omega
     clear OX WP HPW BD OA CA VA DA GA BA HBO HYN HY HS KV KC
     go_wp2_with fail
     go_roundw
     case rel=>exact ⟨j+1,by omega,by go_num,HEND⟩
     case measure=>first | exact meas_step4 hlj rfl | exact meas_step4 hlj hkw
    ·obtain rfl:j=k:=by omega
     have hkm:decide ((j:Int)<(j:Int))=false:=by simp
     go_upto_region 17 with fail
     have g1:∀ z:SubX (fun _=>False) wr,z.at_.cell? ⟨gc,0,none⟩=some (.pointer (some ⟨gv,0,none⟩)):=fun z=>(KC.out.keep (z.ok_.block _ KC.out.lt (fun h=>h))).cv
     have g2:∀ z:SubX (fun _=>False) wr,z.at_.rangeAt gc 1 (mapL (p:Int) U):=fun z=>(KC.out.keep (z.ok_.block _ KC.out.lt (fun h=>h))).cm
     obtain ⟨C,hC⟩:∃ C,C=(mapL (p:Int) U).toArray:=⟨_,rfl⟩
     have HC1:Hid (C.size=513):=Lib.hid (by rw [hC,List.size_toArray];exact mapL_len _ HU.out)
     have HC3:Hid (C.all (·.oneCell')=true):=Lib.hid (by rw [hC];exact all_oneCell_toArray (mapL_one _ _))
     have HCL:Hid (C.toList=mapL (p:Int) U):=Lib.hid (by rw [hC])
     refine region_waysX 10 (fun _=>False) (.done [0,1,2,3,4,5,6,7,8,9]) (by kernel_rfl) (by kernel_rfl) ?_
     rintro wd hbd
     have BD:=Lib.hid hbd
     clear hbd
     have VD:=Lib.hid (KV.out.below BD.out)
     have HTH:Hid (wd.there gv 258 C.size):=Lib.hid (VD.out.thM HUv.out HVv.out _ HC1.out)
     rw [wpWaysT_done]
     try simp only [List.map_cons,List.map_nil,opAt,List.getElem?_toArray,List.getElem?_cons_zero,List.getElem?_cons_succ,Option.getD_some]
     repeat (first
      | (go_big_quiet_want;refine quietX_load_mid 62 (.tmp 79) rfl gc 1 rfl (mapL (p:Int) U) _ g2 Tryz.underlying62 rfl (infoMapL _ HU.out) ?_;simp only [Act.put,List.setIfInBounds_toArray,List.set_cons_zero,List.set_cons_succ];go_big_quiet_on)
      | go_big_quiet_step (fail))
     clear g1 g2
     refine wpQuiet_nil ?_
     rw [← hC]
     simp only [List.drop_succ_cons,List.drop_zero]
     clear hC
     go_wp2_with (refine wpList_store_mid rfl 62 (.tmp 82) (.tmp 80) rfl gv 258 C rfl rfl HTH.out (by rw [HC1.out];exact infoMap) HC3.out ?_)
     go_ret
     rw [HCL.out]
     have hgr:=grown_setCells gv (mapL (p:Int) U) wd 258
     have hne:∀ q:Nat,q≠gv→q<wd.heap.size→(wd.setCells gv 258 (mapL (p:Int) U)).heap[q]?=wd.heap[q]?:=fun q h1 h2=>hgr.block q h2 (fun e=>h1 (by cases e;rfl))
     have DD:=HS.out.dk.below BD.out
     have hnv:=DD.notX VD.out (by decide) (.inl (by decide)) (by decide)
     have hnv0:=HD2.out.notX HV2.out (by decide) (.inl (by decide)) (by decide)
     refine ⟨rfl,VD.out.set (by rw [HUv.out,HU.out]),⟨rw',ws',nw',?_,by rw [HS.out.cnt,HNL.out],by have h1:=HS.out.pgs;rwa [HLT.out] at h1,?_⟩,?_⟩
     ·have h1:=DD.keepX hgr.size (hne g (fun e=>hnv (.inl e.symm)) (Nat.lt_of_lt_of_le DD.gN DD.NN)) (hne gs (fun e=>?_) (Nat.lt_of_lt_of_le DD.sN DD.NN)) (hne gn (fun e=>hnv (.inr (.inl e.symm))) (Nat.lt_of_lt_of_le DD.nN DD.NN)) (fun q hq=>hne q (fun e=>hnv (.inr (.inr (by rw [← e];exact hq)))) (Nat.lt_of_lt_of_le (DD.wN q hq) DD.NN))
      ·exact { h1 with gN:=Nat.lt_of_lt_of_le h1.gN h1.NN,sN:=Nat.lt_of_lt_of_le h1.sN h1.NN,nN:=Nat.lt_of_lt_of_le h1.nN h1.NN,wN:=fun q hq=>Nat.lt_of_lt_of_le (h1.wN q hq) h1.NN,NN:=Nat.le_refl _ }
      ·obtain ⟨_,_,_,cur,hc,_⟩:=DD.stay.parts
       have h2:=VD.out
       unfold ViewAt at h2
       rw [e] at hc
       rw [hc] at h2
       cases h2
     ·have h1:=HS.out.mov
      rcases h1 with h1 | ⟨q,h1,h2⟩
      ·exact .inl h1
      ·exact .inr ⟨q,h1,Nat.le_trans HW.out.bel.size h2⟩
     ·have o1:OuterX (DkX g gn rw) w wr:=OuterX.of_moved HW.out.bel HS.out.out
      exact ⟨hgr.os.trans (BD.out.os.trans o1.os),hgr.tape.trans (BD.out.tape.trans o1.tape),hgr.output.trans (BD.out.output.trans o1.output),by have:=o1.size;have:=BD.out.size;have:=hgr.size;omega,fun q hq hX=>by
       have h1:=o1.block q hq (fun h=>hX (.inl h))
       have h2:=BD.out.block q (Nat.lt_of_lt_of_le hq o1.size)
       exact ((hne q (fun e=>hX (.inr e)) (by have:=o1.size;have:=BD.out.size;omega)).trans h2).trans h1⟩
theorem open_yes (gv g gen:Nat) (p:Int) (U V:List Bool) (w:World) (h:ViewAt w gv g gen p U V) :
 Calls Tryz.prog 26 #[.pointer (some ⟨gv,0,none⟩)] w fun e w'=>e=.returned (.bool true)∧w=w':=by
 have c:=h.cd
 clear h
 go_enter Tryz.func26,Tryz.ntmps26
 go_wp2_with fail
 go_ret
 exact ⟨rfl,rfl⟩
structure Wrote (w w':World) (gv g gen p:Nat) (U Vv:List Bool) (B gs gn Ls cs cn:Nat) (rw:Value) (st nw:List UInt8) (ws:List (Nat × List UInt8)) (L:List (Nat × (NodeD × NdL))):Prop where
 view:ViewAt w' gv g gen (p:Int) U Vv
 disk:∃ rw' ws' nw',Dk w' B w'.heap.size g gs gn rw' Ls cs cn st nw' ws' true (-1)∧ws'.length=ws.length+4*L.length∧PgsOf gen nw nw' L∧Moved w rw.ownBlock rw'.ownBlock
 out:OuterX (fun k=>DkX g gn rw k∨k=gv) w w'
section
variable {w w' W:World} {gv g gen p B gs gn Ls cs cn:Nat} {U Vv:List Bool} {rw:Value} {st nw:List UInt8} {ws:List (Nat × List UInt8)} {L:List (Nat × (NodeD × NdL))}
theorem Wrote.pre (hb:Below w.heap.size w W) (h:Wrote W w' gv g gen p U Vv B gs gn Ls cs cn rw st nw ws L):Wrote w w' gv g gen p U Vv B gs gn Ls cs cn rw st nw ws L where
 view:=h.view
 disk:=by
  obtain ⟨rw',ws',nw',h1,h2,h3,h4⟩:=h.disk
  refine ⟨rw',ws',nw',h1,h2,h3,?_⟩
  rcases h4 with h4 | ⟨q,h4,h5⟩
  ·exact .inl h4
  ·exact .inr ⟨q,h4,Nat.le_trans hb.size h5⟩
 out:=⟨h.out.os.trans hb.os,h.out.tape.trans hb.tape,h.out.output.trans hb.output,Nat.le_trans hb.size h.out.size,fun k hk hX=>(h.out.block k (Nat.lt_of_lt_of_le hk hb.size) hX).trans (hb.block k hk)⟩
theorem Wrote.post {T:TypeId} (h:Wrote w W gv g gen p U Vv B gs gn Ls cs cn rw st nw ws L) (hk:KeptNot T W w') (hb:Below w.heap.size W w') (h1:T≠105) (h2:T≠145) (h3:T≠5) (h4:T≠251):Wrote w w' gv g gen p U Vv B gs gn Ls cs cn rw st nw ws L where
 view:=h.view.keep (hk.kept _ _ _ _ h.view h1.symm)
 disk:=by
  obtain ⟨rw',ws',nw',d,a2,a3,a4⟩:=h.disk
  refine ⟨rw',ws',nw',?_,a2,a3,a4⟩
  have tn:=d.tyN
  obtain ⟨curN,hcN⟩:=tn
  obtain ⟨_,_,_,curS,hcS,_⟩:=d.stay.parts
  have d2:=d.keepX hk.size (hk.kept _ _ _ _ d.head h2.symm) (hk.kept _ _ _ _ hcS h3.symm) (hk.kept _ _ _ _ hcN h3.symm) (fun k e=>by
   rcases d.wait.2 with ⟨e0,_⟩ | ⟨q,cap,cur,hv,_,hq,_⟩
   ·rw [e0] at e
    simp [Value.ownBlock] at e
   ·rw [hv] at e
    obtain rfl:q=k:=by simpa [Value.ownBlock] using e
    exact hk.kept _ _ _ _ hq h4.symm)
  exact { d2 with gN:=Nat.lt_of_lt_of_le d2.gN d2.NN,sN:=Nat.lt_of_lt_of_le d2.sN d2.NN,nN:=Nat.lt_of_lt_of_le d2.nN d2.NN,wN:=fun q hq=>Nat.lt_of_lt_of_le (d2.wN q hq) d2.NN,NN:=Nat.le_refl _ }
 out:=⟨hb.os.trans h.out.os,hb.tape.trans h.out.tape,hb.output.trans h.out.output,Nat.le_trans h.out.size hb.size,fun k hk2 hX=>(hb.block k hk2).trans (h.out.block k hk2 hX)⟩
end
theorem done_yes (a h gc gv g gen p:Nat) (U Uv Vv:List Bool) {B N gs gn Ls cs cn:Nat} {rw:Value} {st nw:List UInt8} {ws:List (Nat × List UInt8)} (L:List (Nat × (NodeD × NdL))) (w:World) (hd:Dk w B N g gs gn rw Ls cs cn st nw ws true (-1)) (hv:ViewAt w gv g gen (p:Int) Uv Vv)
 (hw:∀ W,Below w.heap.size w W→Calls Tryz.prog 50 #[.pointer (some ⟨gc,0,none⟩)] W fun e w'=>e=.returned (.int .i64 0)∧Wrote W w' gv g gen p U Vv B gs gn Ls cs cn rw st nw ws L) :
 Calls Tryz.prog 29 #[.pointer (some ⟨gc,0,none⟩),.agg #[.int .i64 (a:Int),.int .i64 (h:Int)],.int .i64 0] w fun e w'=>e=.returned (.tuple #[.agg #[.int .i64 (a:Int),.int .i64 (h:Int)],.int .i64 0])∧Wrote w w' gv g gen p U Vv B gs gn Ls cs cn rw st nw ws L:=by
 have HW:=Lib.hid hw
 have HD:=Lib.hid hd
 have HV:=Lib.hid hv
 clear hw hd hv
 go_enter Tryz.func29,Tryz.ntmps29
 go_upto_region 2 with fail
 obtain ⟨w2,hw2⟩:∃ w2,w2=(w.alloc (.cells #[.int .i64 (a:Int),.int .i64 (h:Int)] 43)).alloc (.cells #[.int .i64 0,.int .i64 0] 43):=⟨_,rfl⟩
 have B2:Hid (Below w.heap.size w w2):=Lib.hid (by rw [hw2];exact ((Below.refl _ _).alloc (Nat.le_refl _) _).alloc (by simp) _)
 have G4:Hid (w2.heap[w.heap.size]?=some (.cells #[.int .i64 (a:Int),.int .i64 (h:Int)] 43 (0,0))):=Lib.hid (by rw [hw2];exact row_stays (heap_alloc_new _ _) ((Below.refl _ _).alloc (Nat.le_refl _) _))
 have G6:Hid (w2.heap[w.heap.size+1]?=some (.cells #[.int .i64 0,.int .i64 0] 43 (0,0))):=Lib.hid (by rw [hw2,show w.heap.size+1=(w.alloc (.cells #[.int .i64 (a:Int),.int .i64 (h:Int)] 43)).heap.size by simp];exact heap_alloc_new _ _)
 rw [← hw2]
 clear hw2
 go_upto_region 5 with (go_at_call 50;refine (HW.out _ B2.out).mono ?_;rintro e w3 ⟨rfl,h3⟩;have W3:=Lib.hid h3;clear h3)
 have hX:∀ k cs' fr,w2.heap[k]?=some (.cells cs' 43 fr)→¬ (DkX g gn rw k∨k=gv):=fun k cs' fr hk hx=>by
  rcases hx with hx | hx
  ·exact (HD.out.below B2.out).notX hk (by decide) (.inl (by decide)) (by decide) hx
  ·subst hx
   have h1:=HV.out.below B2.out
   unfold ViewAt at h1
   rw [hk] at h1
   cases h1
 have H4:=Lib.hid (W3.out.out.heap G4.out (hX _ _ _ G4.out))
 have H6:=Lib.hid (W3.out.out.heap G6.out (hX _ _ _ G6.out))
 clear hX
 go_wp2_with (first
  | (refine wpList_load_row rfl 43 (.tmp 4) rfl w.heap.size rfl 43 _ (0,0) _ H4.out Tryz.underlying43 rfl (by kernel_rfl) ?_)
  | (refine wpList_store_row rfl 43 (.tmp 6) (.tmp 16) rfl (w.heap.size+1) #[.int .i64 (a:Int),.int .i64 (h:Int)] rfl rfl 43 _ H6.out (by kernel_rfl) rfl (by simp [Value.oneCell']) ?_))
 refine bodyPost_ret (v:=.tuple #[.agg #[.int .i64 (a:Int),.int .i64 (h:Int)],.int .i64 0]) (results_cell_tmpB (p:=6) (u:=7) (ty:=43) rfl _ _ (w.heap.size+1) 43 _ (0,0) _ rfl (setRow_heap _ _ _ _ _ _ H6.out) Tryz.underlying43 rfl (by kernel_rfl)) rfl ⟨rfl,?_⟩
 exact (W3.out.pre B2.out).post (KeptNot.of_setRow H6.out _) (below_setRow (Below.refl _ _) (Nat.le_succ _) _) (by decide) (by decide) (by decide) (by decide)
end Go.Proofs.YtgkddhncfaeidaaGreat
