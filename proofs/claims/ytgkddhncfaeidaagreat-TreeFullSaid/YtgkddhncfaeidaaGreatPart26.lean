/- Squeezed: the texts as they are written lie in wip/tpl. -/
import Derived.Test.YtgkddhncfaeidaaGreatPart23
import Derived.Test.YtgkddhncfaeidaaGreatPart25
import Derived.Test.YtgkddhncfaeidaaGreatPart15
import Derived.Test.YtgkddhncfaeidaaGreatPart24
import Derived.Test.YtgkddhncfaeidaaGreatPart09
import Derived.Test.YtgkddhncfaeidaaGreatPart12
set_option maxRecDepth 100000
set_option maxHeartbeats 4000000
set_option linter.unusedSimpArgs false
set_option linter.unusedVariables false
namespace Go.Proofs.YtgkddhncfaeidaaGreat
open Go.RowKit CrcM PageM
theorem picks_from (p:Nat) (hp:p≤512):∀ (n s:Nat) (U:List Bool),U.length=512→(∀ j,U.getD j false=decide (j<s))→(∀ j,2≤j→map0.getD j false=false)→2≤s→s+n≤p→Picks p map0 U (List.range' s n)
 | 0,_,_,_,_,_,_,_=>trivial
 | n+1,s,U,hU,hs,h0,h2,hn=>by
   rw [List.range'_succ]
   refine ⟨⟨⟨by omega,fun j hj=>?_⟩,fun a' ha' hf=>?_⟩,picks_from p hp n (s+1) (markN U s true 1) (by rw [length_markN];exact hU) (fun j=>?_) h0 (by omega) (by omega)⟩
   ·obtain rfl:j=0:=by omega
    exact ⟨by rw [hs];simp,h0 _ (by omega)⟩
   ·have h1:=(hf.2 0 (by decide)).1
    rw [hs] at h1
    simp at h1
    omega
   ·rw [getD_markN U s true j 1 (by omega),hs]
    by_cases h:s≤j∧j<s+1
    ·rw [if_pos h]
     exact (decide_eq_true h.2).symm
    ·rw [if_neg h]
     exact decide_eq_decide.2 (by omega)
theorem orK_self {U:List Bool} (hU:U.length=512):orK U U 512=U:=by
 refine List.ext_getElem (length_orK U U 512) fun i h1 h2=>?_
 have h:=getD_orK U U i 512 (by rw [hU];exact Nat.le_refl _)
 rw [if_pos (by omega),Bool.or_self] at h
 rw [List.getD_eq_getElem?_getD,List.getD_eq_getElem?_getD,List.getElem?_eq_getElem h1,List.getElem?_eq_getElem h2] at h
 exact h
theorem picks_new (p n:Nat) (hp:p≤512) (hn:2+n≤p):Picks p map0 map0 (List.range' 2 n) :=
 picks_from p hp n 2 map0 length_map0 get_map0 (fun j hj=>by rw [get_map0];exact decide_eq_false (by omega)) (Nat.le_refl _) hn
def capH (h:Nat):Nat:=7*16 ^ h
def ND:Nat→Nat→Nat
 | 0,k=>(k+6) / 7
 | h+1,k=>ND h k+(k+capH (h+1) - 1) / capH (h+1)
theorem lessB_trans_d0 {a b c:KeyD} (h1:lessB a b=true) (h2:lessB b c=true):lessB a c=true:=by
 unfold lessB at *
 simp only [decide_eq_true_eq] at *
 omega
end Go.Proofs.YtgkddhncfaeidaaGreat
namespace Go.Proofs.YtgkddhncfaeidaaGreat
open Go.RowKit Go.ChangeShapes Go.WideShapes Go.ChangeAt CrcM PageM
theorem node_yes (gv g gen p a gg:Nat) (U V:List Bool) {B N gs gn Ls cs cn:Nat} {rw:Value} {st nw:List UInt8} {ws:List (Nat × List UInt8)} (n:NodeD) (hn:okNode n) (hi:inNode n) (hin:256*a+256≤Ls) (hgg:gg<18446744073709551616) (hpg:pageOf nw a=putP ⟨kindB n.leaf,(a:Int),gg,nodeB n⟩) (b:Bool) (hb:b=n.leaf) (za:Int) (hza:za=(a:Int)) (w:World) (hv:ViewAt w gv g gen (p:Int) U V) (hd:Dk w B N g gs gn rw Ls cs cn st nw ws true (-1)) :
 Calls Tryz.prog 57 #[.pointer (some ⟨gv,0,none⟩),.int .i64 za,.bool b] w fun e w'=>(∃ l':NdL,e=.returned (.tuple #[.agg #[.bool n.leaf,.slice l'.EA n.es.length l'.ec,.slice l'.KA n.ks.length l'.kc,.slice l'.DA n.ds.length l'.dc],.int .i64 0])∧NodeAt w' n l'∧NdNew w' w.heap.size n l')∧Below w.heap.size w w':=by
 subst hza
 obtain ⟨T,hT⟩:∃ T,T=tab:=⟨_,rfl⟩
 obtain ⟨bl,hbl⟩:∃ bl,bl=(nodeB n).length:=⟨_,rfl⟩
 have HBL:=Lib.hid hbl
 have HPR:Hid (∀ W:World,Below w.heap.size w W→Calls Tryz.prog 83 #[.agg T,.pointer (some ⟨g,0,none⟩),.int .i64 (a:Int),.int .u8 ((kindB b).toNat:Int)] W fun e w' =>
  (∃ A' c',e=.returned (.tuple #[.agg #[.int .u8 ((kindB n.leaf).toNat:Int),.int .i64 (a:Int),.int .u64 (gg:Int),.slice A' bl c'],.int .i64 0])∧BytesAt w' A' (nodeB n)∧bl≤c'∧c'≤maxLen∧∀ a,A'=some a→W.heap.size≤a.block)∧Below W.heap.size W w'):=Lib.hid (fun W hW=>by
  rw [hT,hb,hbl]
  exact pread_yes (hd.below hW) (a:Int) a rfl hin (kindB n.leaf) gg (nodeB n) (kindB_isK _) hgg (nd_len hn).1 _ rfl hpg _ rfl)
 have HNG:Hid (∀ (W:World) (A:Option Addr) (cap:Nat),BytesAt W A (nodeB n)→bl≤cap→cap≤maxLen→Calls Tryz.prog 84 #[.bool b,.slice A bl cap] W fun e w'=>∃ l':NdL,e=.returned (.tuple #[.agg #[.bool n.leaf,.slice l'.EA n.es.length l'.ec,.slice l'.KA n.ks.length l'.kc,.slice l'.DA n.ds.length l'.dc],.int .i64 0])∧NodeAt w' n l'∧NdNew w' W.heap.size n l'∧Below W.heap.size W w'):=Lib.hid (fun W A cap h1 h2 h3=>by
  rw [hb]
  exact get_backN n hn hi A cap bl hbl W h1 h2 h3)
 have HV:=Lib.hid hv
 have HT1:Hid (T.size=256):=Lib.hid (by rw [hT];exact size_tab)
 have HTV:Hid (∀ W:World,Below w.heap.size w W→W.rangeAt gv 0 T.toList):=Lib.hid (fun W hW=>by rw [hT];exact (hv.below hW).ctab)
 clear hv hd hn hi hin hgg hpg hb hT hbl
 obtain ⟨kb,hkb⟩:∃ kb:Int,kb=((kindB b).toNat:Int):=⟨_,rfl⟩
 have HKD:Hid (∀ W:World,Calls Tryz.prog 75 #[.bool b] W fun e w'=>e=.returned (.int .u8 kb)∧W=w'):=Lib.hid (fun W=>by rw [hkb];exact kind_leaf b W)
 rw [← hkb] at HPR
 clear hkb
 obtain ⟨kn,hkn⟩:∃ kn:Int,kn=((kindB n.leaf).toNat:Int):=⟨_,rfl⟩
 rw [← hkn] at HPR
 clear hkn
 obtain ⟨zn,hzn⟩:∃ zn:Value,zn=.bool n.leaf:=⟨_,rfl⟩
 rw [← hzn] at HNG ⊢
 have HZ1:Hid (zn.oneCell'=true):=Lib.hid (by rw [hzn];rfl)
 clear hzn
 go_enter Tryz.func57,Tryz.ntmps57
 go_upto_region 3 with (go_at_call 26;refine (open_yes gv g gen p U V _ (HV.out.below (alloc_bel rfl))).mono ?_;rintro e w0 ⟨rfl,rfl⟩)
 obtain ⟨wx,hwx⟩:∃ wx,wx=w.alloc (.cells #[.bool false,.slice none 0 0,.slice none 0 0,.slice none 0 0] 86):=⟨_,rfl⟩
 have GX:Hid (wx.heap[w.heap.size]?=some (.cells #[.bool false,.slice none 0 0,.slice none 0 0,.slice none 0 0] 86 (0,0))):=Lib.hid (by rw [hwx];exact heap_alloc_new _ _)
 have BX:=Lib.hid (alloc_bel hwx)
 rw [← hwx]
 clear hwx
 have g1:∀ y:SubW wx.heap.size wx,y.at_.rangeAt gv 0 T.toList:=fun y=>HTV.out _ (BX.out.trans (y.ok_.mono BX.out.size))
 have g2:∀ y:SubW wx.heap.size wx,y.at_.cell? ⟨gv,256,none⟩=some (.pointer (some ⟨g,0,none⟩)):=fun y=>(HV.out.below (BX.out.trans (y.ok_.mono BX.out.size))).cd
 refine region_ways4 wx.heap.size (Nat.le_refl _) (.two [0,1,2,3,4,5,6,7,8,9] 10 (.two [] 11 (.one [12,13,14] 15 (.one [] 16 (.done [17]))) 15 (.one [] 11 (.one [12,13,14] 16 (.done [17])))) 15 (.one [] 10 (.one [] 11 (.one [12,13,14] 16 (.done [17]))))) (by kernel_rfl) (by kernel_rfl) ?_
 rintro wd hbd
 have BD:=Lib.hid hbd
 clear hbd
 rw [wpWays_two4]
 try simp only [List.map_cons,List.map_nil,opAt,List.getElem?_toArray,List.getElem?_cons_zero,List.getElem?_cons_succ,Option.getD_some]
 repeat (first
  | (go_big_quiet_want;refine quiet_load_mid 71 (.tmp 17) rfl gv 0 rfl T.toList _ g1 Tryz.underlying71 rfl (by rw [Array.length_toList,HT1.out];exact info64) ?_;simp only [Act.put,List.setIfInBounds_toArray,List.set_cons_zero,List.set_cons_succ];go_big_quiet_on)
  | go_big_quiet_step (fail))
 rw [show T.toList.toArray=T from Array.toArray_toList]
 clear g1 g2
 refine wpQuiet_nil ⟨?_,?_⟩
 ·go_wp2_with (go_at_call 75;refine (HKD.out _).mono ?_;rintro e x0 ⟨rfl,rfl⟩)
  refine ⟨⟨⟨_,BD.out⟩,rfl⟩,?_⟩
  try simp only [Act.put,List.setIfInBounds_toArray,List.set_cons_zero,List.set_cons_succ]
  rw [wpWays_two4]
  try simp only [List.map_cons,List.map_nil,opAt,List.getElem?_toArray,List.getElem?_cons_zero,List.getElem?_cons_succ,Option.getD_some]
  refine wpQuiet_nil ⟨?_,?_⟩
  ·go_wp2_with (go_at_call 83;refine (HPR.out _ (BX.out.trans (BD.out.mono BX.out.size))).mono ?_;rintro e w1 ⟨⟨A1,c1,rfl,hx1,hc1,hm1,hn1⟩,hbq⟩;have HX1:=Lib.hid hx1;have B1:=Lib.hid (BD.out.trans (hbq.mono BD.out.size));clear hx1)
   refine ⟨⟨⟨_,B1.out⟩,rfl⟩,?_⟩
   try simp only [Act.put,List.setIfInBounds_toArray,List.set_cons_zero,List.set_cons_succ]
   rw [wpWays_one4]
   try simp only [List.map_cons,List.map_nil,opAt,List.getElem?_toArray,List.getElem?_cons_zero,List.getElem?_cons_succ,Option.getD_some]
   repeat (first
    | go_big_quiet_step (fail))
   refine wpQuiet_nil ?_
   go_wp2_with fail
   obtain ⟨qa,hqa⟩:∃ qa,qa=w1.heap.size:=⟨_,rfl⟩
   obtain ⟨wa,hwa⟩:∃ wa,wa=World.alloc w1 (.cells #[.int .u8 0,.int .i64 0,.int .u64 0,.slice none 0 0] 156):=⟨_,rfl⟩
   have GA:Hid (wa.heap[qa]?=some (.cells #[.int .u8 0,.int .i64 0,.int .u64 0,.slice none 0 0] 156 (0,0))):=Lib.hid (by rw [hwa,hqa];exact heap_alloc_new _ _)
   have AB:=Lib.hid (alloc_bel hwa)
   have BA:=Lib.hid (B1.out.trans (AB.out.mono B1.out.size))
   have QE:Hid (w1.heap.size≤qa):=Lib.hid (by rw [hqa];exact Nat.le_refl _)
   have QW:Hid (qa<wa.heap.size):=Lib.hid (by rw [hwa,hqa,World.size_alloc];exact Nat.lt_succ_self _)
   have QL:Hid (wx.heap.size≤qa):=Lib.hid (by rw [hqa];exact B1.out.size)
   rw [← hwa,← hqa]
   clear hwa hqa
   refine ⟨⟨⟨_,BA.out⟩,rfl⟩,?_⟩
   try simp only [Act.put,List.setIfInBounds_toArray,List.set_cons_zero,List.set_cons_succ]
   have XA:=Lib.hid (HX1.out.below AB.out)
   rw [wpWays_one4]
   try simp only [List.map_cons,List.map_nil,opAt,List.getElem?_toArray,List.getElem?_cons_zero,List.getElem?_cons_succ,Option.getD_some]
   repeat (first
    | go_big_quiet_step (fail))
   refine wpQuiet_nil ?_
   have BS:=BA
   have XS:=XA
   obtain ⟨cc,hcc⟩:∃ cc:Array Value,cc=#[.int .u8 kn,.int .i64 (a:Int),.int .u64 (gg:Int),.slice A1 bl c1]:=⟨_,rfl⟩
   rw [← hcc]
   have S1:Hid ((Tryz.prog.info? 156).map (·.size)=some cc.size):=Lib.hid (by subst hcc;kernel_rfl)
   have S2:Hid ((#[.int .u8 0,.int .i64 0,.int .u64 0,.slice none 0 0]:Array Value).size=cc.size):=Lib.hid (by subst hcc;rfl)
   have S3:Hid (cc.all (·.oneCell')=true):=Lib.hid (by subst hcc;simp [Value.oneCell'])
   have HCC:=Lib.hid hcc
   clear hcc
   go_wp2_with (refine wpList_store_row rfl 156 (.tmp 8) (.tmp 27) rfl qa cc rfl rfl 156 _ GA.out S1.out S2.out S3.out ?_)
   have B3:=Lib.hid (below_setRow BS.out QL.out cc)
   have G3:=Lib.hid (setRow_heap _ qa _ cc _ _ GA.out)
   refine ⟨⟨⟨_,B3.out⟩,rfl⟩,?_⟩
   try simp only [Act.put,List.setIfInBounds_toArray,List.set_cons_zero,List.set_cons_succ]
   rw [wpWays_done4]
   try simp only [List.map_cons,List.map_nil,opAt,List.getElem?_toArray,List.getElem?_cons_zero,List.getElem?_cons_succ,Option.getD_some]
   repeat (first
    | go_big_quiet_step (fail))
   refine wpQuiet_nil ?_
   obtain ⟨x5,hx5⟩:∃ x5,x5=World.setRow wa qa cc:=⟨_,rfl⟩
   have X5:Hid (BytesAt x5 A1 (nodeB n)):=Lib.hid (by
    rw [hx5]
    exact HX1.out.below (below_setRow AB.out QE.out cc))
   rw [← hx5] at B3 G3 ⊢
   clear hx5
   have G6:=Lib.hid (row_stays GX.out B3.out)
   rw [HCC.out] at G3
   have k1:x5.cell? ⟨qa,3,none⟩=some (.slice A1 bl c1):=nd_cell G3.out 3 _ rfl
   go_wp2_with (first
    | (go_at_call 84;refine (HNG.out _ _ _ X5.out hc1 hm1).mono ?_;rintro e x6 ⟨l',rfl,hl6,hn6,hb6⟩;have L6:=Lib.hid hl6;have G7:=Lib.hid (row_stays G6.out hb6);have B6:=Lib.hid hb6;clear hl6 hb6)
    | (refine wpList_store_row rfl 86 (.tmp 6) (.tmp 37) rfl w.heap.size _ rfl rfl 86 _ G7.out (by kernel_rfl) rfl (by simp [Value.oneCell'];exact HZ1.out) ?_))
   refine bodyPost_ret (v:=.tuple #[.agg #[zn,.slice l'.EA n.es.length l'.ec,.slice l'.KA n.ks.length l'.kc,.slice l'.DA n.ds.length l'.dc],.int .i64 0]) (results_cell_tmpB (p:=6) (u:=7) (ty:=86) rfl _ _ w.heap.size 86 _ (0,0) _ rfl (setRow_heap _ _ _ _ _ _ G7.out) Tryz.underlying86 rfl (by kernel_rfl)) rfl ⟨⟨l',rfl,?_,?_⟩,?_⟩
   ·exact NodeAt.off G7.out (box_ints ⟨_,_,_,rfl⟩ ⟨_,_,_,rfl⟩ ⟨_,_,_,rfl⟩) (fun b hb=>setRow_other _ _ _ _ hb) L6.out
   ·have hz5:w.heap.size≤x5.heap.size:=Nat.le_trans BX.out.size B3.out.size
    have hm6:=hn6.mono hz5
    have hoff:∀ (E:TypeId) (k:Nat) (cur:Array Value),E≠86→x6.heap[k]?=some (.cells cur E (0,0))→k≠w.heap.size:=fun E k cur hE hc e=>by
     rw [e] at hc
     have h9:=G7.out.symm.trans hc
     injection h9 with h9
     injection h9 with _ h9
     exact hE h9.symm
    exact ⟨hm6.e,hm6.k,hm6.d,row_keep hm6.re (fun k cur _ hc=>setRow_other _ _ _ _ (hoff _ k cur (by decide) hc)),row_keep hm6.rk (fun k cur _ hc=>setRow_other _ _ _ _ (hoff _ k cur (by decide) hc)),row_keep hm6.rd (fun k cur _ hc=>setRow_other _ _ _ _ (hoff _ k cur (by decide) hc))⟩
   ·exact below_setRow (BX.out.trans (B3.out.mono BX.out.size |>.trans (B6.out.mono (by have:=B3.out.size;have:=BX.out.size;omega)))) (Nat.le_refl _) _
  ·go_wp2_with fail
   obtain ⟨qa,hqa⟩:∃ qa,qa=wd.heap.size:=⟨_,rfl⟩
   obtain ⟨wa,hwa⟩:∃ wa,wa=World.alloc wd (.cells #[.int .u8 0,.int .i64 0,.int .u64 0,.slice none 0 0] 156):=⟨_,rfl⟩
   have GA:Hid (wa.heap[qa]?=some (.cells #[.int .u8 0,.int .i64 0,.int .u64 0,.slice none 0 0] 156 (0,0))):=Lib.hid (by rw [hwa,hqa];exact heap_alloc_new _ _)
   have AB:=Lib.hid (alloc_bel hwa)
   have BA:=Lib.hid (BD.out.trans (AB.out.mono BD.out.size))
   have QE:Hid (wd.heap.size≤qa):=Lib.hid (by rw [hqa];exact Nat.le_refl _)
   have QW:Hid (qa<wa.heap.size):=Lib.hid (by rw [hwa,hqa,World.size_alloc];exact Nat.lt_succ_self _)
   have QL:Hid (wx.heap.size≤qa):=Lib.hid (by rw [hqa];exact BD.out.size)
   rw [← hwa,← hqa]
   clear hwa hqa
   refine ⟨⟨⟨_,BA.out⟩,rfl⟩,?_⟩
   try simp only [Act.put,List.setIfInBounds_toArray,List.set_cons_zero,List.set_cons_succ]
   rw [wpWays_one4]
   try simp only [List.map_cons,List.map_nil,opAt,List.getElem?_toArray,List.getElem?_cons_zero,List.getElem?_cons_succ,Option.getD_some]
   refine wpQuiet_nil ?_
   go_wp2_with (go_at_call 83;refine (HPR.out _ (BX.out.trans (BA.out.mono BX.out.size))).mono ?_;rintro e w1 ⟨⟨A1,c1,rfl,hx1,hc1,hm1,hn1⟩,hbq⟩;have HX1:=Lib.hid hx1;have B1:=Lib.hid (BA.out.trans (hbq.mono BA.out.size));clear hx1)
   refine ⟨⟨⟨_,B1.out⟩,rfl⟩,?_⟩
   try simp only [Act.put,List.setIfInBounds_toArray,List.set_cons_zero,List.set_cons_succ]
   have GA1:=Lib.hid (row_stays GA.out hbq)
   clear GA
   have GA:=GA1
   have XA:=HX1
   rw [wpWays_one4]
   try simp only [List.map_cons,List.map_nil,opAt,List.getElem?_toArray,List.getElem?_cons_zero,List.getElem?_cons_succ,Option.getD_some]
   repeat (first
    | go_big_quiet_step (fail))
   refine wpQuiet_nil ?_
   have BS:=B1
   have XS:=XA
   obtain ⟨cc,hcc⟩:∃ cc:Array Value,cc=#[.int .u8 kn,.int .i64 (a:Int),.int .u64 (gg:Int),.slice A1 bl c1]:=⟨_,rfl⟩
   rw [← hcc]
   have S1:Hid ((Tryz.prog.info? 156).map (·.size)=some cc.size):=Lib.hid (by subst hcc;kernel_rfl)
   have S2:Hid ((#[.int .u8 0,.int .i64 0,.int .u64 0,.slice none 0 0]:Array Value).size=cc.size):=Lib.hid (by subst hcc;rfl)
   have S3:Hid (cc.all (·.oneCell')=true):=Lib.hid (by subst hcc;simp [Value.oneCell'])
   have HCC:=Lib.hid hcc
   clear hcc
   go_wp2_with (refine wpList_store_row rfl 156 (.tmp 8) (.tmp 27) rfl qa cc rfl rfl 156 _ GA.out S1.out S2.out S3.out ?_)
   have B3:=Lib.hid (below_setRow BS.out QL.out cc)
   have G3:=Lib.hid (setRow_heap _ qa _ cc _ _ GA.out)
   refine ⟨⟨⟨_,B3.out⟩,rfl⟩,?_⟩
   try simp only [Act.put,List.setIfInBounds_toArray,List.set_cons_zero,List.set_cons_succ]
   rw [wpWays_done4]
   try simp only [List.map_cons,List.map_nil,opAt,List.getElem?_toArray,List.getElem?_cons_zero,List.getElem?_cons_succ,Option.getD_some]
   repeat (first
    | go_big_quiet_step (fail))
   refine wpQuiet_nil ?_
   obtain ⟨x5,hx5⟩:∃ x5,x5=World.setRow w1 qa cc:=⟨_,rfl⟩
   have X5:Hid (BytesAt x5 A1 (nodeB n)):=Lib.hid (by
    rw [hx5]
    exact bytes_setRow HX1.out (fun a ha=>by have:=hn1 a ha;have:=QW.out;omega) _)
   rw [← hx5] at B3 G3 ⊢
   clear hx5
   have G6:=Lib.hid (row_stays GX.out B3.out)
   rw [HCC.out] at G3
   have k1:x5.cell? ⟨qa,3,none⟩=some (.slice A1 bl c1):=nd_cell G3.out 3 _ rfl
   go_wp2_with (first
    | (go_at_call 84;refine (HNG.out _ _ _ X5.out hc1 hm1).mono ?_;rintro e x6 ⟨l',rfl,hl6,hn6,hb6⟩;have L6:=Lib.hid hl6;have G7:=Lib.hid (row_stays G6.out hb6);have B6:=Lib.hid hb6;clear hl6 hb6)
    | (refine wpList_store_row rfl 86 (.tmp 6) (.tmp 37) rfl w.heap.size _ rfl rfl 86 _ G7.out (by kernel_rfl) rfl (by simp [Value.oneCell'];exact HZ1.out) ?_))
   refine bodyPost_ret (v:=.tuple #[.agg #[zn,.slice l'.EA n.es.length l'.ec,.slice l'.KA n.ks.length l'.kc,.slice l'.DA n.ds.length l'.dc],.int .i64 0]) (results_cell_tmpB (p:=6) (u:=7) (ty:=86) rfl _ _ w.heap.size 86 _ (0,0) _ rfl (setRow_heap _ _ _ _ _ _ G7.out) Tryz.underlying86 rfl (by kernel_rfl)) rfl ⟨⟨l',rfl,?_,?_⟩,?_⟩
   ·exact NodeAt.off G7.out (box_ints ⟨_,_,_,rfl⟩ ⟨_,_,_,rfl⟩ ⟨_,_,_,rfl⟩) (fun b hb=>setRow_other _ _ _ _ hb) L6.out
   ·have hz5:w.heap.size≤x5.heap.size:=Nat.le_trans BX.out.size B3.out.size
    have hm6:=hn6.mono hz5
    have hoff:∀ (E:TypeId) (k:Nat) (cur:Array Value),E≠86→x6.heap[k]?=some (.cells cur E (0,0))→k≠w.heap.size:=fun E k cur hE hc e=>by
     rw [e] at hc
     have h9:=G7.out.symm.trans hc
     injection h9 with h9
     injection h9 with _ h9
     exact hE h9.symm
    exact ⟨hm6.e,hm6.k,hm6.d,row_keep hm6.re (fun k cur _ hc=>setRow_other _ _ _ _ (hoff _ k cur (by decide) hc)),row_keep hm6.rk (fun k cur _ hc=>setRow_other _ _ _ _ (hoff _ k cur (by decide) hc)),row_keep hm6.rd (fun k cur _ hc=>setRow_other _ _ _ _ (hoff _ k cur (by decide) hc))⟩
   ·exact below_setRow (BX.out.trans (B3.out.mono BX.out.size |>.trans (B6.out.mono (by have:=B3.out.size;have:=BX.out.size;omega)))) (Nat.le_refl _) _
 ·go_wp2_with fail
  obtain ⟨qa,hqa⟩:∃ qa,qa=wd.heap.size:=⟨_,rfl⟩
  obtain ⟨wa,hwa⟩:∃ wa,wa=World.alloc wd (.cells #[.int .u8 0,.int .i64 0,.int .u64 0,.slice none 0 0] 156):=⟨_,rfl⟩
  have GA:Hid (wa.heap[qa]?=some (.cells #[.int .u8 0,.int .i64 0,.int .u64 0,.slice none 0 0] 156 (0,0))):=Lib.hid (by rw [hwa,hqa];exact heap_alloc_new _ _)
  have AB:=Lib.hid (alloc_bel hwa)
  have BA:=Lib.hid (BD.out.trans (AB.out.mono BD.out.size))
  have QE:Hid (wd.heap.size≤qa):=Lib.hid (by rw [hqa];exact Nat.le_refl _)
  have QW:Hid (qa<wa.heap.size):=Lib.hid (by rw [hwa,hqa,World.size_alloc];exact Nat.lt_succ_self _)
  have QL:Hid (wx.heap.size≤qa):=Lib.hid (by rw [hqa];exact BD.out.size)
  rw [← hwa,← hqa]
  clear hwa hqa
  refine ⟨⟨⟨_,BA.out⟩,rfl⟩,?_⟩
  try simp only [Act.put,List.setIfInBounds_toArray,List.set_cons_zero,List.set_cons_succ]
  rw [wpWays_one4]
  try simp only [List.map_cons,List.map_nil,opAt,List.getElem?_toArray,List.getElem?_cons_zero,List.getElem?_cons_succ,Option.getD_some]
  refine wpQuiet_nil ?_
  go_wp2_with (go_at_call 75;refine (HKD.out _).mono ?_;rintro e x0 ⟨rfl,rfl⟩)
  refine ⟨⟨⟨_,BA.out⟩,rfl⟩,?_⟩
  try simp only [Act.put,List.setIfInBounds_toArray,List.set_cons_zero,List.set_cons_succ]
  rw [wpWays_one4]
  try simp only [List.map_cons,List.map_nil,opAt,List.getElem?_toArray,List.getElem?_cons_zero,List.getElem?_cons_succ,Option.getD_some]
  refine wpQuiet_nil ?_
  go_wp2_with (go_at_call 83;refine (HPR.out _ (BX.out.trans (BA.out.mono BX.out.size))).mono ?_;rintro e w1 ⟨⟨A1,c1,rfl,hx1,hc1,hm1,hn1⟩,hbq⟩;have HX1:=Lib.hid hx1;have B1:=Lib.hid (BA.out.trans (hbq.mono BA.out.size));clear hx1)
  refine ⟨⟨⟨_,B1.out⟩,rfl⟩,?_⟩
  try simp only [Act.put,List.setIfInBounds_toArray,List.set_cons_zero,List.set_cons_succ]
  have GA1:=Lib.hid (row_stays GA.out hbq)
  clear GA
  have GA:=GA1
  have XA:=HX1
  rw [wpWays_one4]
  try simp only [List.map_cons,List.map_nil,opAt,List.getElem?_toArray,List.getElem?_cons_zero,List.getElem?_cons_succ,Option.getD_some]
  repeat (first
   | go_big_quiet_step (fail))
  refine wpQuiet_nil ?_
  have BS:=B1
  have XS:=XA
  obtain ⟨cc,hcc⟩:∃ cc:Array Value,cc=#[.int .u8 kn,.int .i64 (a:Int),.int .u64 (gg:Int),.slice A1 bl c1]:=⟨_,rfl⟩
  rw [← hcc]
  have S1:Hid ((Tryz.prog.info? 156).map (·.size)=some cc.size):=Lib.hid (by subst hcc;kernel_rfl)
  have S2:Hid ((#[.int .u8 0,.int .i64 0,.int .u64 0,.slice none 0 0]:Array Value).size=cc.size):=Lib.hid (by subst hcc;rfl)
  have S3:Hid (cc.all (·.oneCell')=true):=Lib.hid (by subst hcc;simp [Value.oneCell'])
  have HCC:=Lib.hid hcc
  clear hcc
  go_wp2_with (refine wpList_store_row rfl 156 (.tmp 8) (.tmp 27) rfl qa cc rfl rfl 156 _ GA.out S1.out S2.out S3.out ?_)
  have B3:=Lib.hid (below_setRow BS.out QL.out cc)
  have G3:=Lib.hid (setRow_heap _ qa _ cc _ _ GA.out)
  refine ⟨⟨⟨_,B3.out⟩,rfl⟩,?_⟩
  try simp only [Act.put,List.setIfInBounds_toArray,List.set_cons_zero,List.set_cons_succ]
  rw [wpWays_done4]
  try simp only [List.map_cons,List.map_nil,opAt,List.getElem?_toArray,List.getElem?_cons_zero,List.getElem?_cons_succ,Option.getD_some]
  repeat (first
   | go_big_quiet_step (fail))
  refine wpQuiet_nil ?_
  obtain ⟨x5,hx5⟩:∃ x5,x5=World.setRow w1 qa cc:=⟨_,rfl⟩
  have X5:Hid (BytesAt x5 A1 (nodeB n)):=Lib.hid (by
   rw [hx5]
   exact bytes_setRow HX1.out (fun a ha=>by have:=hn1 a ha;have:=QW.out;omega) _)
  rw [← hx5] at B3 G3 ⊢
  clear hx5
  have G6:=Lib.hid (row_stays GX.out B3.out)
  rw [HCC.out] at G3
  have k1:x5.cell? ⟨qa,3,none⟩=some (.slice A1 bl c1):=nd_cell G3.out 3 _ rfl
  go_wp2_with (first
   | (go_at_call 84;refine (HNG.out _ _ _ X5.out hc1 hm1).mono ?_;rintro e x6 ⟨l',rfl,hl6,hn6,hb6⟩;have L6:=Lib.hid hl6;have G7:=Lib.hid (row_stays G6.out hb6);have B6:=Lib.hid hb6;clear hl6 hb6)
   | (refine wpList_store_row rfl 86 (.tmp 6) (.tmp 37) rfl w.heap.size _ rfl rfl 86 _ G7.out (by kernel_rfl) rfl (by simp [Value.oneCell'];exact HZ1.out) ?_))
  refine bodyPost_ret (v:=.tuple #[.agg #[zn,.slice l'.EA n.es.length l'.ec,.slice l'.KA n.ks.length l'.kc,.slice l'.DA n.ds.length l'.dc],.int .i64 0]) (results_cell_tmpB (p:=6) (u:=7) (ty:=86) rfl _ _ w.heap.size 86 _ (0,0) _ rfl (setRow_heap _ _ _ _ _ _ G7.out) Tryz.underlying86 rfl (by kernel_rfl)) rfl ⟨⟨l',rfl,?_,?_⟩,?_⟩
  ·exact NodeAt.off G7.out (box_ints ⟨_,_,_,rfl⟩ ⟨_,_,_,rfl⟩ ⟨_,_,_,rfl⟩) (fun b hb=>setRow_other _ _ _ _ hb) L6.out
  ·have hz5:w.heap.size≤x5.heap.size:=Nat.le_trans BX.out.size B3.out.size
   have hm6:=hn6.mono hz5
   have hoff:∀ (E:TypeId) (k:Nat) (cur:Array Value),E≠86→x6.heap[k]?=some (.cells cur E (0,0))→k≠w.heap.size:=fun E k cur hE hc e=>by
    rw [e] at hc
    have h9:=G7.out.symm.trans hc
    injection h9 with h9
    injection h9 with _ h9
    exact hE h9.symm
   exact ⟨hm6.e,hm6.k,hm6.d,row_keep hm6.re (fun k cur _ hc=>setRow_other _ _ _ _ (hoff _ k cur (by decide) hc)),row_keep hm6.rk (fun k cur _ hc=>setRow_other _ _ _ _ (hoff _ k cur (by decide) hc)),row_keep hm6.rd (fun k cur _ hc=>setRow_other _ _ _ _ (hoff _ k cur (by decide) hc))⟩
  ·exact below_setRow (BX.out.trans (B3.out.mono BX.out.size |>.trans (B6.out.mono (by have:=B3.out.size;have:=BX.out.size;omega)))) (Nat.le_refl _) _
end Go.Proofs.YtgkddhncfaeidaaGreat
