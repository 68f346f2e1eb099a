/- Squeezed: the texts as they are written lie in wip/tpl. -/
import Derived.Test.YtgkddhncfaeidaaGreatPart14
import Derived.Test.YtgkddhncfaeidaaGreatPart04
import Derived.Test.YtgkddhncfaeidaaGreatPart15
import Derived.Test.YtgkddhncfaeidaaGreatPart20
import Derived.Test.YtgkddhncfaeidaaGreatPart21
import Derived.Test.YtgkddhncfaeidaaGreatPart22
import Derived.Test.YtgkddhncfaeidaaGreatPart26
import Derived.Test.YtgkddhncfaeidaaGreatPart28
import Derived.Test.YtgkddhncfaeidaaGreatPart12
import Derived.Test.YtgkddhncfaeidaaGreatPart24
import Derived.Test.YtgkddhncfaeidaaGreatPart25
set_option maxRecDepth 100000
set_option maxHeartbeats 4000000
set_option linter.unusedSimpArgs false
set_option linter.unusedVariables false
namespace Go.Proofs.YtgkddhncfaeidaaGreat
set_option linter.unnecessarySimpa false
open Go.RowKit Go.ChangeShapes Go.WideShapes Go.ChangeAt CrcM PageM
def fewB (n:NodeD):Bool:=if n.leaf=true then decide (n.es.length<3) else decide (n.ds.length<8)
theorem few_any (n:NodeD) (l:NdL) (w:World) :
 Calls Tryz.prog 126 #[.agg #[.bool n.leaf,.slice l.EA n.es.length l.ec,.slice l.KA n.ks.length l.kc,.slice l.DA n.ds.length l.dc]] w fun e w'=>e=.returned (.bool (fewB n))∧Below w.heap.size w w':=by
 have HS:=Lib.hid (fun W=>size_any n l W)
 obtain ⟨lf,hlf⟩:∃ lf,lf=n.leaf:=⟨_,rfl⟩
 obtain ⟨ne,hne⟩:∃ ne,ne=n.es.length:=⟨_,rfl⟩
 obtain ⟨nk,hnk⟩:∃ nk,nk=n.ks.length:=⟨_,rfl⟩
 obtain ⟨nd,hnd⟩:∃ nd,nd=n.ds.length:=⟨_,rfl⟩
 obtain ⟨sz,hsz⟩:∃ sz,sz=n.size:=⟨_,rfl⟩
 rw [← hlf,← hne,← hnk,← hnd,← hsz] at HS
 rw [← hlf,← hne,← hnk,← hnd]
 have HSZ:Hid (sz=if lf=true then ne else nd):=Lib.hid (by rw [hsz,hlf,hne,hnd];rfl)
 have HFB:Hid (fewB n=if lf=true then decide (ne<3) else decide (nd<8)):=Lib.hid (by rw [hlf,hne,hnd];rfl)
 obtain ⟨w1,hw1⟩:∃ w1,w1=w.alloc (.cells #[.bool lf,.slice l.EA ne l.ec,.slice l.KA nk l.kc,.slice l.DA nd l.dc] 86):=⟨_,rfl⟩
 have G1:Hid (w1.heap[w.heap.size]?=some (.cells #[.bool lf,.slice l.EA ne l.ec,.slice l.KA nk l.kc,.slice l.DA nd l.dc] 86 (0,0))):=Lib.hid (by rw [hw1];exact heap_alloc_new _ _)
 have B1:=Lib.hid (alloc_bel hw1)
 have HW1:=Lib.hid hw1
 clear hlf hne hnk hnd hsz hw1
 rw [HFB.out]
 go_enter Tryz.func126,Tryz.ntmps126
 go_upto_region 1 with fail
 rw [← HW1.out]
 clear HW1
 have z0:=nd_cell G1.out 0 (.bool lf) rfl
 cases lf
 ·go_wp2_with (first
   | (refine wpList_load_row rfl 86 (.tmp 1) rfl w.heap.size rfl 86 _ (0,0) _ G1.out Tryz.underlying86 rfl (by kernel_rfl) ?_)
   | (go_at_call 52;refine (HS.out _).mono ?_;rintro e w2 ⟨rfl,hb2⟩;have B2:=Lib.hid hb2;clear hb2))
  go_ret
  have h1:=HSZ.out
  simp only [Bool.false_eq_true,if_false] at h1
  refine ⟨?_,B1.out.trans (B2.out.mono B1.out.size)⟩
  rw [h1]
  simp
  omega
 ·go_wp2_with (first
   | (refine wpList_load_row rfl 86 (.tmp 1) rfl w.heap.size rfl 86 _ (0,0) _ G1.out Tryz.underlying86 rfl (by kernel_rfl) ?_)
   | (go_at_call 52;refine (HS.out _).mono ?_;rintro e w2 ⟨rfl,hb2⟩;have B2:=Lib.hid hb2;clear hb2))
  go_ret
  have h1:=HSZ.out
  simp only [if_true] at h1
  refine ⟨?_,B1.out.trans (B2.out.mono B1.out.size)⟩
  rw [h1]
  simp
  omega
end Go.Proofs.YtgkddhncfaeidaaGreat
namespace Go.Proofs.YtgkddhncfaeidaaGreat
open Go.RowKit
theorem slice_map (g a n:Nat) (h:a+n≤512) (hn:1≤n) (w:World) :
 (Instr.sliceAt 60 (.pointer (some ⟨g,1,none⟩)) (some (.int .i64 (a:Int))) (some (.int .i64 ((a:Int)+(n:Int)))) none).run Tryz.prog w=.ok (.slice (some ⟨g,1+a,none⟩) n (512 - a)) w:=by
 have hu:Tryz.prog.underlying 60=some (.array (Tryz.prog.arrayLen 60) (Tryz.prog.elem 60)):=by kernel_rfl
 have hl:Tryz.prog.arrayLen 60=512:=by kernel_rfl
 have hsz:(Tryz.prog.info? (Tryz.prog.elem 60)).map (·.size)=some 1:=by kernel_rfl
 have hlt:((a:Int)+(n:Int)).toNat=a+n:=by omega
 have hz:(sizeOf (Tryz.prog.elem 60)).run Tryz.prog w=.ok 1 w:=by
  cases hq:Tryz.prog.info? (Tryz.prog.elem 60) with
  | none=>rw [hq] at hsz;cases hsz
  | some i=>rw [hq] at hsz;simp at hsz;simp [sizeOf,typeInfo,hq,hsz]
 rw [run_sliceAt_array_lh (t:=60) (a:=⟨g,1,none⟩) (kl:=.i64) (kh:=.i64) (l:=(a:Int)) (h:=(a:Int)+(n:Int)) (w:=w) hu (by omega) (by omega) (by rw [hl];omega)]
 rw [hz,hl,hlt]
 simp only [Result.andThen_ok,slicedAt,Int.toNat_natCast]
 rw [if_neg (by omega),show a+n - a=n by omega,Nat.mul_one]
 rw [show ((⟨g,1,none⟩:Addr).add a)=⟨g,1+a,none⟩ by unfold Addr.add;split <;> simp_all]
theorem give_bm (p:Nat) (U:List Bool) (hU:U.length=512) (okU:okM (p:Int) U) (a n:Nat) (hn1:1≤n) (ha:2≤a) (han:a+n≤p) (w:World) (C:Array Value) (eC:C=mapC (p:Int) U) :
 Calls Tryz.prog 89 #[.agg C,.int .i64 (a:Int),.int .i64 (n:Int)] w fun e w' =>
  (((∀ j,j<n→U.getD (a+j) false=true)∧e=.returned (.tuple #[.agg (mapC (p:Int) (markN U a false n)),.int .i64 0]))∨((∃ j,j<n∧U.getD (a+j) false=false)∧e=.returned (.tuple #[.agg Tryz.zeroCells62,.int .i64 10])))∧Below w.heap.size w w':=by
 have hp:p≤512:=by have:=okU.2.1;omega
 have d1:decide ((n:Int)<0)=false:=by simp
 have d2:decide ((a:Int)<2)=false:=by simp;omega
 have d3:decide ((p:Int) - (n:Int)<(a:Int))=false:=by simp;omega
 have hS:Hid (some 513=some C.size):=Lib.hid (by rw [eC,size_mapC hU])
 obtain ⟨W,eW⟩:∃ W,W=(w.alloc (.cells C 62)).alloc (.cells Tryz.zeroCells62 62):=⟨_,rfl⟩
 have HM:Hid (MapAt W w.heap.size 62 (p:Int) U):=Lib.hid (by rw [eW,eC];exact (MapAt.new w _ _ U).alloc _)
 have HBL:Hid (Below w.heap.size w W):=Lib.hid (by rw [eW];exact ((Below.refl _ _).alloc (Nat.le_refl _) _).alloc (by simp) _)
 have HZ:Hid (W.heap[w.heap.size+1]?=some (.cells Tryz.zeroCells62 62 (0,0))):=Lib.hid (by rw [eW];have:=heap_alloc_new (w.alloc (.cells C 62)) (.cells Tryz.zeroCells62 62);simpa using this)
 have hg1:Hid (W.heap[w.heap.size]?=some (.cells C 62 (0,0))):=Lib.hid (by rw [eC];exact HM.out)
 have HRG:=Lib.hid (fun W=>right_bmC (p:Int) U hU W C eC true (by simp [okU]))
 have hWs:Hid (W.heap.size=w.heap.size+2):=Lib.hid (by rw [eW];simp)
 obtain ⟨C',eC'⟩:∃ C',C'=mapC (p:Int) (markN U a false n):=⟨_,rfl⟩
 have HMK:Hid (∀ (W:World),Calls Tryz.prog 42 #[.agg C,.int .i64 (a:Int),.int .i64 (n:Int),.bool false] W fun e w'=>e=.returned (.agg C')∧Below W.heap.size W w'):=Lib.hid (fun W=>by rw [eC,eC'];exact marked_any (p:Int) U hU a n a n rfl rfl (by omega) false W)
 have hS':Hid (some 513=some C'.size):=Lib.hid (by rw [eC',size_mapC (by rw [length_markN,hU])])
 have hO':Hid (C'.all (·.oneCell')=true):=Lib.hid (by rw [eC'];exact one_mapC _ _)
 have HSZ:Hid (some 513=some (Tryz.zeroCells62).size):=Lib.hid (by rw [size_zeroMap])
 have HOZ:Hid ((Tryz.zeroCells62).all (·.oneCell')=true):=Lib.hid (by rw [zeroMap];exact one_mapC _ _)
 have HSL:=fun W=>slice_map w.heap.size a n (by omega) hn1 W
 have EC':=Lib.hid eC'
 have EW:=Lib.hid eW.symm
 rw [← eC']
 clear eC okU eW eC'
 go_enter Tryz.func89,Tryz.ntmps89
 go_upto_region 1 with fail
 rw [EW.out]
 go_wp2_with (first
  | (refine wpList_load_row rfl 62 (.tmp 3) rfl w.heap.size rfl 62 C (0,0) _ hg1.out Tryz.underlying62 rfl (infoMap.trans hS.out) ?_)
  | (go_at_call 66;(refine (HRG.out _).mono ?_);rintro e w1 ⟨rfl,hb1⟩;have M1:=Lib.hid (HM.out.below hb1 HM.out.lt);have k0:=M1.out.c0))
 have hbA:Below w.heap.size w w1:=HBL.out.trans (hb1.mono HBL.out.size)
 have hs1:w.heap.size+2≤w1.heap.size:=by have:=hb1.size;rw [hWs.out] at this;exact this
 have HZ1:=Lib.hid ((hb1.block _ (by rw [hWs.out];omega)).trans HZ.out)
 have HG1:=Lib.hid ((hb1.block _ (by rw [hWs.out];omega)).trans hg1.out)
 clear hb1
 go_loop [37] (fun i=>∃ k:Nat,k≤n∧i=.int .i64 k∧Hid (∀ j,j<k→U.getD (a+j) false=true)) (fun i=>n - (intOf i).toNat)
 case atStart=>exact ⟨0,by omega,rfl,Lib.hid (fun j h=>by omega)⟩
 case round =>
  obtain ⟨k,hk,rfl,hall⟩:=hrel
  by_cases hlt:k<n
  ·have hc:=M1.out.cs (a+k) (by omega)
   obtain ⟨u,hu⟩:∃ u,u=U.getD (a+k) false:=⟨_,rfl⟩
   rw [← hu] at hc
   have hc2:w1.cell? ⟨w.heap.size,1+a+k,none⟩=some (.bool u):=by rw [Nat.add_assoc];exact hc
   have HU:=Lib.hid hu
   clear hu
   cases u
   ·go_wp2_with (refine wpList_store_row rfl 62 (.tmp 6) (.tmp 43) rfl (w.heap.size+1) Tryz.zeroCells62 rfl rfl 62 Tryz.zeroCells62 HZ1.out (infoMap.trans HSZ.out) rfl HOZ.out ?_)
    refine bodyPost_ret (v:=.tuple #[.agg Tryz.zeroCells62,.int .i64 10]) (results_cell_tmpB (p:=6) (u:=7) (ty:=62) rfl _ _ (w.heap.size+1) 62 Tryz.zeroCells62 (0,0) _ rfl (setRow_heap _ _ Tryz.zeroCells62 _ _ _ HZ1.out) Tryz.underlying62 rfl (infoMap.trans HSZ.out)) rfl ⟨.inr ⟨⟨k,hlt,HU.out.symm⟩,rfl⟩,?_⟩
    exact below_setRow hbA (by omega) _
   ·go_wp2_with fail
    go_round
    case rel =>
     refine ⟨k+1,by omega,by go_num,Lib.hid (fun j hj=>?_)⟩
     rcases Nat.lt_or_ge j k with h | h
     ·exact hall.out j h
     ·obtain rfl:j=k:=by omega
      exact HU.out.symm
    case measure=>simp [intOf];omega
  ·obtain rfl:k=n:=by omega
   go_wp2_with (first
    | (refine wpList_load_row rfl 62 (.tmp 3) rfl w.heap.size rfl 62 C (0,0) _ HG1.out Tryz.underlying62 rfl (infoMap.trans hS.out) ?_)
    | (go_at_call 42;(refine (HMK.out _).mono ?_);rintro e w2 ⟨rfl,hb2⟩;have HZ2:=Lib.hid ((hb2.block _ (by omega)).trans HZ1.out))
    | (refine wpList_store_row rfl 62 (.tmp 6) (.tmp 48) rfl (w.heap.size+1) C' rfl rfl 62 Tryz.zeroCells62 HZ2.out (infoMap.trans hS'.out) (size_zeroMap.trans (Option.some.inj hS'.out)) hO'.out ?_))
   refine bodyPost_ret (v:=.tuple #[.agg C',.int .i64 0]) (results_cell_tmpB (p:=6) (u:=7) (ty:=62) rfl _ _ (w.heap.size+1) 62 C' (0,0) _ rfl (setRow_heap _ _ Tryz.zeroCells62 _ _ _ HZ2.out) Tryz.underlying62 rfl (infoMap.trans hS'.out)) rfl ⟨.inl ⟨hall.out,rfl⟩,?_⟩
   exact below_setRow (hbA.trans (hb2.mono hbA.size)) (by omega) _
end Go.Proofs.YtgkddhncfaeidaaGreat
namespace Go.Proofs.YtgkddhncfaeidaaGreat
open Go.RowKit Go.ChangeShapes Go.WideShapes Go.ChangeAt CrcM PageM
theorem give_yes (gc gv p:Nat) (U V:List Bool) (lv:Value) (hU:U.length=512) (hV:V.length=512) (okU:okM (p:Int) U) (a:Nat) (ha:2≤a) (hap:a<p) (hu:U.getD a false=true) (w:World) (h:ChgAt w gc gv (p:Int) U V lv) :
 Calls Tryz.prog 59 #[.pointer (some ⟨gc,0,none⟩),.int .i64 (a:Int)] w fun e w'=>e=.returned (.tuple #[])∧ChgAt w' gc gv (p:Int) (markN U a false 1) V lv∧OuterX (fun k=>k=gc) w w':=by
 have H:=Lib.hid h
 have HU:=Lib.hid hU
 have HV:=Lib.hid hV
 obtain ⟨U',hU'⟩:∃ U',U'=markN U a false 1:=⟨_,rfl⟩
 have HU':Hid (U'.length=512):=Lib.hid (by rw [hU',length_markN];exact hU)
 have HT:Hid (∀ W:World,Calls Tryz.prog 89 #[.agg (mapL (p:Int) U).toArray,.int .i64 (a:Int),.int .i64 1] W fun e w'=>e=.returned (.tuple #[.agg (mapC (p:Int) U'),.int .i64 0])∧Below W.heap.size W w'):=Lib.hid (fun W=>by
  refine (give_bm p U hU okU a 1 (by decide) ha (by omega) W _ (mapL_arr _ _)).mono ?_
  rintro e w' ⟨⟨_,rfl⟩ | ⟨⟨j,hj,hf⟩,_⟩,hbw⟩
  ·rw [hU']
   exact ⟨rfl,hbw⟩
  ·obtain rfl:j=0:=by omega
   rw [Nat.add_zero,hu] at hf
   cases hf)
 rw [← hU']
 obtain ⟨C,hC⟩:∃ C,C=mapC (p:Int) U':=⟨_,rfl⟩
 have HC1:Hid (C.size=513):=Lib.hid (by rw [hC];exact size_mapC HU'.out)
 have HC2:Hid (C.all (·.oneCell')=true):=Lib.hid (by rw [hC];exact one_mapC _ _)
 have HCL:Hid (C.toList=mapL (p:Int) U'):=Lib.hid (by rw [hC];rfl)
 rw [← hC] at HT
 have HCM:=Lib.hid h.cm
 clear hU' h hU hV okU ha hap hu hC
 go_enter Tryz.func59,Tryz.ntmps59
 go_upto_region 1 with (first
  | (refine wpList_load_mid rfl 62 (.tmp 9) rfl gc 1 rfl (mapL (p:Int) U) _ HCM.out Tryz.underlying62 rfl (infoMapL _ HU.out) ?_)
  | (go_at_call 89;refine (HT.out _).mono ?_;rintro e w1 ⟨rfl,hb1⟩;have B1:=Lib.hid hb1;clear hb1)
  | (refine wpList_store_row rfl 62 (.tmp 4) (.tmp 13) rfl w1.heap.size C rfl rfl 62 _ (heap_alloc_new _ _) (by rw [HC1.out];exact infoMap) (by rw [HC1.out];exact size_zeroMap) HC2.out ?_))
 obtain ⟨w2,hw2⟩:∃ w2,w2=(w1.alloc (.cells (Tryz.zeroCells62) 62)).setRow w1.heap.size C:=⟨_,rfl⟩
 obtain ⟨gb,hgb⟩:∃ gb,gb=w1.heap.size:=⟨_,rfl⟩
 have G2:Hid (w2.heap[gb]?=some (.cells C 62 (0,0))):=Lib.hid (by rw [hw2,hgb];exact setRow_heap _ _ _ _ _ _ (heap_alloc_new _ _))
 have B2:Hid (Below w.heap.size w w2):=Lib.hid (by rw [hw2];exact below_setRow (B1.out.trans ((alloc_bel rfl).mono B1.out.size)) B1.out.size C)
 have HCG:=Lib.hid (H.out.below B2.out)
 have HTH:Hid (w2.there gc 1 C.size):=Lib.hid (HCG.out.thM HU.out HV.out _ HC1.out)
 try rw [← hw2,← hgb]
 clear hw2 hgb
 go_wp2_with (first
  | (refine wpList_load_row rfl 62 (.tmp 4) rfl gb rfl 62 C (0,0) _ G2.out Tryz.underlying62 rfl (by rw [HC1.out];exact infoMap) ?_)
  | (refine wpList_store_mid rfl 62 (.tmp 20) (.tmp 18) rfl gc 1 C rfl rfl HTH.out (by rw [HC1.out];exact infoMap) HC2.out ?_))
 refine bodyPost_end (results_none rfl _ _ _) rfl ?_
 rw [HCL.out]
 exact ⟨rfl,HCG.out.setM (by rw [HU'.out,HU.out]),(outerX_of_below B2.out).grown (grown_setCells gc _ _ _) (fun k hk=>.inl (by cases hk;rfl))⟩
theorem mark_same {U:List Bool} {a:Nat} (ha:a<U.length) (h:U.getD a false=false):markN U a false 1=U:=by
 show (U.set (a+0) false)=U
 rw [Nat.add_zero]
 refine List.ext_getElem? (fun i=>?_)
 rw [List.getElem?_set]
 by_cases hi:a=i
 ·subst hi
  rw [if_pos rfl,if_pos ha,List.getElem?_eq_getElem ha]
  rw [List.getD_eq_getElem?_getD,List.getElem?_eq_getElem ha] at h
  simpa using h.symm
 ·rw [if_neg hi]
theorem give_not (gc gv p:Nat) (U V:List Bool) (lv:Value) (hU:U.length=512) (hV:V.length=512) (okU:okM (p:Int) U) (a:Nat) (ha:2≤a) (hap:a<p) (hu:U.getD a false=false) (w:World) (h:ChgAt w gc gv (p:Int) U V lv) :
 Calls Tryz.prog 59 #[.pointer (some ⟨gc,0,none⟩),.int .i64 (a:Int)] w fun e w'=>e=.returned (.tuple #[])∧Below w.heap.size w w':=by
 have HU:=Lib.hid hU
 have HT:Hid (∀ W:World,Calls Tryz.prog 89 #[.agg (mapL (p:Int) U).toArray,.int .i64 (a:Int),.int .i64 1] W fun e w'=>e=.returned (.tuple #[.agg Tryz.zeroCells62,.int .i64 10])∧Below W.heap.size W w'):=Lib.hid (fun W=>by
  refine (give_bm p U hU okU a 1 (by decide) ha (by omega) W _ (mapL_arr _ _)).mono ?_
  rintro e w' ⟨⟨hf,_⟩ | ⟨_,rfl⟩,hbw⟩
  ·have h1:=hf 0 (by decide)
   rw [Nat.add_zero,hu] at h1
   cases h1
  ·exact ⟨rfl,hbw⟩)
 obtain ⟨C,hC⟩:∃ C,C=Tryz.zeroCells62:=⟨_,rfl⟩
 have HC1:Hid (C.size=513):=Lib.hid (by rw [hC];exact size_zeroMap)
 have HC2:Hid (C.all (·.oneCell')=true):=Lib.hid (by rw [hC];kernel_rfl)
 have HCZ:=Lib.hid hC
 rw [← hC] at HT
 have HCM:=Lib.hid h.cm
 clear h hU hV okU ha hap hu hC
 go_enter Tryz.func59,Tryz.ntmps59
 go_upto_region 1 with (first
  | (refine wpList_load_mid rfl 62 (.tmp 9) rfl gc 1 rfl (mapL (p:Int) U) _ HCM.out Tryz.underlying62 rfl (infoMapL _ HU.out) ?_)
  | (go_at_call 89;refine (HT.out _).mono ?_;rintro e w1 ⟨rfl,hb1⟩;have B1:=Lib.hid hb1;clear hb1)
  | (refine wpList_store_row rfl 62 (.tmp 4) (.tmp 13) rfl w1.heap.size C rfl rfl 62 _ (heap_alloc_new _ _) (by rw [HC1.out];exact infoMap) (by rw [HC1.out];exact size_zeroMap) HC2.out ?_))
 obtain ⟨w2,hw2⟩:∃ w2,w2=(w1.alloc (.cells (Tryz.zeroCells62) 62)).setRow w1.heap.size C:=⟨_,rfl⟩
 have B2:Hid (Below w.heap.size w w2):=Lib.hid (by rw [hw2];exact below_setRow (B1.out.trans ((alloc_bel rfl).mono B1.out.size)) B1.out.size C)
 try rw [← hw2]
 clear hw2
 go_wp2_with fail
 refine bodyPost_end (results_none rfl _ _ _) rfl ?_
 exact ⟨rfl,B2.out⟩
theorem give_any (gc gv p:Nat) (U V:List Bool) (lv:Value) (hU:U.length=512) (hV:V.length=512) (okU:okM (p:Int) U) (a:Nat) (ha:2≤a) (hap:a<p) (w:World) (h:ChgAt w gc gv (p:Int) U V lv) :
 Calls Tryz.prog 59 #[.pointer (some ⟨gc,0,none⟩),.int .i64 (a:Int)] w fun e w'=>e=.returned (.tuple #[])∧ChgAt w' gc gv (p:Int) (markN U a false 1) V lv∧OuterX (fun k=>k=gc) w w':=by
 by_cases hu:U.getD a false=true
 ·exact give_yes gc gv p U V lv hU hV okU a ha hap hu w h
 ·have hu':U.getD a false=false:=by simpa using hu
  refine (give_not gc gv p U V lv hU hV okU a ha hap hu' w h).mono ?_
  rintro e w' ⟨rfl,hb⟩
  have hp:p≤512:=by have:=okU.2.1;omega
  rw [mark_same (by omega) hu']
  exact ⟨rfl,h.below hb,outerX_of_below hb⟩
def RoomP (p:Nat) (V U:List Bool) (n:Nat):Prop:=∃ qs:List Nat,qs.length=n∧qs.Nodup∧∀ a ∈ qs,fits p U V 1 a
theorem least_at {P:Nat→Prop}:∀ n,P n→∃ a,P a∧∀ b,b<a→¬ P b:=by
 intro n
 induction n using Nat.strongRecOn with
 | ind n ih =>
   intro h
   by_cases h1:∃ m,m<n∧P m
   ·obtain ⟨m,h2,h3⟩:=h1
    exact ih m h2 h3
   ·exact ⟨n,h,fun b hb hp=>h1 ⟨b,hb,hp⟩⟩
theorem fits_one {p a:Nat} {U V:List Bool}:fits p U V 1 a ↔ a+1≤p∧U.getD a false=false∧V.getD a false=false:=by
 unfold fits
 constructor
 ·rintro ⟨h1,h2⟩
  have:=h2 0 (by decide)
  rw [Nat.add_zero] at this
  exact ⟨h1,this.1,this.2⟩
 ·rintro ⟨h1,h2,h3⟩
  refine ⟨h1,fun j hj=>?_⟩
  obtain rfl:j=0:=by omega
  rw [Nat.add_zero]
  exact ⟨h2,h3⟩
theorem getD_mark1 {U:List Bool} {a j:Nat} {b:Bool} (h:a<U.length):(markN U a b 1).getD j false=if j=a then b else U.getD j false:=by
 rw [getD_markN U a b j 1 (by omega)]
 by_cases hj:j=a
 ·rw [if_pos hj,if_pos (by omega)]
 ·rw [if_neg hj,if_neg (by omega)]
theorem RoomP.first {p:Nat} {V U:List Bool} {n:Nat} (h:RoomP p V U (n+1)) (hp:p≤U.length):∃ a,firstP p U V a∧RoomP p V (markN U a true 1) n:=by
 obtain ⟨qs,h1,h2,h3⟩:=h
 obtain ⟨x,t,rfl⟩:∃ x t,qs=x :: t:=by
  cases qs with
  | nil=>simp at h1
  | cons x t=>exact ⟨x,t,rfl⟩
 obtain ⟨a,ha,hl⟩:=least_at (P:=fun a=>fits p U V 1 a) x (h3 x (List.mem_cons_self ..))
 have hap:=(fits_one.1 ha).1
 have hfit:∀ y,y≠a→fits p U V 1 y→fits p (markN U a true 1) V 1 y:=fun y hy hf=>by
  obtain ⟨k1,k2,k3⟩:=fits_one.1 hf
  refine fits_one.2 ⟨k1,?_,k3⟩
  rw [getD_mark1 (by omega),if_neg hy]
  exact k2
 refine ⟨a,⟨ha,hl⟩,?_⟩
 by_cases hm:a ∈ x :: t
 ·refine ⟨(x :: t).erase a,?_,h2.erase a,fun y hy=>?_⟩
  ·rw [List.length_erase_of_mem hm,h1,Nat.add_sub_cancel]
  ·have hy2:=(List.Nodup.mem_erase_iff h2).1 hy
   exact hfit y hy2.1 (h3 y hy2.2)
 ·refine ⟨t,by simpa using h1,(List.nodup_cons.1 h2).2,fun y hy=>hfit y (fun e=>hm (by rw [← e];exact List.mem_cons_of_mem _ hy)) (h3 y (List.mem_cons_of_mem _ hy))⟩
theorem RoomP.give {p:Nat} {V U:List Bool} {n:Nat} (h:RoomP p V U n) (b:Nat) (hb:b<U.length):RoomP p V (markN U b false 1) n:=by
 obtain ⟨qs,h1,h2,h3⟩:=h
 refine ⟨qs,h1,h2,fun a ha=>?_⟩
 obtain ⟨k1,k2,k3⟩:=fits_one.1 (h3 a ha)
 refine fits_one.2 ⟨k1,?_,k3⟩
 rw [getD_mark1 hb]
 split
 ·rfl
 ·exact k2
theorem RoomP.less {p:Nat} {V U:List Bool} {n m:Nat} (h:RoomP p V U n) (hm:m≤n):RoomP p V U m:=by
 obtain ⟨qs,h1,h2,h3⟩:=h
 exact ⟨qs.take m,by rw [List.length_take];omega,h2.sublist (List.take_sublist _ _),fun a ha=>h3 a (List.mem_of_mem_take ha)⟩
theorem RoomP.picks {p:Nat} {V:List Bool}:∀ (m n:Nat) {U:List Bool},RoomP p V U (m+n)→p≤U.length→∃ qs,qs.length=m∧Picks p V U qs∧RoomP p V (marks U qs) n
 | 0,n,U,h,hp=>⟨[],rfl,trivial,by simpa [marks] using h⟩
 | m+1,n,U,h,hp=>by
   rw [show m+1+n=m+n+1 by omega] at h
   obtain ⟨a,h1,h2⟩:=h.first hp
   obtain ⟨qs,h3,h4,h5⟩:=RoomP.picks m n h2 (by rw [length_markN];exact hp)
   exact ⟨a :: qs,by simp [h3],⟨h1,h4⟩,by rw [marks_cons];exact h5⟩
def LaidOk (p:Nat) (U V:List Bool) (bs:List Nat):Prop:=bs.Nodup∧∀ a ∈ bs,2≤a∧a<p∧U.getD a false=true∧V.getD a false=false
theorem okM_two {p:Nat} {U:List Bool} (h:okM (p:Int) U) {a:Nat} (ha:U.getD a false=false):2≤a:=by
 refine Nat.le_of_not_lt (fun h2=>?_)
 have h1:=h.2.2 a (by omega)
 unfold okAt at h1
 rw [ha] at h1
 have h3:decide (a<2)=true:=by simpa using h2
 rw [h3] at h1
 simp at h1
theorem LaidOk.one {p:Nat} {U V:List Bool} {bs:List Nat} (h:LaidOk p U V bs) (okU:okM (p:Int) U) (hU:U.length=512) {a:Nat} (hf:fits p U V 1 a):LaidOk p (markN U a true 1) V (bs ++ [a]):=by
 obtain ⟨k1,k2,k3⟩:=fits_one.1 hf
 have hp:p≤512:=by have:=okU.2.1;omega
 refine ⟨List.nodup_append.2 ⟨h.1,by simp,fun x hx y hy e=>?_⟩,fun x hx=>?_⟩
 ·obtain rfl:y=a:=by simpa using hy
  subst e
  have:=(h.2 x hx).2.2.1
  rw [k2] at this
  cases this
 ·rw [getD_mark1 (by omega)]
  rcases List.mem_append.1 hx with hx | hx
  ·obtain ⟨q1,q2,q3,q4⟩:=h.2 x hx
   refine ⟨q1,q2,?_,q4⟩
   split
   ·rfl
   ·exact q3
  ·obtain rfl:x=a:=by simpa using hx
   exact ⟨okM_two okU k2,by omega,by rw [if_pos rfl],k3⟩
theorem LaidOk.picks {p:Nat} {V:List Bool}:∀ {qs bs:List Nat} {U:List Bool},LaidOk p U V bs→okM (p:Int) U→U.length=512→Picks p V U qs→LaidOk p (marks U qs) V (bs ++ qs)
 | [],bs,U,h,_,_,_=>by simpa [marks] using h
 | a :: qs,bs,U,h,okU,hU,hp=>by
   rw [marks_cons,show bs ++ a :: qs=(bs ++ [a]) ++ qs by simp]
   exact LaidOk.picks (h.one okU hU hp.1.1) (okM_mark okU hU hp.1.1.1) (by rw [length_markN];exact hU) hp.2
theorem LaidOk.give {p:Nat} {U V:List Bool} {bs:List Nat} (h:LaidOk p U V bs) {b:Nat} (hb:b<U.length) (hv:V.getD b false=true):LaidOk p (markN U b false 1) V bs :=
 ⟨h.1,fun a ha=>by
  obtain ⟨q1,q2,q3,q4⟩:=h.2 a ha
  refine ⟨q1,q2,?_,q4⟩
  rw [getD_mark1 hb,if_neg]
  ·exact q3
  ·intro e
   rw [e,hv] at q4
   cases q4⟩
theorem okM_give {p a:Nat} {U:List Bool} (h:okM (p:Int) U) (hU:U.length=512) (ha:2≤a) (hap:a<p):okM (p:Int) (markN U a false 1):=by
 obtain ⟨h1,h2,h3⟩:=h
 have hp:p≤512:=by omega
 refine ⟨h1,h2,fun j hj=>?_⟩
 have:=h3 j hj
 unfold okAt at this ⊢
 rw [getD_mark1 (by omega)]
 by_cases hja:j=a
 ·subst hja
  have e1:¬ (j<2):=by omega
  rw [if_pos rfl]
  simp [e1]
 ·rw [if_neg hja]
  exact this
end Go.Proofs.YtgkddhncfaeidaaGreat
namespace Go.Proofs.YtgkddhncfaeidaaGreat
open Go.ChangeShapes Go.WideShapes Go.ChangeAt Go.RowKit CrcM PageM
abbrev PartD:=Nat × (NodeD × List EntD)
def esOf (ps:List PartD):List EntD:=ps.flatMap (fun x=>x.2.2)
theorem esOf_append (a b:List PartD):esOf (a ++ b)=esOf a ++ esOf b:=by unfold esOf;rw [List.flatMap_append]
def TrO (rd:Nat→NodeD→Prop):Nat→NodeD→List EntD→Prop
 | 0,n,es=>n.leaf=true∧n.es=es∧n.ks=[]∧n.ds=[]
 | h+1,n,es=>n.leaf=false∧n.es=[]∧∃ parts:List PartD,n.ds=parts.map (fun x=>kidI x.1)∧n.ks=parts.map (fun x=>leastK x.2.1)∧(∀ x ∈ parts,rd x.1 x.2.1∧Tre rd h x.2.1 x.2.2∧1≤x.2.2.length)∧es=esOf parts
section
variable {rd rn:Nat→NodeD→Prop} {h:Nat} {n:NodeD} {es:List EntD}
theorem Tre.o:∀ {h:Nat},Tre rd h n es→TrO rd h n es
 | 0,hh=>hh
 | h+1,⟨h1,h2,parts,e1,e2,e3,e4,_⟩=>⟨h1,h2,parts,e1,e2,e3,e4⟩
theorem Tre.mono (hm:∀ a n,rd a n→rn a n):∀ {h:Nat} {n:NodeD} {es:List EntD},Tre rd h n es→Tre rn h n es
 | 0,_,_,hh=>hh
 | h+1,n,es,⟨h1,h2,parts,e1,e2,e3,e4,e5⟩=>⟨h1,h2,parts,e1,e2,fun x hx=>⟨hm _ _ (e3 x hx).1,Tre.mono hm (e3 x hx).2.1,(e3 x hx).2.2⟩,e4,e5⟩
theorem TrO.leaf:∀ {h:Nat},TrO rd h n es→n.leaf=decide (h=0)
 | 0,h=>h.1
 | h+1,hh=>by rw [hh.1];simp
theorem TrO.clean:∀ {h:Nat},TrO rd h n es→cleanN n
 | 0,⟨h1,_,h3,h4⟩=>by unfold cleanN;rw [if_pos h1];exact ⟨h3,h4⟩
 | h+1,⟨h1,h2,parts,e1,e2,_⟩=>by unfold cleanN;rw [if_neg (by simp [h1])];exact ⟨h2,by rw [e1,e2,List.length_map,List.length_map]⟩
theorem TrO.join {a b:NodeD} {ea eb:List EntD}:∀ {h:Nat},TrO rd h a ea→TrO rd h b eb→TrO rd h (joinD a b) (ea ++ eb)
 | 0,⟨h1,h2,h3,h4⟩,⟨g1,g2,g3,g4⟩=>by unfold joinD;rw [if_pos h1,h2,g2];exact ⟨rfl,rfl,rfl,rfl⟩
 | h+1,⟨h1,h2,pa,e1,e2,e3,e4⟩,⟨g1,g2,pb,f1,f2,f3,f4⟩=>by
   unfold joinD
   rw [if_neg (by simp [h1])]
   refine ⟨rfl,rfl,pa ++ pb,?_,?_,fun x hx=>?_,?_⟩
   ·show a.ds ++ b.ds=_
    rw [e1,f1,List.map_append]
   ·show a.ks ++ b.ks=_
    rw [e2,f2,List.map_append]
   ·rcases List.mem_append.1 hx with hx | hx
    ·exact e3 x hx
    ·exact f3 x hx
   ·rw [e4,f4,esOf_append]
theorem size_join (a b:NodeD) (hl:a.leaf=b.leaf):(joinD a b).size=a.size+b.size∧(joinD a b).leaf=a.leaf:=by
 unfold joinD NodeD.size
 cases ha:a.leaf <;> rw [ha] at hl <;> simp [← hl]
end
def gaveN (U:List Bool) (bs:List Nat):List Bool:=bs.foldl (fun U a=>markN U a false 1) U
theorem gaveN_snoc (U:List Bool) (bs:List Nat) (a:Nat):gaveN U (bs ++ [a])=markN (gaveN U bs) a false 1:=by simp [gaveN,List.foldl_append]
structure FitU (p:Nat) (V U:List Bool) (m:Nat) (bs:List Nat):Prop where
 len:U.length=512
 ok:okM (p:Int) U
 room:RoomP p V U m
 laid:LaidOk p U V bs
theorem FitU.give {p:Nat} {V U:List Bool} {m:Nat} {bs:List Nat} (h:FitU p V U m bs) {a:Nat} (h2:2≤a) (hp:a<p) (hv:V.getD a false=true):FitU p V (markN U a false 1) m bs:=by
 have hp5:p≤512:=by have:=h.ok.2.1;omega
 exact ⟨by rw [length_markN];exact h.len,okM_give h.ok h.len h2 hp,h.room.give a (by rw [h.len];omega),h.laid.give (by rw [h.len];omega) hv⟩
theorem FitU.picks {p:Nat} {V U:List Bool} {m k:Nat} {bs:List Nat} (h:FitU p V U (k+m) bs):∃ qs,qs.length=k∧Picks p V U qs∧FitU p V (marks U qs) m (bs ++ qs):=by
 have hp5:p≤512:=by have:=h.ok.2.1;omega
 obtain ⟨qs,h1,h2,h3⟩:=RoomP.picks k m h.room (by rw [h.len];exact hp5)
 exact ⟨qs,h1,h2,⟨by rw [length_marks];exact h.len,okM_marks h2 h.ok h.len,h3,h.laid.picks h.ok h.len h2⟩⟩
theorem FitU.less {p:Nat} {V U:List Bool} {m k:Nat} {bs:List Nat} (h:FitU p V U m bs) (hk:k≤m):FitU p V U k bs:=⟨h.len,h.ok,h.room.less hk,h.laid⟩
end Go.Proofs.YtgkddhncfaeidaaGreat
namespace Go.Proofs.YtgkddhncfaeidaaGreat
open Go.RowKit Go.ChangeShapes Go.WideShapes Go.ChangeAt CrcM PageM
theorem takes_yes (gv g gen p:Nat) (U V M:List Bool) {B N gs gn Ls cs cn:Nat} {rw:Value} {st nw:List UInt8} {ws:List (Nat × List UInt8)} (hM:M.length=512) (okU:okM (p:Int) M) (hp:Ls / 256=p) (C:Array Value) (hC:C=mapC (p:Int) M) (w:World) (hv:ViewAt w gv g gen (p:Int) U V) (hd:Dk w B N g gs gn rw Ls cs cn st nw ws true (-1)) :
 Calls Tryz.prog 43 #[.pointer (some ⟨gv,0,none⟩),.agg C] w fun e w'=>e=.returned (.bool true)∧Below w.heap.size w w':=by
 have HV:=Lib.hid hv
 have HD:=Lib.hid hd
 have HM:=Lib.hid hM
 have HOM:=Lib.hid okU
 have HP:=Lib.hid hp
 have HC:=Lib.hid hC
 have HC1:Hid (C.size=513):=Lib.hid (by rw [hC];exact size_mapC hM)
 clear hv hd hM okU hp hC
 obtain ⟨w1,hw1⟩:∃ w1,w1=w.alloc (.cells C 62):=⟨_,rfl⟩
 have G1:Hid (w1.heap[w.heap.size]?=some (.cells C 62 (0,0))):=Lib.hid (by rw [hw1];exact heap_alloc_new _ _)
 have B1:=Lib.hid (alloc_bel hw1)
 have HV1:=Lib.hid (HV.out.below B1.out)
 have HD1:=Lib.hid (HD.out.below B1.out)
 go_enter Tryz.func43,Tryz.ntmps43
 go_upto_region 1 with fail
 rw [← hw1]
 clear hw1
 have g1:∀ y:SubW w1.heap.size w1,y.at_.heap[w.heap.size]?=some (.cells C 62 (0,0)):=fun y=>row_stays G1.out y.ok_
 have g2:∀ y:SubW w1.heap.size w1,y.at_.cell? ⟨gv,256,none⟩=some (.pointer (some ⟨g,0,none⟩)):=fun y=>(HV1.out.below y.ok_).cd
 have g3:∀ y:SubW w1.heap.size w1,y.at_.cell? ⟨w.heap.size,0,none⟩=some (.int .i64 (p:Int)):=fun y=>nd_cell (g1 y) 0 _ (by rw [HC.out];exact mapC_0 _ _)
 refine region_below w1.heap.size w1 (Below.refl _ _) (by kernel_rfl) (by kernel_rfl) ?_
 repeat (first
  | (go_big_quiet_want;refine quiet_load_row 62 (.tmp 3) rfl w.heap.size rfl 62 C (0,0) _ g1 Tryz.underlying62 rfl (by rw [HC1.out];exact infoMap) ?_;simp only [Act.put,List.setIfInBounds_toArray,List.set_cons_zero,List.set_cons_succ];go_big_quiet_on)
  | go_big_quiet_step (first
   | (go_at_call 26;exact calls_sub (Nat.le_refl _) ((open_yes gv g gen p U V _ (HV1.out.below (SubW.ok_ _))).mono (fun e w' h=>⟨h.1,by rw [← h.2];exact Below.refl _ _⟩)))
   | (go_at_call 66;exact calls_sub (Nat.le_refl _) (right_bmC p M HM.out _ C HC.out true (decide_eq_true HOM.out).symm))
   | (go_at_call 67;exact calls_sub (Nat.le_refl _) ((pages_any (HD1.out.below (SubW.ok_ _))).mono (fun e w' h=>⟨h.1,by rw [← h.2];exact Below.refl _ _⟩)))))
 refine wpQuiet_nil ?_
 rintro w' ⟨y,rfl⟩
 have HY:=Lib.hid (B1.out.trans (y.ok_.mono B1.out.size))
 clear g1 g2 g3
 go_wp2_with fail
 go_ret
 refine ⟨nd_retB ?_,HY.out⟩
 have:=HP.out
 simp only [beq_iff_eq]
 omega
theorem built_view (parts:List (Nat × Value)):Tryz.prog.built 105 parts=Instr.fill (fun i=>([(0,256),(256,1),(257,1),(258,513),(771,513)].toArray:Array (Nat × Nat))[i]?) Tryz.zeroCells105 parts:=by kernel_rfl
theorem size_zeroView:(Tryz.zeroCells105).size=1284:=by kernel_rfl
theorem fold_mid (X V Y:List Value) (h:V.length≤Y.length):(V.zipIdx 0).foldl (fun cs (x:Value × Nat)=>cs.setIfInBounds (X.length+x.2) x.1) (X ++ Y).toArray=((X ++ V) ++ Y.drop V.length).toArray:=by
 obtain ⟨s1,q1⟩:=Great.foldl_set X.length V 0 (X ++ Y).toArray
 apply Array.ext_getElem?
 intro k
 have e1:(X ++ Y).toArray[k]?=(X ++ Y)[k]?:=by simp
 have e2:((X ++ V) ++ Y.drop V.length).toArray[k]?=((X ++ V) ++ Y.drop V.length)[k]?:=by simp
 have e3:(X ++ Y).toArray.size=X.length+Y.length:=by simp
 rw [q1 k,e1,e2,e3]
 by_cases h1:k<X.length
 ·rw [if_neg (by omega),List.append_assoc,List.getElem?_append_left h1,List.getElem?_append_left h1]
 ·by_cases h2:k<X.length+V.length
  ·rw [if_pos (by omega),List.append_assoc,List.getElem?_append_right (by omega),List.getElem?_append_left (by omega)]
   congr 1
  ·rw [if_neg (by omega),List.getElem?_append_right (by omega),List.getElem?_append_right (by rw [List.length_append];omega),List.getElem?_drop,List.length_append]
   congr 1
   omega
theorem fill_next {place:Nat→Option (Nat × Nat)} {X Y V:List Value} {i:Nat} {v:Value} {rest:List (Nat × Value)} (hv:v.cells=V.toArray) (hp:place i=some (X.length,V.length)) (hs:V.length≤Y.length) :
 Instr.fill place (X ++ Y).toArray ((i,v) :: rest)=Instr.fill place ((X ++ V) ++ Y.drop V.length).toArray rest:=by
 rw [fill_one hv hp (by simp;omega),fold_mid X V Y hs]
theorem view_built (g gen p:Nat) (U V:List Bool) (hU:U.length=512) (hV:V.length=512) :
 Tryz.prog.built 105 [(0,.agg tab),(1,.pointer (some ⟨g,0,none⟩)),(2,.int .u64 (gen:Int)),(3,.agg (mapL (p:Int) U).toArray),(4,.agg (mapL (p:Int) V).toArray)]=some (viewL g gen (p:Int) U V).toArray:=by
 rw [built_view]
 have lU:=mapL_len (p:Int) hU
 have lV:=mapL_len (p:Int) hV
 obtain ⟨Z,hZ⟩:∃ Z,Z=(Tryz.zeroCells105).toList:=⟨_,rfl⟩
 have lZ:Z.length=1284:=by rw [hZ,Array.length_toList];exact size_zeroView
 have e0:Tryz.zeroCells105=([] ++ Z).toArray:=by rw [hZ];simp
 rw [e0]
 rw [fill_next (V:=tab.toList) (by rw [Array.toArray_toList];rfl) (by rw [tab_len];rfl) (by rw [tab_len,lZ];simp)]
 rw [fill_next (V:=[.pointer (some ⟨g,0,none⟩)]) rfl (by rw [List.nil_append,tab_len];rfl) (by rw [List.length_drop,lZ,tab_len];simp)]
 rw [fill_next (V:=[.int .u64 (gen:Int)]) rfl (by rw [List.nil_append,List.length_append,tab_len];rfl) (by rw [List.length_drop,List.length_drop,lZ,tab_len];simp)]
 rw [fill_next (V:=mapL (p:Int) U) rfl (by rw [List.nil_append,List.length_append,List.length_append,tab_len,lU];rfl) (by rw [List.length_drop,List.length_drop,List.length_drop,lZ,tab_len,lU];simp)]
 rw [fill_next (V:=mapL (p:Int) V) rfl (by rw [List.nil_append,List.length_append,List.length_append,List.length_append,tab_len,lU,lV];rfl) (by rw [List.length_drop,List.length_drop,List.length_drop,List.length_drop,lZ,tab_len,lU,lV];simp)]
 rw [Instr.fill]
 congr 1
 rw [List.drop_drop,List.drop_drop,List.drop_drop,List.drop_drop,List.drop_eq_nil_of_le (by rw [lZ,tab_len,lU,lV];simp)]
 simp [viewL]
theorem topen_yes (g gen p:Nat) (U V:List Bool) {B N gs gn Ls cs cn:Nat} {rw:Value} {st nw:List UInt8} {ws:List (Nat × List UInt8)} (hU:U.length=512) (hV:V.length=512) (okU:okM (p:Int) U) (okV:okM (p:Int) V) (hp:Ls / 256=p) (CU CV:Array Value) (hCU:CU=mapC (p:Int) U) (hCV:CV=mapC (p:Int) V) (w:World) (hd:Dk w B N g gs gn rw Ls cs cn st nw ws true (-1)) :
 Calls Tryz.prog 22 #[.agg tab,.pointer (some ⟨g,0,none⟩),.int .u64 (gen:Int),.agg CU,.agg CV] w fun e w'=>∃ gv,e=.returned (.tuple #[.pointer (some ⟨gv,0,none⟩),.int .i64 0])∧w.heap.size≤gv∧ViewAt w' gv g gen (p:Int) U V∧Below w.heap.size w w':=by
 have HD:=Lib.hid hd
 have HU1:Hid (CU.size=513):=Lib.hid (by rw [hCU];exact size_mapC hU)
 have HV1:Hid (CV.size=513):=Lib.hid (by rw [hCV];exact size_mapC hV)
 have HBU:Hid (Tryz.prog.built 105 [(0,.agg tab),(1,.pointer (some ⟨g,0,none⟩)),(2,.int .u64 (gen:Int)),(3,.agg CU),(4,.agg CV)]=some (viewL g gen (p:Int) U V).toArray):=Lib.hid (by rw [hCU,hCV];exact view_built g gen p U V hU hV)
 have HTU:Hid (∀ gv W,ViewAt W gv g gen (p:Int) U V→Dk W B N g gs gn rw Ls cs cn st nw ws true (-1)→Calls Tryz.prog 43 #[.pointer (some ⟨gv,0,none⟩),.agg CU] W fun e w'=>e=.returned (.bool true)∧Below W.heap.size W w'):=Lib.hid (fun gv W h1 h2=>takes_yes gv g gen p U V U hU okU hp CU hCU W h1 h2)
 have HTV:Hid (∀ gv W,ViewAt W gv g gen (p:Int) U V→Dk W B N g gs gn rw Ls cs cn st nw ws true (-1)→Calls Tryz.prog 43 #[.pointer (some ⟨gv,0,none⟩),.agg CV] W fun e w'=>e=.returned (.bool true)∧Below W.heap.size W w'):=Lib.hid (fun gv W h1 h2=>takes_yes gv g gen p U V V hV okV hp CV hCV W h1 h2)
 obtain ⟨C,hC⟩:∃ C,C=(viewL g gen (p:Int) U V).toArray:=⟨_,rfl⟩
 rw [← hC] at HBU
 have HC:=Lib.hid hC
 obtain ⟨T,hT⟩:∃ T,T=tab:=⟨_,rfl⟩
 have HT1:Hid (T.size=256):=Lib.hid (by rw [hT];exact size_tab)
 rw [← hT] at HBU ⊢
 clear hd hU hV okU okV hp hCU hCV hC hT
 go_enter Tryz.func22,Tryz.ntmps22
 go_upto_region 1 with fail
 obtain ⟨w3,hw3⟩:∃ w3,w3=(((w.alloc (.cells T 71)).alloc (.cells CU 62)).alloc (.cells CV 62)):=⟨_,rfl⟩
 have B3:Hid (Below w.heap.size w w3):=Lib.hid (by rw [hw3];exact (((Below.refl _ _).alloc (Nat.le_refl _) _).alloc (by simp) _).alloc (by simp;omega) _)
 have G5:Hid (w3.heap[w.heap.size]?=some (.cells T 71 (0,0))):=Lib.hid (by
  rw [hw3]
  exact row_stays (row_stays (heap_alloc_new w _) (alloc_bel rfl)) (alloc_bel rfl))
 have G8:Hid (w3.heap[w.heap.size+1]?=some (.cells CU 62 (0,0))):=Lib.hid (by
  rw [hw3]
  have h1:=heap_alloc_new (w.alloc (.cells T 71)) (.cells CU 62)
  rw [World.size_alloc] at h1
  exact row_stays h1 (alloc_bel rfl))
 have G9:Hid (w3.heap[w.heap.size+1+1]?=some (.cells CV 62 (0,0))):=Lib.hid (by
  rw [hw3]
  have h1:=heap_alloc_new ((w.alloc (.cells T 71)).alloc (.cells CU 62)) (.cells CV 62)
  rw [World.size_alloc,World.size_alloc] at h1
  exact h1)
 rw [← hw3]
 clear hw3
 go_upto_region 2 with (first
  | (refine wpList_load_row rfl 71 (.tmp 5) rfl w.heap.size rfl 71 T (0,0) _ G5.out Tryz.underlying71 rfl (by rw [HT1.out];exact info64) ?_)
  | (refine wpList_load_row rfl 62 (.tmp 8) rfl (w.heap.size+1) rfl 62 CU (0,0) _ G8.out Tryz.underlying62 rfl (by rw [HU1.out];exact infoMap) ?_)
  | (refine wpList_load_row rfl 62 (.tmp 9) rfl (w.heap.size+1+1) rfl 62 CV (0,0) _ G9.out Tryz.underlying62 rfl (by rw [HV1.out];exact infoMap) ?_)
  | (refine wpList_buildTo rfl 105 _ rfl (some 18) rfl C (by simp only [List.map_toArray,List.map_cons,List.map_nil];exact HBU.out) ?_))
 obtain ⟨gv,hgv⟩:∃ gv,gv=w3.heap.size:=⟨_,rfl⟩
 obtain ⟨w4,hw4⟩:∃ w4,w4=w3.alloc (.cells C 105):=⟨_,rfl⟩
 have B4:=Lib.hid (B3.out.trans ((alloc_bel hw4).mono B3.out.size))
 have HV4:Hid (ViewAt w4 gv g gen (p:Int) U V):=Lib.hid (by rw [hw4,hgv,HC.out];exact heap_alloc_new _ _)
 have G84:=Lib.hid (row_stays G8.out (alloc_bel hw4))
 have G94:=Lib.hid (row_stays G9.out (alloc_bel hw4))
 have HD4:=Lib.hid (HD.out.below B4.out)
 have HGV:Hid (w.heap.size≤gv):=Lib.hid (by rw [hgv];exact B3.out.size)
 rw [← hw4,← hgv]
 clear hw4 hgv HBU HC G5 G8 G9 B3
 go_upto_region 4 with (first
  | (refine wpList_load_row rfl 62 (.tmp 8) rfl (w.heap.size+1) rfl 62 CU (0,0) _ G84.out Tryz.underlying62 rfl (by rw [HU1.out];exact infoMap) ?_)
  | (go_at_call 43;refine (HTU.out gv _ HV4.out HD4.out).mono ?_;clear HTU;rintro e w5 ⟨rfl,hb5⟩;have B5:=Lib.hid (B4.out.trans (hb5.mono B4.out.size));have HV5:=Lib.hid (HV4.out.below hb5);have G95:=Lib.hid (row_stays G94.out hb5);have HD5:=Lib.hid (HD4.out.below hb5);clear hb5))
 refine wp_load_row 62 (.tmp 9) rfl (w.heap.size+1+1) rfl 62 CV (0,0) _ G95.out Tryz.underlying62 rfl (by rw [HV1.out];exact infoMap) ?_
 rename_i K2 hK2
 refine hK2 _ _ ?_
 clear hK2
 simp only [Act.put,List.setIfInBounds_toArray,List.set_cons_zero,List.set_cons_succ]
 go_wp2_with (go_at_call 43;refine (HTV.out gv _ HV5.out HD5.out).mono ?_;rintro e w6 ⟨rfl,hb6⟩;have B6:=Lib.hid (B5.out.trans (hb6.mono B5.out.size));have HV6:=Lib.hid (HV5.out.below hb6);clear hb6)
 go_ret2
 exact ⟨gv,rfl,HGV.out,HV6.out,B6.out⟩
end Go.Proofs.YtgkddhncfaeidaaGreat
