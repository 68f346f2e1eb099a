/- Squeezed: the texts as they are written lie in wip/tpl. -/
import Derived.Test.YtgkddhncfaeidaaGreatPart14
import Derived.Test.YtgkddhncfaeidaaGreatPart00
import Derived.Lib.MinMax
import Derived.Lib.SlBytesConst
import Derived.Lib.BufferMore
import Derived.KernelRfl
import Derived.Handy
import Derived.WalkSpells
import Derived.WalkLawsBesides
import Derived.Test.YtgkddhncfaeidaaGreatChecked
set_option maxRecDepth 100000
set_option maxHeartbeats 4000000
set_option linter.unusedSimpArgs false
set_option linter.unusedVariables false
namespace Go.Proofs.YtgkddhncfaeidaaGreat
open Go.RowKit
theorem infoMap:(Tryz.prog.info? 62).map (·.size)=some 513:=by kernel_rfl
theorem size_zeroMap:(Tryz.zeroCells62).size=513:=by kernel_rfl
theorem below_setCM {B:Nat} {a w:World} (h:Below B a w) {g i:Nat} {v:Value} (hg:B≤g):Below B a (w.setCell ⟨g,i,none⟩ v) :=
 h.trans ⟨rfl,rfl,rfl,by simp,fun k hk=>Below.heap_setCell w ⟨g,i,none⟩ v k (fun e=>by simp at e;omega)⟩
theorem marked_any (p:Int) (U:List Bool) (hU:U.length=512) (za zn:Int) (a n:Nat) (hza:za=(a:Int)) (hzn:zn=(n:Int)) (han:a+n≤512) (b:Bool) (w:World) :
 Calls Tryz.prog 42 #[.agg (mapC p U),.int .i64 za,.int .i64 zn,.bool b] w fun e w'=>e=.returned (.agg (mapC p (markN U a b n)))∧Below w.heap.size w w':=by
 subst hza hzn
 obtain ⟨C,eC⟩:∃ C,C=mapC p U:=⟨_,rfl⟩
 have hm0:Hid (MapAt ((w.alloc (.cells C 62)).alloc (.cells Tryz.zeroCells62 62)) w.heap.size 62 p U):=Lib.hid (by rw [eC];exact (MapAt.new w _ p U).alloc _)
 have hz0:Hid (((w.alloc (.cells C 62)).alloc (.cells Tryz.zeroCells62 62)).heap[w.heap.size+1]?=some (.cells Tryz.zeroCells62 62 (0,0))):=Lib.hid (by have:=heap_alloc_new (w.alloc (.cells C 62)) (.cells Tryz.zeroCells62 62);simpa using this)
 have hb0:Hid (Below w.heap.size w ((w.alloc (.cells C 62)).alloc (.cells Tryz.zeroCells62 62))):=Lib.hid (((Below.refl _ _).alloc (Nat.le_refl _) _).alloc (by simp) _)
 rw [← eC]
 clear eC
 go_enter Tryz.func42,Tryz.ntmps42
 go_wp2_with fail
 go_loopw [11] (fun i wr=>∃ k:Nat,k≤n∧i=.int .i64 k∧Hid (MapAt wr w.heap.size 62 p (markN U a b k))∧Hid (wr.heap[w.heap.size+1]?=some (.cells Tryz.zeroCells62 62 (0,0)))∧Hid (Below w.heap.size w wr)) (fun i _=>n - (intOf i).toNat)
 case atStart=>exact ⟨0,by omega,rfl,hm0,hz0,hb0⟩
 case round =>
  obtain ⟨k,hk,rfl,hm,hz,hB⟩:=hrel
  by_cases hlt:k<n
  ·have hc:=hm.out.cs (a+k) (by rw [length_markN,hU];omega)
   have hf:=hm.out.fr (1+(a+k))
   go_wp2_with fail
   go_roundw
   case rel=>exact ⟨k+1,by omega,by go_num,Lib.hid (hm.out.set (a+k) b),Lib.hid ((heap_setCell_other wr ⟨w.heap.size,1+(a+k),none⟩ (w.heap.size+1) _ (by show w.heap.size+1≠w.heap.size;omega)).trans hz.out),Lib.hid (below_setCM hB.out (Nat.le_refl _))⟩
   case measure=>simp [intOf];omega
  ·obtain rfl:k=n:=by omega
   have hS:Hid (some 513=some (mapC p (markN U a b k)).size):=Lib.hid (by rw [size_mapC (by rw [length_markN,hU])])
   obtain ⟨C',eC'⟩:∃ C',C'=mapC p (markN U a b k):=⟨_,rfl⟩
   have hm':=hm.out
   unfold MapAt at hm'
   rw [← eC'] at hS hm'
   have EC':=Lib.hid eC'
   have HM:=Lib.hid hm'
   have hC1:C'.all (·.oneCell')=true:=by rw [eC'];exact one_mapC _ _
   clear hm' eC'
   go_wp2_with (first
    | (refine wpList_load_row rfl 62 (.tmp 4) rfl w.heap.size rfl 62 C' (0,0) _ HM.out Tryz.underlying62 rfl (infoMap.trans hS.out) ?_)
    | (refine wpList_store_row rfl 62 (.tmp 8) (.tmp 21) rfl (w.heap.size+1) C' rfl rfl 62 Tryz.zeroCells62 hz.out (infoMap.trans hS.out) (size_zeroMap.trans (Option.some.inj hS.out)) hC1 ?_))
   refine bodyPost_ret (v:=.agg C') (results_cell_row (p:=8) (ty:=62) rfl _ _ (w.heap.size+1) 62 C' (0,0) _ rfl (setRow_heap _ _ Tryz.zeroCells62 _ _ _ hz.out) Tryz.underlying62 rfl (infoMap.trans hS.out)) rfl ⟨by rw [EC'.out],?_⟩
   exact below_setRow hB.out (Nat.le_succ _) _
theorem run_idx (U:List Bool) (hU:U.length=512) (k:Nat) (hk:k<512) (w:World) :
 (Instr.index 60 (.agg (U.map Value.bool).toArray) (.int .i64 (k:Int))).run Tryz.prog w=.ok (.bool (U.getD k false)) w:=by
 have hu:Tryz.prog.underlying 60=some (.array 512 4):=by kernel_rfl
 have hi:0≤(k:Int)∧(k:Int)<((512:Nat):Int):=by omega
 simp [Instr.index,run_underlying hu,asIntOf,hk,go_sem]
 rw [List.getElem?_eq_getElem (by omega)]
 rfl
theorem retBm {a b:Bool} (h:a=b):Ending.returned (.bool a)=Ending.returned (.bool b):=by rw [h]
theorem okM_no {p:Int} {U:List Bool} {j:Nat} (hj:j<512) (h:okAt p U j=false):decide (okM p U)=false:=by
 rw [decide_eq_false_iff_not]
 intro hk
 rw [hk.2.2 j hj] at h
 cases h
theorem right_bm (p:Int) (U:List Bool) (hU:U.length=512) (w:World) :
 Calls Tryz.prog 66 #[.agg (mapC p U)] w fun e w'=>e=.returned (.bool (decide (okM p U)))∧Below w.heap.size w w':=by
 obtain ⟨C,eC⟩:∃ C,C=mapC p U:=⟨_,rfl⟩
 have hm0:MapAt (w.alloc (.cells C 62)) w.heap.size 62 p U:=by rw [eC];exact MapAt.new w _ p U
 have c0:=hm0.c0
 have HM0:=Lib.hid hm0
 have HR:=Lib.hid hm0.range
 have hL:Hid (some 512=some (U.map Value.bool).length):=Lib.hid (by simp [hU])
 have infoA:(Tryz.prog.info? 60).map (·.size)=some 512:=by kernel_rfl
 have IA:=Lib.hid infoA
 have hbl:Hid (Below w.heap.size w (w.alloc (.cells C 62))):=Lib.hid ((Below.refl _ _).alloc (Nat.le_refl _) _)
 have HU:=Lib.hid hU
 rw [← eC]
 clear eC hm0 infoA hU
 by_cases h8:p<8
 ·have d1:decide (p<8)=true:=by simpa using h8
  go_enter Tryz.func66,Tryz.ntmps66
  go_wp2_with fail
  go_ret
  exact ⟨retBm (by symm;rw [decide_eq_false_iff_not];intro h;have:=h.1;omega),hbl.out⟩
 ·have d1:decide (p<8)=false:=by simpa using h8
  by_cases h5:512<p
  ·have d2:decide (512<p)=true:=by simpa using h5
   go_enter Tryz.func66,Tryz.ntmps66
   go_wp2_with fail
   go_ret
   exact ⟨retBm (by symm;rw [decide_eq_false_iff_not];intro h;have:=h.2.1;omega),hbl.out⟩
  ·have d2:decide (512<p)=false:=by simpa using h5
   obtain ⟨q,rfl⟩:=Int.eq_ofNat_of_zero_le (show 0≤p by omega)
   go_enter Tryz.func66,Tryz.ntmps66
   go_wp2_with (refine wpList_load_mid rfl 60 _ rfl w.heap.size 1 rfl _ _ HR.out Tryz.underlying60 rfl (IA.out.trans hL.out) ?_)
   go_loop [15] (fun i=>∃ k:Nat,k≤512∧i=.int .i64 k∧Hid (∀ j,j<k→okAt (q:Int) U j=true)) (fun i=>512 - (intOf i).toNat)
   case atStart=>exact ⟨0,by omega,rfl,Lib.hid (fun j hj=>by omega)⟩
   case round =>
    obtain ⟨k,hk,rfl,hall⟩:=hrel
    by_cases hlt:k<512
    ·have hidx:=fun W=>run_idx U HU.out k hlt W
     obtain ⟨u,hu⟩:∃ u,u=U.getD k false:=⟨_,rfl⟩
     rw [← hu] at hidx
     have HUU:=Lib.hid hu
     clear hu
     by_cases h2:k<2
     ·have e2:decide ((k:Int)<2)=true:=by simp;omega
      cases u
      ·go_wp2_with fail
       go_ret
       exact ⟨retBm (okM_no hlt (by unfold okAt;rw [← HUU.out];simp [h2])).symm,hbl.out⟩
      ·have e3:decide ((q:Int)≤(k:Int))=false:=by simp;omega
       go_wp2_with fail
       go_round
       case rel =>
        refine ⟨k+1,by omega,by go_num,Lib.hid (fun j hj=>?_)⟩
        rcases Nat.lt_or_ge j k with h | h
        ·exact hall.out j h
        ·obtain rfl:j=k:=by omega
         unfold okAt;rw [← HUU.out];simp;omega
       case measure=>simp [intOf];omega
     ·have e2:decide ((k:Int)<2)=false:=by simp;omega
      by_cases h3:q≤k
      ·have e3:decide ((q:Int)≤(k:Int))=true:=by simp;omega
       cases u
       ·go_wp2_with fail
        go_round
        case rel =>
         refine ⟨k+1,by omega,by go_num,Lib.hid (fun j hj=>?_)⟩
         rcases Nat.lt_or_ge j k with h | h
         ·exact hall.out j h
         ·obtain rfl:j=k:=by omega
          unfold okAt;rw [← HUU.out];simp;omega
        case measure=>simp [intOf];omega
       ·go_wp2_with fail
        go_ret
        exact ⟨retBm (okM_no hlt (by unfold okAt;rw [← HUU.out];simp [h3])).symm,hbl.out⟩
      ·have e3:decide ((q:Int)≤(k:Int))=false:=by simp;omega
       go_wp2_with fail
       go_round
       case rel =>
        refine ⟨k+1,by omega,by go_num,Lib.hid (fun j hj=>?_)⟩
        rcases Nat.lt_or_ge j k with h | h
        ·exact hall.out j h
        ·obtain rfl:j=k:=by omega
         unfold okAt;simp;omega
       case measure=>simp [intOf];omega
    ·obtain rfl:k=512:=by omega
     go_wp2_with fail
     go_ret
     exact ⟨retBm (by symm;rw [decide_eq_true_eq];exact ⟨by omega,by omega,hall.out⟩),hbl.out⟩
theorem zeroMap:Tryz.zeroCells62=mapC 0 (List.replicate 512 false):=by kernel_rfl
theorem right_bmC (p:Int) (U:List Bool) (hU:U.length=512) (w:World) (C:Array Value) (eC:C=mapC p U) (r:Bool) (hr:r=decide (okM p U)) :
 Calls Tryz.prog 66 #[.agg C] w fun e w'=>e=.returned (.bool r)∧Below w.heap.size w w':=by
 rw [eC,hr]
 exact right_bm p U hU w
theorem together_bm (p q:Int) (U V:List Bool) (hU:U.length=512) (hV:V.length=512) (w:World) (C D:Array Value) (eC:C=mapC p U) (eD:D=mapC q V) (r:Bool) (hr:r=(decide (okM p U) && decide (okM q V) && decide (p=q))) :
 Calls Tryz.prog 155 #[.agg C,.agg D] w fun e w'=>e=.returned (.bool r)∧Below w.heap.size w w':=by
 have EC:=Lib.hid eC
 have ED:=Lib.hid eD
 have HU:=Lib.hid hU
 have HV:=Lib.hid hV
 have hS:Hid (some 513=some C.size):=Lib.hid (by rw [eC,size_mapC hU])
 have hT:Hid (some 513=some D.size):=Lib.hid (by rw [eD,size_mapC hV])
 obtain ⟨W,eW⟩:∃ W,W=(w.alloc (.cells C 62)).alloc (.cells D 62):=⟨_,rfl⟩
 have hbW:Below w.heap.size w W:=by rw [eW];exact ((Below.refl _ _).alloc (Nat.le_refl _) _).alloc (by simp) _
 have hm:MapAt W w.heap.size 62 p U:=by rw [eW,eC];exact (MapAt.new w _ p U).alloc _
 have hm2:MapAt W (w.heap.size+1) 62 q V:=by rw [eW,eD];have:=MapAt.new (w.alloc (.cells C 62)) 62 q V;simpa using this
 have hWs:W.heap.size=w.heap.size+2:=by rw [eW];simp
 have EW:=Lib.hid eW.symm
 have HR:=Lib.hid hr
 clear eC eD hU hV eW hr
 obtain ⟨x,hx⟩:∃ x,x=decide (okM p U):=⟨_,rfl⟩
 obtain ⟨y,hy⟩:∃ y,y=decide (okM q V):=⟨_,rfl⟩
 have HX:=Lib.hid hx
 have HY:=Lib.hid hy
 have HM:=Lib.hid hm
 have HM2:=Lib.hid hm2
 have HWS:=Lib.hid hWs
 clear hx hy hm hm2 hWs
 have hg1:Hid (W.heap[w.heap.size]?=some (.cells C 62 (0,0))):=Lib.hid (by rw [EC.out];exact HM.out)
 have hg2:Hid (W.heap[w.heap.size+1]?=some (.cells D 62 (0,0))):=Lib.hid (by rw [ED.out];exact HM2.out)
 obtain ⟨z,hz⟩:∃ z,z=decide (p=q):=⟨_,rfl⟩
 have dpq:(p == q)=z:=by rw [hz];rfl
 have HZ:=Lib.hid hz
 clear hz
 have hfin:Hid (r=(x && y && z)):=Lib.hid (by rw [HR.out,HX.out,HY.out,HZ.out])
 cases x
 ·go_enter Tryz.func155,Tryz.ntmps155
  go_upto_region 1 with fail
  rw [EW.out]
  go_wp2_with (first
   | (refine wpList_load_row rfl 62 (.tmp 2) rfl w.heap.size rfl 62 C (0,0) _ hg1.out Tryz.underlying62 rfl (infoMap.trans hS.out) ?_)
   | (go_at_call 66;(refine (right_bmC p U HU.out _ C EC.out _ HX.out).mono ?_);rintro e w1 ⟨rfl,hb1⟩;have hbA:=hbW.trans (hb1.mono hbW.size);have hg3:=(hb1.block (w.heap.size+1) (by rw [HWS.out];omega)).trans hg2.out;have k1:=(HM.out.below hb1 (by rw [HWS.out];omega)).c0;have k2:=(HM2.out.below hb1 (by rw [HWS.out];omega)).c0))
  all_goals go_ret
  all_goals exact ⟨by rw [hfin.out];rfl,hbA⟩
 ·cases y
  all_goals
   go_enter Tryz.func155,Tryz.ntmps155
   go_upto_region 1 with fail
   rw [EW.out]
   go_wp2_with (first
    | (refine wpList_load_row rfl 62 (.tmp 2) rfl w.heap.size rfl 62 C (0,0) _ hg1.out Tryz.underlying62 rfl (infoMap.trans hS.out) ?_)
    | (go_at_call 66;(refine (right_bmC p U HU.out _ C EC.out _ HX.out).mono ?_);rintro e w1 ⟨rfl,hb1⟩;have hbA:=hbW.trans (hb1.mono hbW.size);have hg3:=(hb1.block (w.heap.size+1) (by rw [HWS.out];omega)).trans hg2.out;have k1:=(HM.out.below hb1 (by rw [HWS.out];omega)).c0;have k2:=(HM2.out.below hb1 (by rw [HWS.out];omega)).c0))
   refine wp_load_row 62 (.tmp 3) rfl (w.heap.size+1) rfl 62 D (0,0) _ hg3 Tryz.underlying62 rfl (infoMap.trans hT.out) ?_
   rename_i K2 hK2
   refine hK2 _ _ ?_
   simp only [Act.put,List.setIfInBounds_toArray,List.set_cons_zero,List.set_cons_succ]
   go_wp2_with (go_at_call 66;(refine (right_bmC q V HV.out _ D ED.out _ HY.out).mono ?_);rintro e w2 ⟨rfl,hb2⟩;have hbA:=hbA.trans (hb2.mono hbA.size);have k1:=((HM.out.below hb1 (by rw [HWS.out];omega)).below hb2 (by have:=hb1.size;rw [HWS.out] at this;omega)).c0;have k2:=((HM2.out.below hb1 (by rw [HWS.out];omega)).below hb2 (by have:=hb1.size;rw [HWS.out] at this;omega)).c0)
   all_goals go_ret
   all_goals exact ⟨by rw [hfin.out];simp,hbA⟩
end Go.Proofs.YtgkddhncfaeidaaGreat
namespace Go.Proofs.YtgkddhncfaeidaaGreat
def map0:List Bool:=markN (List.replicate 512 false) 0 true 2
theorem length_map0:map0.length=512:=by unfold map0;rw [length_markN];exact List.length_replicate
theorem get_map0 (j:Nat):map0.getD j false=decide (j<2):=by
 unfold map0
 rw [getD_markN _ _ _ _ _ (by rw [List.length_replicate];omega)]
 by_cases h:j<2
 ·rw [if_pos (by omega),decide_eq_true h]
 ·rw [if_neg (by omega),decide_eq_false h,List.getD_eq_getElem?_getD,List.getElem?_replicate]
  split <;> rfl
structure BtInv (k:Nat) (U:List Bool) (had:List Nat):Prop where
 len:U.length=512
 nod:had.Nodup
 rng:∀ a ∈ had,2≤a∧a<k
 bit:∀ j,U.getD j false=(decide (j<2) || decide (j ∈ had))
theorem BtInv.init (k:Nat):BtInv k map0 []:=⟨length_map0,List.nodup_nil,(fun a h=>by cases h),fun j=>by rw [get_map0];simp⟩
theorem ok_of {k:Nat} {U:List Bool} (hk:8≤k) (hk2:k≤512) (h1:∀ j,j<2→U.getD j false=true) (h2:∀ j,k≤j→U.getD j false=false):okM (k:Int) U:=by
 refine ⟨by omega,by omega,fun j hj=>?_⟩
 unfold okAt
 by_cases ha:j<2
 ·rw [h1 j ha];simp;omega
 ·by_cases hb:k≤j
  ·rw [h2 j hb];simp;omega
  ·have e1:decide (j<2)=false:=by simpa using ha
   have e2:decide ((k:Int)≤(j:Int))=false:=by simp;omega
   rw [e1,e2];rfl
theorem BtInv.ok {k:Nat} {U:List Bool} {had:List Nat} (h:BtInv k U had) (hk:8≤k) (hk2:k≤512):okM (k:Int) U :=
 ok_of hk hk2 (fun j hj=>by rw [h.bit,decide_eq_true hj];rfl) (fun j hj=>by
  rw [h.bit,decide_eq_false (by omega:¬ j<2),decide_eq_false (fun hm=>by have:=(h.rng j hm).2;omega)];rfl)
def freeN (U:List Bool):Nat→Nat
 | 0=>0
 | k+1=>freeN U k+(if U.getD k false then 0 else 1)
def below (had:List Nat) (n:Nat):Nat:=(had.filter (fun a=>decide (a<n))).length
end Go.Proofs.YtgkddhncfaeidaaGreat
namespace Go.Proofs.YtgkddhncfaeidaaGreat
open Go.RowKit
theorem built_map (z:Int):(Tryz.zeroCells62).setIfInBounds 0 (.int .i64 z)=mapC z (List.replicate 512 false):=by rw [zeroMap];unfold mapC;rw [List.setIfInBounds_toArray,List.set_cons_zero]
theorem new_bm (z:Int) (q:Nat) (hq:min (max z 8) 512=(q:Int)) (w:World) :
 Calls Tryz.prog 18 #[.int .i64 z] w fun e w'=>e=.returned (.agg (mapC (q:Int) map0))∧Below w.heap.size w w':=by
 have HQ:=Lib.hid hq
 clear hq
 obtain ⟨C0,eC0⟩:∃ C0,C0=mapC (q:Int) (List.replicate 512 false):=⟨_,rfl⟩
 have hbu:(Tryz.zeroCells62).setIfInBounds 0 (.int .i64 (q:Int))=C0:=by rw [eC0];exact built_map _
 have HBU:=Lib.hid hbu
 have hS0:Hid (some 513=some C0.size):=Lib.hid (by rw [eC0,size_mapC List.length_replicate])
 have hO0:Hid (C0.all (·.oneCell')=true):=Lib.hid (by rw [eC0];exact one_mapC _ _)
 have EC0:=Lib.hid eC0
 obtain ⟨C1,eC1⟩:∃ C1,C1=mapC (q:Int) map0:=⟨_,rfl⟩
 have hS1:Hid (some 513=some C1.size):=Lib.hid (by rw [eC1,size_mapC length_map0])
 have hO1:Hid (C1.all (·.oneCell')=true):=Lib.hid (by rw [eC1];exact one_mapC _ _)
 have EC1:=Lib.hid eC1
 have hmk:Hid (∀ W:World,Calls Tryz.prog 42 #[.agg C0,.int .i64 0,.int .i64 2,.bool true] W fun e w'=>e=.returned (.agg C1)∧Below W.heap.size W w'):=Lib.hid (fun W=>by rw [eC0,eC1];exact marked_any (q:Int) (List.replicate 512 false) List.length_replicate 0 2 0 2 rfl rfl (by omega) true W)
 rw [← eC1]
 clear hbu eC0 eC1
 go_enter Tryz.func18,Tryz.ntmps18
 go_wp2_with (first
  | (rw [HQ.out,HBU.out];refine wpList_store_row rfl 62 (.tmp 3) (.tmp 7) rfl (w.heap.size+1) C0 rfl rfl 62 Tryz.zeroCells62 (heap_alloc2_new _ _ _) (infoMap.trans hS0.out) (size_zeroMap.trans (Option.some.inj hS0.out)) hO0.out ?_)
  | (refine wpList_load_row rfl 62 (.tmp 3) rfl (w.heap.size+1) rfl 62 C0 (0,0) _ (setRow_heap _ _ _ _ _ _ (heap_alloc2_new _ _ _)) Tryz.underlying62 rfl (infoMap.trans hS0.out) ?_)
  | (go_at_call 42;(refine (hmk.out _).mono ?_);rintro e w1 ⟨rfl,hb1⟩)
  | (refine wpList_store_row rfl 62 (.tmp 2) (.tmp 9) rfl w.heap.size C1 rfl rfl 62 Tryz.zeroCells62 ((hb1.block w.heap.size (by simp;omega)).trans ((setRow_other _ _ _ _ (by omega)).trans (heap_alloc2_old _ _ _))) (infoMap.trans hS1.out) (size_zeroMap.trans (Option.some.inj hS1.out)) hO1.out ?_))
 have hb2:Below w.heap.size w w1:=((((Below.refl _ _).alloc (Nat.le_refl _) _).alloc (by simp) _:Below w.heap.size w ((w.alloc (.cells Tryz.zeroCells62 62)).alloc (.cells Tryz.zeroCells62 62)))).trans ((below_setRow (Below.refl _ _) (Nat.le_succ _) C0).trans (hb1.mono (by simp;omega)))
 have hz1:=(hb1.block w.heap.size (by simp;omega)).trans ((setRow_other _ _ _ _ (by omega)).trans (heap_alloc2_old _ _ _))
 exact bodyPost_ret (v:=.agg C1) (results_cell_row (p:=2) (ty:=62) rfl _ _ w.heap.size 62 C1 (0,0) _ rfl (setRow_heap _ _ Tryz.zeroCells62 _ _ _ hz1) Tryz.underlying62 rfl (infoMap.trans hS1.out)) rfl ⟨rfl,below_setRow hb2 (Nat.le_refl _) _⟩
theorem freeN_le (U:List Bool):∀ k,freeN U k≤k
 | 0=>Nat.le_refl _
 | k+1=>by
   have:=freeN_le U k
   unfold freeN
   split <;> omega
theorem free_bm (p:Nat) (U:List Bool) (hU:U.length=512) (hp:p≤512) (w:World) (C:Array Value) (eC:C=mapC (p:Int) U) (f:Nat) (hf:f=freeN U p) :
 Calls Tryz.prog 25 #[.agg C] w fun e w'=>e=.returned (.int .i64 (f:Int))∧Below w.heap.size w w':=by
 have HM:Hid (MapAt (w.alloc (.cells C 62)) w.heap.size 62 (p:Int) U):=Lib.hid (by rw [eC];exact MapAt.new w _ _ U)
 have c0:=HM.out.c0
 have hbl:Hid (Below w.heap.size w (w.alloc (.cells C 62))):=Lib.hid ((Below.refl _ _).alloc (Nat.le_refl _) _)
 have HF:=Lib.hid hf
 have hmin:min (p:Int) 512=(p:Int):=by omega
 clear eC hf
 go_enter Tryz.func25,Tryz.ntmps25
 go_wp2_with fail
 go_loop [3,8] (fun v i=>∃ k:Nat,k≤p∧i=.int .i64 k∧v=.int .i64 (freeN U k:Nat)) (fun _ i=>p - (intOf i).toNat)
 case atStart=>exact ⟨0,by omega,rfl,rfl⟩
 case round =>
  obtain ⟨k,hk,rfl,rfl⟩:=hrel
  by_cases hlt:k<p
  ·have hc:=HM.out.cs k (by omega)
   obtain ⟨u,hu⟩:∃ u,u=U.getD k false:=⟨_,rfl⟩
   have hfl:=freeN_le U k
   have hst:freeN U (k+1)=freeN U k+(if u then 0 else 1):=by rw [hu];rfl
   rw [← hu] at hc
   have HST:=Lib.hid hst
   clear hu hst
   cases u
   ·go_wp2_with fail
    go_round
    case rel=>exact ⟨k+1,by omega,by go_num,by rw [HST.out];simp⟩
    case measure=>simp [intOf];omega
   ·go_wp2_with fail
    go_round
    case rel=>exact ⟨k+1,by omega,by go_num,by rw [HST.out];simp⟩
    case measure=>simp [intOf];omega
  ·obtain rfl:k=p:=by omega
   go_wp2_with fail
   go_ret
   exact ⟨by rw [HF.out];rfl,hbl.out⟩
theorem two_maps {p q:Int} {U V:List Bool} {C D:Array Value} (w:World) (eC:C=mapC p U) (eD:D=mapC q V) :
 MapAt ((w.alloc (.cells C 62)).alloc (.cells D 62)) w.heap.size 62 p U∧MapAt ((w.alloc (.cells C 62)).alloc (.cells D 62)) (w.heap.size+1) 62 q V∧Below w.heap.size w ((w.alloc (.cells C 62)).alloc (.cells D 62)):=by
 refine ⟨by rw [eC];exact (MapAt.new w _ p U).alloc _,by rw [eD];have:=MapAt.new (w.alloc (.cells C 62)) 62 q V;simpa using this,((Below.refl _ _).alloc (Nat.le_refl _) _).alloc (by simp) _⟩
theorem results_cell_tmpB {P:Program} {fn:Func} {p u:Tmp} {ty:TypeId} (h:fn.results=#[.cell p ty,.tmp u]) (tmps:Array Value) (w:World) (g:Nat) (t:TypeId) (cs:Array Value) (fr:Nat × Nat) (d:TypeDesc)
 (hp:tmps.getD p undef=.pointer (some ⟨g,0,none⟩)) (hg:w.heap[g]?=some (.cells cs t fr))
 (hu:P.underlying ty=some d) (hd:(match d with | .struct _ | .array _ _=>true | _=>false)=true) (hi:(P.info? ty).map (·.size)=some cs.size) :
 (results fn tmps).run P w=.ok (.tuple #[.agg cs,tmps.getD u undef]) w:=by
 have hp':tmps[p]?.getD undef=.pointer (some ⟨g,0,none⟩):=by simpa using hp
 simp [results,h,hp',asAddr,run_loadVar_row w g t ty cs fr d hg hu hd hi]
theorem results_cell_tmp3 {P:Program} {fn:Func} {p u v:Tmp} {ty:TypeId} (h:fn.results=#[.cell p ty,.tmp u,.tmp v]) (tmps:Array Value) (w:World) (g:Nat) (t:TypeId) (cs:Array Value) (fr:Nat × Nat) (d:TypeDesc)
 (hp:tmps.getD p undef=.pointer (some ⟨g,0,none⟩)) (hg:w.heap[g]?=some (.cells cs t fr))
 (hu:P.underlying ty=some d) (hd:(match d with | .struct _ | .array _ _=>true | _=>false)=true) (hi:(P.info? ty).map (·.size)=some cs.size) :
 (results fn tmps).run P w=.ok (.tuple #[.agg cs,tmps.getD u undef,tmps.getD v undef]) w:=by
 have hp':tmps[p]?.getD undef=.pointer (some ⟨g,0,none⟩):=by simpa using hp
 simp [results,h,hp',asAddr,run_loadVar_row w g t ty cs fr d hg hu hd hi]
def takeInv (p:Nat) (U V:List Bool) (n k f:Nat):Prop :=
 f≤k∧f<n∧(∀ j,k - f≤j→j<k→U.getD j false=false∧V.getD j false=false)∧(f=k∨U.getD (k - f - 1) false=true∨V.getD (k - f - 1) false=true)∧∀ a,a+n≤k→¬ fits p U V n a
theorem takeInv_used {p:Nat} {U V:List Bool} {n k f:Nat} (hn:1≤n) (h:takeInv p U V n k f) (hu:U.getD k false=true∨V.getD k false=true):takeInv p U V n (k+1) 0:=by
 obtain ⟨h1,h2,h3,h4,h5⟩:=h
 refine ⟨by omega,by omega,fun j _ _=>by omega,.inr (by simpa using hu),fun a ha hf=>?_⟩
 by_cases hk:a+n≤k
 ·exact h5 a hk hf
 ·have:=hf.2 (k - a) (by omega)
  rw [show a+(k - a)=k by omega] at this
  rcases hu with e | e
  ·rw [this.1] at e;cases e
  ·rw [this.2] at e;cases e
theorem takeInv_free {p:Nat} {U V:List Bool} {n k f:Nat} (hn:f+1<n) (h:takeInv p U V n k f) (hu:U.getD k false=false∧V.getD k false=false):takeInv p U V n (k+1) (f+1):=by
 obtain ⟨h1,h2,h3,h4,h5⟩:=h
 refine ⟨by omega,hn,fun j hj1 hj2=>?_,?_,fun a ha hf=>?_⟩
 ·by_cases hj:j=k
  ·rw [hj];exact hu
  ·exact h3 j (by omega) (by omega)
 ·rcases h4 with e | e
  ·exact .inl (by omega)
  ·exact .inr (by rw [show k+1 - (f+1) - 1=k - f - 1 by omega];exact e)
 ·by_cases hk:a+n≤k
  ·exact h5 a hk hf
  ·rcases h4 with e | e
   ·omega
   ·by_cases hfk:f=k
    ·omega
    ·have:=hf.2 (k - f - 1 - a) (by omega)
     rw [show a+(k - f - 1 - a)=k - f - 1 by omega] at this
     rcases e with e | e
     ·rw [this.1] at e;cases e
     ·rw [this.2] at e;cases e
theorem takeInv_full {p:Nat} {U V:List Bool} {n k f:Nat} (hkp:k<p) (hn:f+1=n) (h:takeInv p U V n k f) (hu:U.getD k false=false∧V.getD k false=false):fits p U V n (k+1 - n)∧∀ a,a<k+1 - n→¬ fits p U V n a:=by
 obtain ⟨h1,h2,h3,h4,h5⟩:=h
 refine ⟨⟨by omega,fun j hj=>?_⟩,fun a ha hf=>h5 a (by omega) hf⟩
 by_cases hj2:k+1 - n+j=k
 ·rw [hj2];exact hu
 ·exact h3 _ (by omega) (by omega)
theorem take_bm (p:Nat) (U V:List Bool) (hU:U.length=512) (hV:V.length=512) (okU:okM (p:Int) U) (okV:okM (p:Int) V) (n:Nat) (hn1:1≤n) (w:World) (C D:Array Value) (eC:C=mapC (p:Int) U) (eD:D=mapC (p:Int) V) :
 Calls Tryz.prog 120 #[.agg C,.agg D,.int .i64 (n:Int)] w fun e w' =>
  ((∃ a,fits p U V n a∧(∀ a',a'<a→¬ fits p U V n a')∧e=.returned (.tuple #[.agg (mapC (p:Int) (markN U a true n)),.int .i64 (a:Int),.int .i64 0]))∨((∀ a,¬ fits p U V n a)∧e=.returned (.tuple #[.agg Tryz.zeroCells62,.int .i64 0,.int .i64 5])))∧Below w.heap.size w w':=by
 have hp:p≤512:=by have:=okU.2.1;omega
 obtain ⟨hm,hm2,hbl⟩:=two_maps w eC eD
 have d1:decide ((n:Int)<1)=false:=by simp;omega
 have hS:Hid (some 513=some C.size):=Lib.hid (by rw [eC,size_mapC hU])
 have hT:Hid (some 513=some D.size):=Lib.hid (by rw [eD,size_mapC hV])
 obtain ⟨W,eW⟩:∃ W,W=((w.alloc (.cells C 62)).alloc (.cells D 62)).alloc (.cells Tryz.zeroCells62 62):=⟨_,rfl⟩
 have HM:Hid (MapAt W w.heap.size 62 (p:Int) U):=Lib.hid (by rw [eW];exact hm.alloc _)
 have HM2:Hid (MapAt W (w.heap.size+1) 62 (p:Int) V):=Lib.hid (by rw [eW];exact hm2.alloc _)
 have HBL:Hid (Below w.heap.size w W):=Lib.hid (by rw [eW];exact hbl.alloc (by simp;omega) _)
 have HZ:Hid (W.heap[w.heap.size+2]?=some (.cells Tryz.zeroCells62 62 (0,0))):=Lib.hid (by rw [eW];have:=heap_alloc_new ((w.alloc (.cells C 62)).alloc (.cells D 62)) (.cells Tryz.zeroCells62 62);simpa using this)
 have hg1:Hid (W.heap[w.heap.size]?=some (.cells C 62 (0,0))):=Lib.hid (by rw [eC];exact HM.out)
 have hg2:Hid (W.heap[w.heap.size+1]?=some (.cells D 62 (0,0))):=Lib.hid (by rw [eD];exact HM2.out)
 have HTG:=Lib.hid (fun W=>together_bm (p:Int) (p:Int) U V hU hV W C D eC eD true (by simp [okU,okV]))
 have hWs:Hid (W.heap.size=w.heap.size+3):=Lib.hid (by rw [eW];simp)
 have HMK:Hid (∀ (a:Nat) (za:Int) (W:World),za=(a:Int)→a+n≤512→Calls Tryz.prog 42 #[.agg C,.int .i64 za,.int .i64 (n:Int),.bool true] W fun e w'=>e=.returned (.agg (mapC (p:Int) (markN U a true n)))∧Below W.heap.size W w'):=Lib.hid (fun a za W hza h=>by rw [eC];exact marked_any (p:Int) U hU za n a n hza rfl h true W)
 have HLM:Hid (∀ a,some 513=some (mapC (p:Int) (markN U a true n)).size):=Lib.hid (fun a=>by rw [size_mapC (by rw [length_markN,hU])])
 have EW:=Lib.hid eW.symm
 clear hm hm2 hbl eC eD okU okV eW
 go_enter Tryz.func120,Tryz.ntmps120
 go_upto_region 1 with fail
 rw [EW.out]
 go_wp2_with (first
  | (refine wpList_load_row rfl 62 (.tmp 3) rfl w.heap.size rfl 62 C (0,0) _ hg1.out Tryz.underlying62 rfl (infoMap.trans hS.out) ?_)
  | (refine wpList_load_row rfl 62 (.tmp 4) rfl (w.heap.size+1) rfl 62 D (0,0) _ hg2.out Tryz.underlying62 rfl (infoMap.trans hT.out) ?_)
  | (go_at_call 155;(refine (HTG.out _).mono ?_);rintro e w1 ⟨rfl,hb1⟩;have M1:=Lib.hid (HM.out.below hb1 HM.out.lt);have M2:=Lib.hid (HM2.out.below hb1 HM2.out.lt);have k0:=M1.out.c0))
 have hbA:Below w.heap.size w w1:=HBL.out.trans (hb1.mono HBL.out.size)
 have hs1:w.heap.size+3≤w1.heap.size:=by have:=hb1.size;rw [hWs.out] at this;exact this
 have HZ1:=Lib.hid ((hb1.block _ (by rw [hWs.out];omega)).trans HZ.out)
 have HG1:=Lib.hid ((hb1.block _ (by rw [hWs.out];omega)).trans hg1.out)
 clear hb1
 go_loop [9,23] (fun f i=>∃ k r:Nat,k≤p∧i=.int .i64 k∧f=.int .i64 r∧Hid (takeInv p U V n k r)) (fun _ i=>p - (intOf i).toNat)
 case atStart=>exact ⟨0,0,by omega,rfl,rfl,Lib.hid ⟨Nat.le_refl _,by omega,fun j _ h=>by omega,.inl rfl,fun a h=>by omega⟩⟩
 case round =>
  obtain ⟨k,r,hk,rfl,rfl,hI⟩:=hrel
  have hrk:r≤k:=hI.out.1
  by_cases hlt:k<p
  ·have hc:=M1.out.cs k (by omega)
   have hd:=M2.out.cs k (by omega)
   obtain ⟨u,hu⟩:∃ u,u=U.getD k false:=⟨_,rfl⟩
   obtain ⟨v,hv⟩:∃ v,v=V.getD k false:=⟨_,rfl⟩
   rw [← hu] at hc
   rw [← hv] at hd
   have HU:=Lib.hid hu
   have HV:=Lib.hid hv
   clear hu hv
   cases u
   ·cases v
    ·by_cases hfn:r+1=n
     ·have dn:((r:Int)+1 == (n:Int))=true:=by simp;omega
      obtain ⟨hfit,hleast⟩:=takeInv_full hlt hfn hI.out ⟨HU.out.symm,HV.out.symm⟩
      obtain ⟨a,ha⟩:∃ a,a=k+1 - n:=⟨_,rfl⟩
      rw [← ha] at hfit hleast
      have hae:(k:Int)+1 - (n:Int)=(a:Int):=by omega
      have HAE:=Lib.hid hae
      have HFN:=Lib.hid hfn
      have han:a+n≤512:=by have:=hfit.1;omega
      clear hae ha hfn
      obtain ⟨C',eC'⟩:∃ C',C'=mapC (p:Int) (markN U a true n):=⟨_,rfl⟩
      have hS':Hid (some 513=some C'.size):=Lib.hid (by rw [eC'];exact HLM.out a)
      have hO':Hid (C'.all (·.oneCell')=true):=Lib.hid (by rw [eC'];exact one_mapC _ _)
      have EC':=Lib.hid eC'
      have HMK':Hid (∀ W:World,Calls Tryz.prog 42 #[.agg C,.int .i64 (a:Int),.int .i64 (n:Int),.bool true] W fun e w'=>e=.returned (.agg C')∧Below W.heap.size W w'):=Lib.hid (fun W=>by rw [eC'];exact HMK.out a a W rfl han)
      clear eC'
      go_wp2_with (first
       | (refine wpList_load_row rfl 62 (.tmp 3) rfl w.heap.size rfl 62 C (0,0) _ HG1.out Tryz.underlying62 rfl (infoMap.trans hS.out) ?_)
       | (rw [HAE.out];go_at_call 42;(refine (HMK'.out _).mono ?_);rintro e w2 ⟨rfl,hb2⟩;have HZ2:=Lib.hid ((hb2.block _ (by omega)).trans HZ1.out))
       | (refine wpList_store_row rfl 62 (.tmp 6) (.tmp 48) rfl (w.heap.size+2) C' rfl rfl 62 Tryz.zeroCells62 HZ2.out (infoMap.trans hS'.out) (size_zeroMap.trans (Option.some.inj hS'.out)) hO'.out ?_))
      refine bodyPost_ret (v:=.tuple #[.agg C',.int .i64 (a:Int),.int .i64 0]) (results_cell_tmp3 (p:=6) (u:=7) (v:=8) (ty:=62) rfl _ _ (w.heap.size+2) 62 C' (0,0) _ rfl (setRow_heap _ _ Tryz.zeroCells62 _ _ _ HZ2.out) Tryz.underlying62 rfl (infoMap.trans hS'.out)) rfl ⟨.inl ⟨a,hfit,hleast,by rw [EC'.out]⟩,?_⟩
      exact below_setRow (hbA.trans (hb2.mono hbA.size)) (by omega) _
     ·have dn:((r:Int)+1 == (n:Int))=false:=by simp;omega
      have hI2:=Lib.hid (takeInv_free (by have:=hI.out.2.1;omega) hI.out ⟨HU.out.symm,HV.out.symm⟩)
      clear hfn
      go_wp2_with fail
      go_round
      case rel=>exact ⟨k+1,r+1,by omega,by go_num,by go_num,hI2⟩
      case measure=>simp [intOf];omega
    ·have hI2:=Lib.hid (takeInv_used hn1 hI.out (.inr HV.out.symm))
     go_wp2_with fail
     go_round
     case rel=>exact ⟨k+1,0,by omega,by go_num,rfl,hI2⟩
     case measure=>simp [intOf];omega
   ·have hI2:=Lib.hid (takeInv_used hn1 hI.out (.inl HU.out.symm))
    go_wp2_with fail
    go_round
    case rel=>exact ⟨k+1,0,by omega,by go_num,rfl,hI2⟩
    case measure=>simp [intOf];omega
  ·obtain rfl:k=p:=by omega
   have hno:Hid (∀ a,¬ fits k U V n a):=Lib.hid (fun a hf=>hI.out.2.2.2.2 a hf.1 hf)
   have hSz:some 513=some (Tryz.zeroCells62).size:=by rw [size_zeroMap]
   have hOz:(Tryz.zeroCells62).all (·.oneCell')=true:=by rw [zeroMap];exact one_mapC _ _
   have HSZ:=Lib.hid hSz
   have HOZ:=Lib.hid hOz
   clear hSz hOz
   go_wp2_with (refine wpList_store_row rfl 62 (.tmp 6) (.tmp 51) rfl (w.heap.size+2) Tryz.zeroCells62 rfl rfl 62 Tryz.zeroCells62 HZ1.out (infoMap.trans HSZ.out) rfl HOZ.out ?_)
   refine bodyPost_ret (v:=.tuple #[.agg Tryz.zeroCells62,.int .i64 0,.int .i64 5]) (results_cell_tmp3 (p:=6) (u:=7) (v:=8) (ty:=62) rfl _ _ (w.heap.size+2) 62 Tryz.zeroCells62 (0,0) _ rfl (setRow_heap _ _ Tryz.zeroCells62 _ _ _ HZ1.out) Tryz.underlying62 rfl (infoMap.trans HSZ.out)) rfl ⟨.inr ⟨hno.out,rfl⟩,?_⟩
   exact below_setRow hbA (by omega) _
end Go.Proofs.YtgkddhncfaeidaaGreat
