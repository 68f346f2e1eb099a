/- Squeezed: the texts as they are written lie in wip/tpl. -/
import Derived.Shelf.Sort.Plain
import Derived.Shelf.Slices.CompactI
import Derived.Ground.Names2Prog
import Derived.Test.YtgkddhncfaeidaaGreatProg
import Derived.Test.YtgkddhncfaeidaaGreatRows
import Derived.Test.YtgkddhncfaeidaaGreatPart41
import Derived.Test.YtgkddhncfaeidaaGreatPart32
import Derived.Sort.OwnSortedInts
import Derived.Shelf.Slices.In.SortNone
import Derived.Test.YtgkddhncfaeidaaGreatPart40
set_option maxRecDepth 100000
set_option maxHeartbeats 4000000
set_option linter.unnecessarySimpa false
set_option linter.unusedSimpArgs false
set_option linter.unusedVariables false
namespace Go.Proofs.YtgkddhncfaeidaaGreat
open Go.Shelf
def srtRen:Go.Shelf.Ren:=⟨fun | 189=>45 | 125=>69 | 257=>68 | 128=>106 | 129=>107 | 294=>97 | 295=>98 | 296=>99 | 297=>100 | 298=>101 | 299=>102 | 216=>103 | 300=>104 | 301=>105 | 328=>140 | 329=>141 | 330=>142 | 331=>143 | 332=>144 | 215=>145 | 343=>164 | n=>n,fun | 28=>59 | 3=>3 | 46=>141 | 0=>0 | 51=>32 | 53=>22 | 4=>4 | 183=>183 | 182=>182 | 131=>166 | 5=>5 | 9=>9 | 218=>222 | 222=>226 | 228=>245 | 229=>246 | n=>n,fun | n=>n⟩
theorem srtLays:Go.Proofs.Lays.n189 Tryz.prog srtRen:={
 mixed:=by kernel_rfl
 f125:=Tryz.func69.trans (congrArg some (by kernel_rfl))
 f128:=Tryz.func106.trans (congrArg some (by kernel_rfl))
 f129:=Tryz.func107.trans (congrArg some (by kernel_rfl))
 f189:=Tryz.func45.trans (congrArg some (by kernel_rfl))
 f215:=Tryz.func145.trans (congrArg some (by kernel_rfl))
 f216:=Tryz.func103.trans (congrArg some (by kernel_rfl))
 f257:=Tryz.func68.trans (congrArg some (by kernel_rfl))
 f294:=Tryz.func97.trans (congrArg some (by kernel_rfl))
 f295:=Tryz.func98.trans (congrArg some (by kernel_rfl))
 f296:=Tryz.func99.trans (congrArg some (by kernel_rfl))
 f297:=Tryz.func100.trans (congrArg some (by kernel_rfl))
 f298:=Tryz.func101.trans (congrArg some (by kernel_rfl))
 f299:=Tryz.func102.trans (congrArg some (by kernel_rfl))
 f300:=Tryz.func104.trans (congrArg some (by kernel_rfl))
 f301:=Tryz.func105.trans (congrArg some (by kernel_rfl))
 f328:=Tryz.func140.trans (congrArg some (by kernel_rfl))
 f329:=Tryz.func141.trans (congrArg some (by kernel_rfl))
 f330:=Tryz.func142.trans (congrArg some (by kernel_rfl))
 f331:=Tryz.func143.trans (congrArg some (by kernel_rfl))
 f332:=Tryz.func144.trans (congrArg some (by kernel_rfl))
 f343:=Tryz.func164.trans (congrArg some (by kernel_rfl))
 t0:=Tryz.underlying0
 a0:=Tryz.isAgg0
 z0:=Tryz.sizeOf0
 v0:=Tryz.zeroValue0
 t3:=Tryz.underlying3
 a3:=Tryz.isAgg3
 z3:=Tryz.sizeOf3
 v3:=Tryz.zeroValue3
 t4:=Tryz.underlying4
 a4:=Tryz.isAgg4
 z4:=Tryz.sizeOf4
 v4:=Tryz.zeroValue4
 t5:=Tryz.underlying5
 a5:=Tryz.isAgg5
 z5:=Tryz.sizeOf5
 v5:=Tryz.zeroValue5
 t9:=Tryz.underlying9
 a9:=Tryz.isAgg9
 z9:=Tryz.sizeOf9
 v9:=Tryz.zeroValue9
 t28:=Tryz.underlying59
 a28:=Tryz.isAgg59
 z28:=Tryz.sizeOf59
 v28:=Tryz.zeroValue59
 t46:=Tryz.underlying141
 a46:=Tryz.isAgg141
 z46:=Tryz.sizeOf141
 v46:=Tryz.zeroValue141
 t51:=Tryz.underlying32
 a51:=Tryz.isAgg32
 z51:=Tryz.sizeOf32
 v51:=Tryz.zeroValue32
 t53:=Tryz.underlying22
 a53:=Tryz.isAgg22
 z53:=Tryz.sizeOf22
 v53:=Tryz.zeroValue22
 t131:=Tryz.underlying166
 a131:=Tryz.isAgg166
 z131:=Tryz.sizeOf166
 v131:=Tryz.zeroValue166
 t182:=Tryz.underlying182
 a182:=Tryz.isAgg182
 z182:=Tryz.sizeOf182
 v182:=Tryz.zeroValue182
 t183:=Tryz.underlying183
 a183:=Tryz.isAgg183
 z183:=Tryz.sizeOf183
 v183:=Tryz.zeroValue183
 t218:=Tryz.underlying222
 a218:=Tryz.isAgg222
 z218:=Tryz.sizeOf222
 v218:=Tryz.zeroValue222
 t222:=Tryz.underlying226
 a222:=Tryz.isAgg226
 z222:=Tryz.sizeOf226
 v222:=Tryz.zeroValue226
 t228:=Tryz.underlying245
 a228:=Tryz.isAgg245
 z228:=Tryz.sizeOf245
 v228:=Tryz.zeroValue245
 t229:=Tryz.underlying246
 a229:=Tryz.isAgg246
 z229:=Tryz.sizeOf246
 v229:=Tryz.zeroValue246 }
def cmpRen:Go.Shelf.Ren:=⟨fun | 20=>46 | n=>n,fun | 22=>59 | 3=>3 | 4=>4 | 0=>0 | n=>n,fun | n=>n⟩
theorem cmpLays:Go.Proofs.Lays2.n20 Tryz.prog cmpRen:={
 mixed:=by kernel_rfl
 f20:=Tryz.func46.trans (congrArg some (by kernel_rfl))
 t0:=Tryz.underlying0
 a0:=Tryz.isAgg0
 z0:=Tryz.sizeOf0
 v0:=Tryz.zeroValue0
 t3:=Tryz.underlying3
 a3:=Tryz.isAgg3
 z3:=Tryz.sizeOf3
 v3:=Tryz.zeroValue3
 t4:=Tryz.underlying4
 a4:=Tryz.isAgg4
 z4:=Tryz.sizeOf4
 v4:=Tryz.zeroValue4
 t22:=Tryz.underlying59
 a22:=Tryz.isAgg59
 z22:=Tryz.sizeOf59
 v22:=Tryz.zeroValue59
 i3:=by kernel_rfl }
end Go.Proofs.YtgkddhncfaeidaaGreat
namespace Go.Proofs.YtgkddhncfaeidaaGreat
open Go.RowKit Go.ChangeShapes Go.WideShapes Go.ChangeAt CrcM PageM Go.Sort
theorem visitP_tree {rd:Nat→NodeD→Prop} (gv g gen p ga base:Nat) (U V:List Bool) {B N gs gn Ls cs cn:Nat} {rw:Value} {st nw:List UInt8} {ws:List (Nat × List UInt8)} (Pd:Int→Prop) (hrd:∀ a n,rd a n→rdQ nw Ls a n∧Pd (a:Int)):∀ (h a:Nat) (n:NodeD) (es:List EntD),Tre rd h n es→rd a n→h≤4→VisP gv g gen p ga base U V B N gs gn Ls cs cn rw st nw ws Pd a ((h:Int)+1) (17 ^ (h+1))
 | 0,a,n,es,⟨h1,h2,h3,h5⟩,hr,h4=>by
   have h9:=visitP_node gv g gen p ga base a 0 0 U V (B:=B) (N:=N) (gs:=gs) (gn:=gn) (cs:=cs) (cn:=cn) (rw:=rw) (st:=st) (ws:=ws) Pd n [] (hrd _ _ hr).1 (hrd _ _ hr).2 (by rw [h1];rfl) (by rw [h5];rfl) h4 (fun x hx=>by cases hx)
   intro s W q1 q2 q3 q4
   refine (h9 s W q1 (by simp at q2 ⊢;omega) q3 q4).mono ?_
   rintro e w' ⟨k1,⟨ds,k2,k3,k4⟩,k5⟩
   exact ⟨k1,⟨ds,k2,by simp at k3 ⊢;omega,k4⟩,k5⟩
 | h+1,a,n,es,⟨h1,h2,parts,e1,e2,e3,e4,e5⟩,hr,h4=>by
   have h9:=visitP_node gv g gen p ga base a (h+1) (17 ^ (h+1)) U V (B:=B) (N:=N) (gs:=gs) (gn:=gn) (cs:=cs) (cn:=cn) (rw:=rw) (st:=st) (ws:=ws) Pd n parts (hrd _ _ hr).1 (hrd _ _ hr).2 (by rw [h1];simp) e1 h4 (fun x hx=>by
    have h9:=visitP_tree gv g gen p ga base U V (B:=B) (N:=N) (gs:=gs) (gn:=gn) (cs:=cs) (cn:=cn) (rw:=rw) (st:=st) (ws:=ws) Pd hrd h x.1 x.2.1 x.2.2 (e3 x hx).2.1 (e3 x hx).1 (by omega)
    rw [show ((h+1:Nat):Int)=(h:Int)+1 from by omega]
    exact h9)
   have hpow:1+16*17 ^ (h+1)≤17 ^ (h+1+1):=by
    rw [Nat.pow_succ 17 (h+1)]
    have:1≤17 ^ (h+1):=Nat.one_le_pow _ _ (by omega)
    omega
   intro s W q1 q2 q3 q4
   refine (h9 s W q1 (by omega) q3 q4).mono ?_
   rintro e w' ⟨k1,⟨ds,k2,k3,k4⟩,k5⟩
   exact ⟨k1,⟨ds,k2,by omega,k4⟩,k5⟩
theorem visitP_zero (gv g gen p ga:Nat) (a:Int) (U V:List Bool) (w:World) (hv:ViewAt w gv g gen (p:Int) U V) :
 Calls Tryz.prog 32 #[.pointer (some ⟨gv,0,none⟩),.agg #[.int .i64 a,.int .i64 0],.func (.func 44) #[] #[.pointer (some ⟨ga,0,none⟩)]] w fun e w'=>e=.returned (.int .i64 0)∧Below w.heap.size w w':=by
 obtain ⟨w1,hw1⟩:∃ w1,w1=w.alloc (.cells #[.int .i64 a,.int .i64 0] 43):=⟨_,rfl⟩
 have G1:Hid (w1.heap[w.heap.size]?=some (.cells #[.int .i64 a,.int .i64 0] 43 (0,0))):=Lib.hid (by rw [hw1];exact heap_alloc_new _ _)
 have B1:=Lib.hid (alloc_bel hw1)
 have V1:=Lib.hid (hv.below B1.out)
 have HW1:=Lib.hid hw1
 clear hw1 hv
 go_enter Tryz.func32,Tryz.ntmps32
 go_upto_region 1 with fail
 rw [← HW1.out]
 clear HW1
 go_upto_region 2 with (first
  | (refine wpList_load_row rfl 43 (.tmp 4) rfl w.heap.size rfl 43 _ (0,0) _ G1.out Tryz.underlying43 rfl (by kernel_rfl) ?_)
  | (go_at_call 56;refine (trefused_ok gv g gen p U V _ _ (by omega) (by omega) _ V1.out).mono ?_;rintro e w2 ⟨rfl,hb2⟩;have RB:=Lib.hid hb2;clear hb2))
 have z1:=nd_cell (row_stays G1.out RB.out) 1 (.int .i64 0) rfl
 go_wp2_with fail
 go_ret
 exact ⟨rfl,B1.out.trans (RB.out.mono B1.out.size)⟩
theorem compact_mem (zs:List Int) (d:Int) (hd:d ∈ Lib.compact zs):d ∈ zs:=by
 unfold Lib.compact Lib.compactUpTo at hd
 obtain ⟨j,hj,rfl⟩:=List.mem_map.1 hd
 have h1:=List.mem_range.1 (List.mem_filter.1 hj).1
 have h2:zs.toArray[j]! =zs[j]:=by simp [h1]
 rw [h2]
 exact List.getElem_mem h1
theorem sort_own (base n c:Nat) (A:Option Addr) (zs:List Int) (w:World) (h:w.ownsRow base 3 1 (.slice A n c) n (zs.map kdC)) (hn:n≤1000000) :
 Calls Tryz.prog 45 #[.slice A n c] w fun e w'=>e=.returned (.tuple #[])∧(∃ ts:List Int,ts.length=n∧(∀ d ∈ ts,d ∈ zs)∧w'.ownsRow base 3 1 (.slice A n c) n (ts.map kdC))∧w.grownBy w' (Value.slice A n c).ownBlock:=by
 have hl:zs.length=n:=by
  have:=h.1
  rwa [List.length_map,Nat.mul_one] at this
 have hh:=h
 rcases h.2 with ⟨h0,h1⟩ | ⟨g,cap,cur,hv,hb,hg,h3,h4,h5,h6⟩
 ·cases h0
  have hc:=Any.slices_Sort_int_none srtLays none 0 w
  refine Calls.mono (show Calls Tryz.prog 45 #[.slice none 0 0] w _ from hc) ?_
  rintro e w' ⟨rfl,rfl⟩
  have hz:zs=[]:=List.eq_nil_of_length_eq_zero (by omega)
  subst hz
  exact ⟨rfl,⟨[],rfl,(fun d hd=>by cases hd),h⟩,World.grownBy.refl _ _⟩
 ·cases hv
  subst hl
  rw [Nat.mul_one] at h6
  have hc:=Any.slices_Sort_int srtLays g 0 c zs w (holds_of_blockI hg h6) (Array.getElem?_eq_some_iff.1 hg).1 (by omega)
  refine Calls.mono (show Calls Tryz.prog 45 #[.slice (some ⟨g,0,none⟩) zs.length c] w _ from hc) ?_
  rintro e w' ⟨rfl,m,os,rfl⟩
  have hlen:(zs.mergeSort fun x y=>decide (x≤y)).length=zs.length:=List.length_mergeSort _
  refine ⟨rfl,⟨zs.mergeSort fun x y=>decide (x≤y),hlen,fun d hd=>List.mem_mergeSort.1 hd,ownsRow_sortedI hlen hb hg h3 h4 h5⟩,grownBy_sortedI _⟩
theorem compact_own (base n c:Nat) (A:Option Addr) (zs:List Int) (w:World) (h:w.ownsRow base 3 1 (.slice A n c) n (zs.map kdC)) (hn:n≤1000000) :
 Calls Tryz.prog 46 #[.slice A n c] w fun e w'=>∃ (k:Nat) (ts:List Int),e=.returned (.slice A k c)∧k≤n∧ts.length=k∧(∀ d ∈ ts,d ∈ zs)∧w'.ownsRow base 3 1 (.slice A k c) k (ts.map kdC)∧w.grownBy w' (Value.slice A n c).ownBlock:=by
 have hl:zs.length=n:=by
  have:=h.1
  rwa [List.length_map,Nat.mul_one] at this
 by_cases h0:n=0
 ·subst h0
  have hz:zs=[]:=List.eq_nil_of_length_eq_zero hl
  subst hz
  have hc:=Any.slices_Compact_int_empty cmpLays A c w
  refine Calls.mono (show Calls Tryz.prog 46 #[.slice A 0 c] w _ from hc) ?_
  rintro e w' ⟨rfl,rfl⟩
  exact ⟨0,[],rfl,Nat.le_refl _,rfl,(fun d hd=>by cases hd),h,World.grownBy.refl _ _⟩
 ·rcases h.2 with ⟨h1,h2⟩ | ⟨g,cap,cur,hv,hb,hg,h3,h4,h5,h6⟩
  ·cases h1
   exact absurd rfl h0
  ·cases hv
   subst hl
   rw [Nat.mul_one] at h6
   have hc:=Any.slices_Compact_int cmpLays g 0 c zs w (holds_of_blockI hg h6) (by omega) h3
   refine Calls.mono (show Calls Tryz.prog 46 #[.slice (some ⟨g,0,none⟩) zs.length c] w _ from hc) ?_
   rintro e w' ⟨rfl,q,rfl⟩
   have hle:(Lib.compact zs).length≤zs.length:=(by unfold Lib.compact Lib.compactUpTo;rw [List.length_map];exact Nat.le_trans (List.length_filter_le _ _) (by simp))
   have hlen:(Lib.compact zs ++ List.replicate (zs.length - (Lib.compact zs).length) 0).length=zs.length:=by
    rw [List.length_append,List.length_replicate]
    omega
   have hrow:=ownsRow_sortedI (os:=#[]) (n:=q) hlen hb hg h3 h4 h5
   have hgr:=grownBy_sortedI (w:=w) (g:=g) (n:=q) (os:=#[]) (Lib.compact zs ++ List.replicate (zs.length - (Lib.compact zs).length) 0).toArray
   rw [grow_empty] at hrow hgr
   have hpre:=row_pre hrow (by omega) hle
   rw [Nat.mul_one,← List.map_take,List.take_left' rfl] at hpre
   exact ⟨_,Lib.compact zs,rfl,hle,rfl,fun d hd=>compact_mem zs d hd,hpre,hgr⟩
theorem below_own {w w1 w2:World} {base:Nat} {E:TypeId} {n c:Nat} {A:Option Addr} {us:List Value} (h:Below base w w1) (hr:w1.ownsRow base E 1 (.slice A n c) n us) (hg:w1.grownBy w2 (Value.slice A n c).ownBlock) (hb:base≤w.heap.size):Below base w w2 :=
 ⟨hg.os.trans h.os,hg.tape.trans h.tape,hg.output.trans h.output,Nat.le_trans h.size hg.size,fun k hk=>(hg.block k (by have:=h.size;omega) (fun e=>by have:=(World.ownsRow.lt hr k e.symm).1;omega)).trans (h.block k hk)⟩
theorem tpages_any {rd:Nat→NodeD→Prop} (gv g gen p a hh:Nat) (U V:List Bool) {B N gs gn Ls cs cn:Nat} {rw:Value} {st nw:List UInt8} {ws:List (Nat × List UInt8)} (Pd:Int→Prop) (hrd:∀ a n,rd a n→rdQ nw Ls a n∧Pd (a:Int)) (ht:hh=0∨∃ h n es,hh=h+1∧h≤2∧Tre rd h n es∧rd a n) (w:World) (hv:ViewAt w gv g gen (p:Int) U V) (hd:Dk w B N g gs gn rw Ls cs cn st nw ws true (-1)) :
 Calls Tryz.prog 21 #[.pointer (some ⟨gv,0,none⟩),.agg #[.int .i64 (a:Int),.int .i64 (hh:Int)]] w fun e w'=>∃ (A:Option Addr) (n c:Nat) (ds:List Int),e=.returned (.tuple #[.slice A n c,.int .i64 0])∧ds.length=n∧n≤5000∧(∀ d ∈ ds,Pd d)∧w'.ownsRow w.heap.size 3 1 (.slice A n c) n (ds.map kdC)∧Below w.heap.size w w':=by
 obtain ⟨hi,hhi⟩:∃ hi:Int,hi=(hh:Int):=⟨_,rfl⟩
 rw [← hhi]
 have HVS:Hid (∀ (ga:Nat) (W:World),Below w.heap.size w W→GaP ga w.heap.size [] W→Calls Tryz.prog 32 #[.pointer (some ⟨gv,0,none⟩),.agg #[.int .i64 (a:Int),.int .i64 hi],.func (.func 44) #[] #[.pointer (some ⟨ga,0,none⟩)]] W fun e w'=>e=.returned (.int .i64 0)∧(∃ ds,GaP ga w.heap.size ds w'∧ds.length≤5000∧∀ d ∈ ds,Pd d)∧FrP ga w.heap.size W w'):=Lib.hid (fun ga W hW hG=>by
  rw [hhi]
  rcases ht with h2 | ⟨h,n,es,h1,h2,h3,h4⟩
  ·subst h2
   refine (visitP_zero gv g gen p ga (a:Int) U V W (hv.below hW)).mono ?_
   rintro e w' ⟨rfl,hb⟩
   exact ⟨rfl,⟨[],hG.below hb,by simp,fun d hd=>by cases hd⟩,FrP.of_below hb hW.size hG.lt⟩
  ·have hp:17 ^ (h+1)≤17 ^ 3:=Nat.pow_le_pow_right (by omega) (by omega)
   have h9:=visitP_tree gv g gen p ga w.heap.size U V (B:=B) (N:=N) (gs:=gs) (gn:=gn) (cs:=cs) (cn:=cn) (rw:=rw) (st:=st) (ws:=ws) Pd hrd h a n es h3 h4 (by omega) [] W hG (by simp;omega) (hv.below hW) (hd.below hW)
   rw [h1,show ((h+1:Nat):Int)=(h:Int)+1 from by omega]
   refine h9.mono ?_
   rintro e w' ⟨k1,⟨ds,k2,k3,k4⟩,k5⟩
   exact ⟨k1,⟨ds,k2,by omega,k4⟩,k5⟩)
 obtain ⟨w2,hw2⟩:∃ w2,w2=(w.alloc (.cells #[.int .i64 (a:Int),.int .i64 hi] 43)).alloc (.cells #[.slice none 0 0] 59):=⟨_,rfl⟩
 have G1:Hid (w2.heap[w.heap.size]?=some (.cells #[.int .i64 (a:Int),.int .i64 hi] 43 (0,0))):=Lib.hid (by rw [hw2];exact heap_alloc2_old _ _ _)
 have G2:Hid (w2.heap[w.heap.size+1]?=some (.cells #[.slice none 0 0] 59 (0,0))):=Lib.hid (by rw [hw2];exact heap_alloc2_new _ _ _)
 have B2:Hid (Below w.heap.size w w2):=Lib.hid (by rw [hw2];exact below_two (Below.refl _ _))
 have GG:Hid (GaP (w.heap.size+1) w.heap.size [] w2):=Lib.hid ⟨⟨B2.out.size,Nat.le_succ _⟩,none,0,G2.out,World.ownsRow_nil _ _ _ _⟩
 have HW2:=Lib.hid hw2
 clear hw2 hhi ht hv hd hrd
 go_enter Tryz.func21,Tryz.ntmps21
 go_upto_region 2 with fail
 rw [← HW2.out]
 clear HW2
 go_upto_region 3 with (first
  | (refine wpList_load_row rfl 43 (.tmp 3) rfl w.heap.size rfl 43 _ (0,0) _ G1.out Tryz.underlying43 rfl (by kernel_rfl) ?_)
  | (go_at_call 32;refine (HVS.out _ _ B2.out GG.out).mono ?_;rintro e w3 ⟨rfl,⟨ds,hg3,hl3,hp3⟩,hf3⟩;have G3:=Lib.hid hg3;have F3:=Lib.hid hf3;have HL3:=Lib.hid hl3;have HP3:=Lib.hid hp3;clear hg3 hf3 hl3 hp3))
 obtain ⟨_,A,c,h1,h2⟩:=G3.out
 obtain ⟨n,hn⟩:∃ n,n=ds.length:=⟨_,rfl⟩
 rw [← hn] at h1 h2
 have HN:=Lib.hid hn
 have R3:=Lib.hid h2
 have X3:=Lib.hid h1
 have BW3:Hid (Below w.heap.size w w3):=Lib.hid (by
  have q:=F3.out
  exact B2.out.trans ⟨q.os,q.tape,q.output,q.size,fun k hk=>q.old k hk⟩)
 have z0:=nd_cell h1 0 (.slice A n c) rfl
 have HSO:=Lib.hid (sort_own w.heap.size n c A ds w3 h2 (by have:=HL3.out;omega))
 clear h1 h2 G3 hn
 go_upto_region 6 with (go_at_call 45;refine HSO.out.mono ?_;rintro e w4 ⟨rfl,⟨ts,ht4,hp4,hr4⟩,hg4⟩;have HT4:=Lib.hid ht4;have HP4:=Lib.hid hp4;have R4:=Lib.hid hr4;have GR4:=Lib.hid hg4;clear ht4 hp4 hr4 hg4)
 clear z0
 have X4:=Lib.hid ((typed_kept R3.out GR4.out (by decide) X3.out).trans X3.out)
 have z0:=nd_cell X4.out 0 (.slice A n c) rfl
 have HCO:=Lib.hid (compact_own w.heap.size n c A ts w4 R4.out (by have:=HL3.out;have:=HN.out;omega))
 go_wp2_with (go_at_call 46;refine HCO.out.mono ?_;rintro e w5 ⟨k,us,rfl,hk5,hl5,hp5,hr5,hg5⟩;have HK5:=Lib.hid hk5;have HL5:=Lib.hid hl5;have HP5:=Lib.hid hp5;have R5:=Lib.hid hr5;have GR5:=Lib.hid hg5;clear hk5 hl5 hp5 hr5 hg5)
 go_ret2
 refine ⟨A,k,c,us,rfl,HL5.out,by have:=HK5.out;have:=HN.out;have:=HL3.out;omega,fun d hd=>HP3.out d (HP4.out d (HP5.out d hd)),R5.out,?_⟩
 exact below_own (below_own BW3.out R3.out GR4.out (Nat.le_refl _)) R4.out GR5.out (Nat.le_refl _)
end Go.Proofs.YtgkddhncfaeidaaGreat
namespace Go.Proofs.YtgkddhncfaeidaaGreat
open Go.RowKit Go.ChangeShapes Go.WideShapes Go.ChangeAt CrcM PageM
theorem map_any (gv g gen p:Nat) (U V:List Bool) (hU:U.length=512) (w:World) (hv:ViewAt w gv g gen (p:Int) U V) :
 Calls Tryz.prog 20 #[.pointer (some ⟨gv,0,none⟩)] w fun e w'=>e=.returned (.agg (mapC (p:Int) U))∧Below w.heap.size w w':=by
 obtain ⟨L,eL⟩:∃ L,L=mapL (p:Int) U:=⟨_,rfl⟩
 obtain ⟨C,eC⟩:∃ C:Array Value,C=L.toArray:=⟨_,rfl⟩
 have hCC:mapC (p:Int) U=C:=by rw [eC,eL];rfl
 rw [hCC]
 have hS:Hid (some 513=some C.size):=Lib.hid (by rw [← hCC,size_mapC hU])
 have hO:Hid (C.all (·.oneCell')=true):=Lib.hid (by rw [← hCC];exact one_mapC _ _)
 obtain ⟨w1,hw1⟩:∃ w1,w1=w.alloc (.cells Tryz.zeroCells62 62):=⟨_,rfl⟩
 have G1:Hid (w1.heap[w.heap.size]?=some (.cells Tryz.zeroCells62 62 (0,0))):=Lib.hid (by rw [hw1];exact heap_alloc_new _ _)
 have B1:=Lib.hid (alloc_bel hw1)
 have V1:=Lib.hid (hv.below B1.out)
 have HR:Hid (w1.rangeAt gv 258 L):=Lib.hid (by rw [eL];exact V1.out.cm)
 have HI:Hid ((Tryz.prog.info? 62).map (·.size)=some L.length):=Lib.hid (by rw [eL];exact infoMapL _ hU)
 have EC:=Lib.hid eC
 have HW1:=Lib.hid hw1
 clear hv hU eL eC hCC hw1
 go_enter Tryz.func20,Tryz.ntmps20
 go_upto_region 1 with fail
 rw [← HW1.out]
 clear HW1
 go_upto_region 3 with (go_at_call 26;refine (open_yes gv g gen p U V _ V1.out).mono ?_;rintro e w0 ⟨rfl,rfl⟩)
 go_wp2_with (first
  | (refine wpList_load_mid rfl 62 (.tmp 9) rfl gv 258 rfl L _ HR.out Tryz.underlying62 rfl HI.out ?_;rw [← EC.out])
  | (refine wpList_store_row rfl 62 (.tmp 2) (.tmp 10) rfl w.heap.size C rfl rfl 62 Tryz.zeroCells62 G1.out (infoMap.trans hS.out) (size_zeroMap.trans (Option.some.inj hS.out)) hO.out ?_))
 exact bodyPost_ret (v:=.agg C) (results_cell_row (p:=2) (ty:=62) rfl _ _ w.heap.size 62 C (0,0) _ rfl (setRow_heap _ _ Tryz.zeroCells62 _ _ _ G1.out) Tryz.underlying62 rfl (infoMap.trans hS.out)) rfl ⟨rfl,below_setRow B1.out (Nat.le_refl _) _⟩
theorem takes_no (gv g gen p:Nat) (q:Int) (U V M:List Bool) {B N gs gn Ls cs cn:Nat} {rw:Value} {st nw:List UInt8} {ws:List (Nat × List UInt8)} (hM:M.length=512) (hno:¬ (okM q M∧q=(p:Int))) (hp:Ls / 256=p) (C:Array Value) (hC:C=mapC q M) (w:World) (hv:ViewAt w gv g gen (p:Int) U V) (hd:Dk w B N g gs gn rw Ls cs cn st nw ws true (-1)) :
 Calls Tryz.prog 43 #[.pointer (some ⟨gv,0,none⟩),.agg C] w fun e w'=>e=.returned (.bool false)∧Below w.heap.size w w':=by
 have HV:=Lib.hid hv
 have HD:=Lib.hid hd
 have HM:=Lib.hid hM
 have HP:=Lib.hid hp
 have HC:=Lib.hid hC
 have HC1:Hid (C.size=513):=Lib.hid (by rw [hC];exact size_mapC hM)
 obtain ⟨r,hr⟩:∃ r,r=decide (okM q M):=⟨_,rfl⟩
 have HR:=Lib.hid hr
 have HNO:=Lib.hid hno
 clear hv hd hM hp hC hr hno
 obtain ⟨w1,hw1⟩:∃ w1,w1=w.alloc (.cells C 62):=⟨_,rfl⟩
 have G1:Hid (w1.heap[w.heap.size]?=some (.cells C 62 (0,0))):=Lib.hid (by rw [hw1];exact heap_alloc_new _ _)
 have B1:=Lib.hid (alloc_bel hw1)
 have HV1:=Lib.hid (HV.out.below B1.out)
 have HD1:=Lib.hid (HD.out.below B1.out)
 have HRI:Hid (∀ W,Calls Tryz.prog 66 #[.agg C] W fun e w'=>e=.returned (.bool r)∧Below W.heap.size W w'):=Lib.hid (fun W=>right_bmC q M HM.out W C HC.out r HR.out)
 go_enter Tryz.func43,Tryz.ntmps43
 go_upto_region 1 with fail
 rw [← hw1]
 clear hw1
 have g1:∀ y:SubW w1.heap.size w1,y.at_.heap[w.heap.size]?=some (.cells C 62 (0,0)):=fun y=>row_stays G1.out y.ok_
 have g2:∀ y:SubW w1.heap.size w1,y.at_.cell? ⟨gv,256,none⟩=some (.pointer (some ⟨g,0,none⟩)):=fun y=>(HV1.out.below y.ok_).cd
 have g3:∀ y:SubW w1.heap.size w1,y.at_.cell? ⟨w.heap.size,0,none⟩=some (.int .i64 q):=fun y=>nd_cell (g1 y) 0 _ (by rw [HC.out];exact mapC_0 _ _)
 cases r
 ·refine region_below w1.heap.size w1 (Below.refl _ _) (by kernel_rfl) (by kernel_rfl) ?_
  repeat (first
   | (go_big_quiet_want;refine quiet_load_row 62 (.tmp 3) rfl w.heap.size rfl 62 C (0,0) _ g1 Tryz.underlying62 rfl (by rw [HC1.out];exact infoMap) ?_;simp only [Act.put,List.setIfInBounds_toArray,List.set_cons_zero,List.set_cons_succ];go_big_quiet_on)
   | go_big_quiet_step (first
    | (go_at_call 26;exact calls_sub (Nat.le_refl _) ((open_yes gv g gen p U V _ (HV1.out.below (SubW.ok_ _))).mono (fun e w' h=>⟨h.1,by rw [← h.2];exact Below.refl _ _⟩)))
    | (go_at_call 66;exact calls_sub (Nat.le_refl _) (HRI.out _))
    | (go_at_call 67;exact calls_sub (Nat.le_refl _) ((pages_any (HD1.out.below (SubW.ok_ _))).mono (fun e w' h=>⟨h.1,by rw [← h.2];exact Below.refl _ _⟩)))))
  refine wpQuiet_nil ?_
  rintro w' ⟨y,rfl⟩
  have HY:=Lib.hid (B1.out.trans (y.ok_.mono B1.out.size))
  clear g1 g2 g3
  go_wp2_with fail
  go_ret
  exact ⟨rfl,HY.out⟩
 ·refine region_below w1.heap.size w1 (Below.refl _ _) (by kernel_rfl) (by kernel_rfl) ?_
  repeat (first
   | (go_big_quiet_want;refine quiet_load_row 62 (.tmp 3) rfl w.heap.size rfl 62 C (0,0) _ g1 Tryz.underlying62 rfl (by rw [HC1.out];exact infoMap) ?_;simp only [Act.put,List.setIfInBounds_toArray,List.set_cons_zero,List.set_cons_succ];go_big_quiet_on)
   | go_big_quiet_step (first
    | (go_at_call 26;exact calls_sub (Nat.le_refl _) ((open_yes gv g gen p U V _ (HV1.out.below (SubW.ok_ _))).mono (fun e w' h=>⟨h.1,by rw [← h.2];exact Below.refl _ _⟩)))
    | (go_at_call 66;exact calls_sub (Nat.le_refl _) (HRI.out _))
    | (go_at_call 67;exact calls_sub (Nat.le_refl _) ((pages_any (HD1.out.below (SubW.ok_ _))).mono (fun e w' h=>⟨h.1,by rw [← h.2];exact Below.refl _ _⟩)))))
  refine wpQuiet_nil ?_
  rintro w' ⟨y,rfl⟩
  have HY:=Lib.hid (B1.out.trans (y.ok_.mono B1.out.size))
  clear g1 g2 g3
  go_wp2_with fail
  go_ret
  refine ⟨nd_retB ?_,HY.out⟩
  have h1:=HP.out
  have h2:=HNO.out
  have h3:okM q M:=by have:=HR.out;exact of_decide_eq_true this.symm
  have h4:¬ (q=(p:Int)):=fun h=>h2 ⟨h3,h⟩
  simp only [beq_eq_false_iff_ne,ne_eq]
  omega
theorem setMap_yes (gv g gen p:Nat) (U V M:List Bool) {B N gs gn Ls cs cn:Nat} {rw:Value} {st nw:List UInt8} {ws:List (Nat × List UInt8)} (hU:U.length=512) (hV:V.length=512) (hM:M.length=512) (ok:okM (p:Int) M) (hp:Ls / 256=p) (w:World) (hv:ViewAt w gv g gen (p:Int) U V) (hd:Dk w B N g gs gn rw Ls cs cn st nw ws true (-1)) :
 Calls Tryz.prog 19 #[.pointer (some ⟨gv,0,none⟩),.agg (mapC (p:Int) M)] w fun e w'=>e=.returned (.tuple #[])∧ViewAt w' gv g gen (p:Int) M V∧OuterX (fun k=>k=gv) w w':=by
 obtain ⟨C,hC⟩:∃ C,C=mapC (p:Int) M:=⟨_,rfl⟩
 rw [← hC]
 have HC1:Hid (C.size=513):=Lib.hid (by rw [hC];exact size_mapC hM)
 have HC3:Hid (C.all (·.oneCell')=true):=Lib.hid (by rw [hC];exact one_mapC _ _)
 have HCL:Hid (C.toList=mapL (p:Int) M):=Lib.hid (by rw [hC];rfl)
 obtain ⟨w1,hw1⟩:∃ w1,w1=w.alloc (.cells C 62):=⟨_,rfl⟩
 have G1:Hid (w1.heap[w.heap.size]?=some (.cells C 62 (0,0))):=Lib.hid (by rw [hw1];exact heap_alloc_new _ _)
 have B1:=Lib.hid (alloc_bel hw1)
 have V1:=Lib.hid (hv.below B1.out)
 have HTK:=Lib.hid (takes_yes gv g gen p U V M hM ok hp C hC w1 V1.out (hd.below B1.out))
 have HVL:=Lib.hid hv.lt
 have HUV:=Lib.hid (And.intro hU (And.intro hV hM))
 clear hv hd hC hU hV hM ok
 go_enter Tryz.func19,Tryz.ntmps19
 go_upto_region 1 with fail
 rw [← hw1]
 clear hw1
 go_upto_region 2 with (first
  | (refine wpList_load_row rfl 62 (.tmp 3) rfl w.heap.size rfl 62 C (0,0) _ G1.out Tryz.underlying62 rfl (by rw [HC1.out];exact infoMap) ?_)
  | (go_at_call 43;refine HTK.out.mono ?_;rintro e w2 ⟨rfl,hb2⟩;have G2:=Lib.hid (row_stays G1.out hb2);have V2:=Lib.hid (V1.out.below hb2);have B2:=Lib.hid (B1.out.trans (hb2.mono B1.out.size));have HTH:Hid (w2.there gv 258 C.size):=Lib.hid (V2.out.thM HUV.out.1 HUV.out.2.1 _ HC1.out);clear hb2))
 go_wp2_with (first
  | (refine wpList_load_row rfl 62 (.tmp 3) rfl w.heap.size rfl 62 C (0,0) _ G2.out Tryz.underlying62 rfl (by rw [HC1.out];exact infoMap) ?_)
  | (refine wpList_store_mid rfl 62 (.tmp 10) (.tmp 8) rfl gv 258 C rfl rfl HTH.out (by rw [HC1.out];exact infoMap) HC3.out ?_))
 refine bodyPost_end (results_none rfl _ _ _) rfl ?_
 rw [HCL.out]
 have hS:=V2.out.set (U':=M) (by rw [HUV.out.1,HUV.out.2.2])
 exact ⟨rfl,hS,(outerX_of_below B2.out).grown (grown_setCells gv _ _ _) (fun k hk=>.inl (by cases hk;rfl))⟩
theorem setMap_no (gv g gen p:Nat) (q:Int) (U V M:List Bool) {B N gs gn Ls cs cn:Nat} {rw:Value} {st nw:List UInt8} {ws:List (Nat × List UInt8)} (hM:M.length=512) (hno:¬ (okM q M∧q=(p:Int))) (hp:Ls / 256=p) (w:World) (hv:ViewAt w gv g gen (p:Int) U V) (hd:Dk w B N g gs gn rw Ls cs cn st nw ws true (-1)) :
 Calls Tryz.prog 19 #[.pointer (some ⟨gv,0,none⟩),.agg (mapC q M)] w fun e w'=>e=.returned (.tuple #[])∧Below w.heap.size w w':=by
 obtain ⟨C,hC⟩:∃ C,C=mapC q M:=⟨_,rfl⟩
 rw [← hC]
 have HC1:Hid (C.size=513):=Lib.hid (by rw [hC];exact size_mapC hM)
 obtain ⟨w1,hw1⟩:∃ w1,w1=w.alloc (.cells C 62):=⟨_,rfl⟩
 have G1:Hid (w1.heap[w.heap.size]?=some (.cells C 62 (0,0))):=Lib.hid (by rw [hw1];exact heap_alloc_new _ _)
 have B1:=Lib.hid (alloc_bel hw1)
 have HTK:=Lib.hid (takes_no gv g gen p q U V M hM hno hp C hC w1 (hv.below B1.out) (hd.below B1.out))
 clear hv hd hC hM hno
 go_enter Tryz.func19,Tryz.ntmps19
 go_upto_region 1 with fail
 rw [← hw1]
 clear hw1
 go_wp2_with (first
  | (refine wpList_load_row rfl 62 (.tmp 3) rfl w.heap.size rfl 62 C (0,0) _ G1.out Tryz.underlying62 rfl (by rw [HC1.out];exact infoMap) ?_)
  | (go_at_call 43;refine HTK.out.mono ?_;rintro e w2 ⟨rfl,hb2⟩;have B2:=Lib.hid (B1.out.trans (hb2.mono B1.out.size));clear hb2))
 exact bodyPost_end (results_none rfl _ _ _) rfl ⟨rfl,B2.out⟩
def viewG (D:Option Addr) (gen:Nat) (p1 p2:Int) (U V:List Bool):List Value:=tab.toList ++ (.pointer D :: .int .u64 (gen:Int) :: (mapL p1 U ++ mapL p2 V))
theorem view_builtG (D:Option Addr) (gen:Nat) (p1 p2:Int) (U V:List Bool) (hU:U.length=512) (hV:V.length=512) :
 Tryz.prog.built 105 [(0,.agg tab),(1,.pointer D),(2,.int .u64 (gen:Int)),(3,.agg (mapL p1 U).toArray),(4,.agg (mapL p2 V).toArray)]=some (viewG D gen p1 p2 U V).toArray:=by
 rw [built_view]
 have lU:=mapL_len p1 hU
 have lV:=mapL_len p2 hV
 obtain ⟨Z,hZ⟩:∃ Z,Z=(Tryz.zeroCells105).toList:=⟨_,rfl⟩
 have lZ:Z.length=1284:=by rw [hZ,Array.length_toList];exact size_zeroView
 have e0:Tryz.zeroCells105=([] ++ Z).toArray:=by rw [hZ];simp
 rw [e0]
 rw [fill_next (V:=tab.toList) (by rw [Array.toArray_toList];rfl) (by rw [tab_len];rfl) (by rw [tab_len,lZ];simp)]
 rw [fill_next (V:=[.pointer D]) rfl (by rw [List.nil_append,tab_len];rfl) (by rw [List.length_drop,lZ,tab_len];simp)]
 rw [fill_next (V:=[.int .u64 (gen:Int)]) rfl (by rw [List.nil_append,List.length_append,tab_len];rfl) (by rw [List.length_drop,List.length_drop,lZ,tab_len];simp)]
 rw [fill_next (V:=mapL p1 U) rfl (by rw [List.nil_append,List.length_append,List.length_append,tab_len,lU];rfl) (by rw [List.length_drop,List.length_drop,List.length_drop,lZ,tab_len,lU];simp)]
 rw [fill_next (V:=mapL p2 V) rfl (by rw [List.nil_append,List.length_append,List.length_append,List.length_append,tab_len,lU,lV];rfl) (by rw [List.length_drop,List.length_drop,List.length_drop,List.length_drop,lZ,tab_len,lU,lV];simp)]
 rw [Instr.fill]
 congr 1
 rw [List.drop_drop,List.drop_drop,List.drop_drop,List.drop_drop,List.drop_eq_nil_of_le (by rw [lZ,tab_len,lU,lV];simp)]
 simp [viewG]
theorem open_cell (gv g:Nat) (w:World) (c:w.cell? ⟨gv,256,none⟩=some (.pointer (some ⟨g,0,none⟩))) :
 Calls Tryz.prog 26 #[.pointer (some ⟨gv,0,none⟩)] w fun e w'=>e=.returned (.bool true)∧w=w':=by
 go_enter Tryz.func26,Tryz.ntmps26
 go_wp2_with fail
 go_ret
 exact ⟨rfl,rfl⟩
theorem open_nil (gv:Nat) (w:World) (c:w.cell? ⟨gv,256,none⟩=some (.pointer none)) :
 Calls Tryz.prog 26 #[.pointer (some ⟨gv,0,none⟩)] w fun e w'=>e=.returned (.bool false)∧w=w':=by
 go_enter Tryz.func26,Tryz.ntmps26
 go_wp2_with fail
 go_ret
 exact ⟨rfl,rfl⟩
theorem takesC_no (gv g p:Nat) (q:Int) (M:List Bool) {B N gs gn Ls cs cn:Nat} {rw:Value} {st nw:List UInt8} {ws:List (Nat × List UInt8)} (hM:M.length=512) (hno:¬ (okM q M∧q=(p:Int))) (hp:Ls / 256=p) (C:Array Value) (hC:C=mapC q M) (w:World) (hv:w.cell? ⟨gv,256,none⟩=some (.pointer (some ⟨g,0,none⟩))) (hd:Dk w B N g gs gn rw Ls cs cn st nw ws true (-1)) :
 Calls Tryz.prog 43 #[.pointer (some ⟨gv,0,none⟩),.agg C] w fun e w'=>e=.returned (.bool false)∧Below w.heap.size w w':=by
 have HV:=Lib.hid hv
 have HD:=Lib.hid hd
 have HM:=Lib.hid hM
 have HP:=Lib.hid hp
 have HC:=Lib.hid hC
 have HC1:Hid (C.size=513):=Lib.hid (by rw [hC];exact size_mapC hM)
 obtain ⟨r,hr⟩:∃ r,r=decide (okM q M):=⟨_,rfl⟩
 have HR:=Lib.hid hr
 have HNO:=Lib.hid hno
 clear hv hd hM hp hC hr hno
 obtain ⟨w1,hw1⟩:∃ w1,w1=w.alloc (.cells C 62):=⟨_,rfl⟩
 have G1:Hid (w1.heap[w.heap.size]?=some (.cells C 62 (0,0))):=Lib.hid (by rw [hw1];exact heap_alloc_new _ _)
 have B1:=Lib.hid (alloc_bel hw1)
 have HV1:=Lib.hid ((B1.out.cell (World.block_lt_of_cell? _ _ HV.out)).trans HV.out)
 have HD1:=Lib.hid (HD.out.below B1.out)
 have HRI:Hid (∀ W,Calls Tryz.prog 66 #[.agg C] W fun e w'=>e=.returned (.bool r)∧Below W.heap.size W w'):=Lib.hid (fun W=>right_bmC q M HM.out W C HC.out r HR.out)
 go_enter Tryz.func43,Tryz.ntmps43
 go_upto_region 1 with fail
 rw [← hw1]
 clear hw1
 have g1:∀ y:SubW w1.heap.size w1,y.at_.heap[w.heap.size]?=some (.cells C 62 (0,0)):=fun y=>row_stays G1.out y.ok_
 have g2:∀ y:SubW w1.heap.size w1,y.at_.cell? ⟨gv,256,none⟩=some (.pointer (some ⟨g,0,none⟩)):=fun y=>(y.ok_.cell (p:=⟨gv,256,none⟩) (World.block_lt_of_cell? _ _ HV1.out)).trans HV1.out
 have g3:∀ y:SubW w1.heap.size w1,y.at_.cell? ⟨w.heap.size,0,none⟩=some (.int .i64 q):=fun y=>nd_cell (g1 y) 0 _ (by rw [HC.out];exact mapC_0 _ _)
 cases r
 ·refine region_below w1.heap.size w1 (Below.refl _ _) (by kernel_rfl) (by kernel_rfl) ?_
  repeat (first
   | (go_big_quiet_want;refine quiet_load_row 62 (.tmp 3) rfl w.heap.size rfl 62 C (0,0) _ g1 Tryz.underlying62 rfl (by rw [HC1.out];exact infoMap) ?_;simp only [Act.put,List.setIfInBounds_toArray,List.set_cons_zero,List.set_cons_succ];go_big_quiet_on)
   | go_big_quiet_step (first
    | (go_at_call 26;exact calls_sub (Nat.le_refl _) ((open_cell gv g _ (((SubW.ok_ _).cell (p:=⟨gv,256,none⟩) (World.block_lt_of_cell? _ _ HV1.out)).trans HV1.out)).mono (fun e w' h=>⟨h.1,by rw [← h.2];exact Below.refl _ _⟩)))
    | (go_at_call 66;exact calls_sub (Nat.le_refl _) (HRI.out _))
    | (go_at_call 67;exact calls_sub (Nat.le_refl _) ((pages_any (HD1.out.below (SubW.ok_ _))).mono (fun e w' h=>⟨h.1,by rw [← h.2];exact Below.refl _ _⟩)))))
  refine wpQuiet_nil ?_
  rintro w' ⟨y,rfl⟩
  have HY:=Lib.hid (B1.out.trans (y.ok_.mono B1.out.size))
  clear g1 g2 g3
  go_wp2_with fail
  go_ret
  exact ⟨rfl,HY.out⟩
 ·refine region_below w1.heap.size w1 (Below.refl _ _) (by kernel_rfl) (by kernel_rfl) ?_
  repeat (first
   | (go_big_quiet_want;refine quiet_load_row 62 (.tmp 3) rfl w.heap.size rfl 62 C (0,0) _ g1 Tryz.underlying62 rfl (by rw [HC1.out];exact infoMap) ?_;simp only [Act.put,List.setIfInBounds_toArray,List.set_cons_zero,List.set_cons_succ];go_big_quiet_on)
   | go_big_quiet_step (first
    | (go_at_call 26;exact calls_sub (Nat.le_refl _) ((open_cell gv g _ (((SubW.ok_ _).cell (p:=⟨gv,256,none⟩) (World.block_lt_of_cell? _ _ HV1.out)).trans HV1.out)).mono (fun e w' h=>⟨h.1,by rw [← h.2];exact Below.refl _ _⟩)))
    | (go_at_call 66;exact calls_sub (Nat.le_refl _) (HRI.out _))
    | (go_at_call 67;exact calls_sub (Nat.le_refl _) ((pages_any (HD1.out.below (SubW.ok_ _))).mono (fun e w' h=>⟨h.1,by rw [← h.2];exact Below.refl _ _⟩)))))
  refine wpQuiet_nil ?_
  rintro w' ⟨y,rfl⟩
  have HY:=Lib.hid (B1.out.trans (y.ok_.mono B1.out.size))
  clear g1 g2 g3
  go_wp2_with fail
  go_ret
  refine ⟨nd_retB ?_,HY.out⟩
  have h1:=HP.out
  have h2:=HNO.out
  have h3:okM q M:=by have:=HR.out;exact of_decide_eq_true this.symm
  have h4:¬ (q=(p:Int)):=fun h=>h2 ⟨h3,h⟩
  simp only [beq_eq_false_iff_ne,ne_eq]
  omega
theorem takesC_nil (gv:Nat) (C:Array Value) (hC:C.size=513) (w:World) (hv:w.cell? ⟨gv,256,none⟩=some (.pointer none)) :
 Calls Tryz.prog 43 #[.pointer (some ⟨gv,0,none⟩),.agg C] w fun e w'=>e=.returned (.bool false)∧Below w.heap.size w w':=by
 obtain ⟨w1,hw1⟩:∃ w1,w1=w.alloc (.cells C 62):=⟨_,rfl⟩
 have B1:=Lib.hid (alloc_bel hw1)
 have HV1:=Lib.hid ((B1.out.cell (World.block_lt_of_cell? _ _ hv)).trans hv)
 clear hv
 go_enter Tryz.func43,Tryz.ntmps43
 go_upto_region 1 with fail
 rw [← hw1]
 clear hw1
 refine region_below w1.heap.size w1 (Below.refl _ _) (by kernel_rfl) (by kernel_rfl) ?_
 repeat (go_big_quiet_step (first | (go_at_call 26;exact calls_sub (Nat.le_refl _) ((open_nil gv _ (((SubW.ok_ _).cell (p:=⟨gv,256,none⟩) (World.block_lt_of_cell? _ _ HV1.out)).trans HV1.out)).mono (fun e w' h=>⟨h.1,by rw [← h.2];exact Below.refl _ _⟩)))))
 refine wpQuiet_nil ?_
 rintro w' ⟨y,rfl⟩
 have HY:=Lib.hid (B1.out.trans (y.ok_.mono B1.out.size))
 go_wp2_with fail
 go_ret
 exact ⟨rfl,HY.out⟩
theorem viewG_256 (D:Option Addr) (gen:Nat) (p1 p2:Int) (U V:List Bool):(viewG D gen p1 p2 U V).toArray[256]?=some (.pointer D):=by
 rw [List.getElem?_toArray]
 unfold viewG
 rw [List.getElem?_append_right (by rw [tab_len];exact Nat.le_refl _),tab_len]
 rfl
theorem topen_no (D:Option Addr) (gen:Nat) (p1 p2:Int) (U V:List Bool) (hU:U.length=512) (hV:V.length=512) (CU CV:Array Value) (hCU:CU=mapC p1 U) (hCV:CV=mapC p2 V) (w:World) (htk:∀ gv W,Below w.heap.size w W→W.cell? ⟨gv,256,none⟩=some (.pointer D)→Calls Tryz.prog 43 #[.pointer (some ⟨gv,0,none⟩),.agg CU] W fun e w'=>e=.returned (.bool false)∧Below W.heap.size W w') :
 Calls Tryz.prog 22 #[.agg tab,.pointer D,.int .u64 (gen:Int),.agg CU,.agg CV] w fun e w'=>e=.returned (.tuple #[.pointer none,.int .i64 1])∧Below w.heap.size w w':=by
 have HTU:=Lib.hid htk
 have HU1:Hid (CU.size=513):=Lib.hid (by rw [hCU];exact size_mapC hU)
 have HV1:Hid (CV.size=513):=Lib.hid (by rw [hCV];exact size_mapC hV)
 have HBU:Hid (Tryz.prog.built 105 [(0,.agg tab),(1,.pointer D),(2,.int .u64 (gen:Int)),(3,.agg CU),(4,.agg CV)]=some (viewG D gen p1 p2 U V).toArray):=Lib.hid (by rw [hCU,hCV];exact view_builtG D gen p1 p2 U V hU hV)
 clear htk
 obtain ⟨C,hC⟩:∃ C,C=(viewG D gen p1 p2 U V).toArray:=⟨_,rfl⟩
 rw [← hC] at HBU
 have HC:=Lib.hid hC
 obtain ⟨T,hT⟩:∃ T,T=tab:=⟨_,rfl⟩
 have HT1:Hid (T.size=256):=Lib.hid (by rw [hT];exact size_tab)
 rw [← hT] at HBU ⊢
 clear hU hV hCU hCV hC hT
 go_enter Tryz.func22,Tryz.ntmps22
 go_upto_region 1 with fail
 obtain ⟨w3,hw3⟩:∃ w3,w3=(((w.alloc (.cells T 71)).alloc (.cells CU 62)).alloc (.cells CV 62)):=⟨_,rfl⟩
 have B3:Hid (Below w.heap.size w w3):=Lib.hid (by rw [hw3];exact (((Below.refl _ _).alloc (Nat.le_refl _) _).alloc (by simp) _).alloc (by simp;omega) _)
 have G5:Hid (w3.heap[w.heap.size]?=some (.cells T 71 (0,0))):=Lib.hid (by
  rw [hw3]
  exact row_stays (row_stays (heap_alloc_new w _) (alloc_bel rfl)) (alloc_bel rfl))
 have G8:Hid (w3.heap[w.heap.size+1]?=some (.cells CU 62 (0,0))):=Lib.hid (by
  rw [hw3]
  have h1:=heap_alloc_new (w.alloc (.cells T 71)) (.cells CU 62)
  rw [World.size_alloc] at h1
  exact row_stays h1 (alloc_bel rfl))
 have G9:Hid (w3.heap[w.heap.size+1+1]?=some (.cells CV 62 (0,0))):=Lib.hid (by
  rw [hw3]
  have h1:=heap_alloc_new ((w.alloc (.cells T 71)).alloc (.cells CU 62)) (.cells CV 62)
  rw [World.size_alloc,World.size_alloc] at h1
  exact h1)
 rw [← hw3]
 clear hw3
 go_upto_region 2 with (first
  | (refine wpList_load_row rfl 71 (.tmp 5) rfl w.heap.size rfl 71 T (0,0) _ G5.out Tryz.underlying71 rfl (by rw [HT1.out];exact info64) ?_)
  | (refine wpList_load_row rfl 62 (.tmp 8) rfl (w.heap.size+1) rfl 62 CU (0,0) _ G8.out Tryz.underlying62 rfl (by rw [HU1.out];exact infoMap) ?_)
  | (refine wpList_load_row rfl 62 (.tmp 9) rfl (w.heap.size+1+1) rfl 62 CV (0,0) _ G9.out Tryz.underlying62 rfl (by rw [HV1.out];exact infoMap) ?_)
  | (refine wpList_buildTo rfl 105 _ rfl (some 18) rfl C (by simp only [List.map_toArray,List.map_cons,List.map_nil];exact HBU.out) ?_))
 obtain ⟨gv,hgv⟩:∃ gv,gv=w3.heap.size:=⟨_,rfl⟩
 obtain ⟨w4,hw4⟩:∃ w4,w4=w3.alloc (.cells C 105):=⟨_,rfl⟩
 have B4:=Lib.hid (B3.out.trans ((alloc_bel hw4).mono B3.out.size))
 have HV4:Hid (w4.cell? ⟨gv,256,none⟩=some (.pointer D)):=Lib.hid (nd_cell (by rw [hw4,hgv];exact heap_alloc_new _ _) 256 _ (by rw [HC.out];exact viewG_256 D gen p1 p2 U V))
 have G84:=Lib.hid (row_stays G8.out (alloc_bel hw4))
 have G94:=Lib.hid (row_stays G9.out (alloc_bel hw4))
 have HGV:Hid (w.heap.size≤gv):=Lib.hid (by rw [hgv];exact B3.out.size)
 rw [← hw4,← hgv]
 clear hw4 hgv HBU HC G5 G8 G9 B3
 go_upto_region 3 with (first
  | (refine wpList_load_row rfl 62 (.tmp 8) rfl (w.heap.size+1) rfl 62 CU (0,0) _ G84.out Tryz.underlying62 rfl (by rw [HU1.out];exact infoMap) ?_)
  | (go_at_call 43;refine (HTU.out gv _ B4.out HV4.out).mono ?_;clear HTU;rintro e w5 ⟨rfl,hb5⟩;have B5:=Lib.hid (B4.out.trans (hb5.mono B4.out.size));clear hb5))
 go_wp2_with fail
 go_ret2
 exact ⟨rfl,B5.out⟩
end Go.Proofs.YtgkddhncfaeidaaGreat
