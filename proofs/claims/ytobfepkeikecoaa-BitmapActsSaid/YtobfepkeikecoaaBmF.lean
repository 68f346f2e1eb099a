/- Package bitmap's calls: their contracts. -/
import Derived.Test.YtobfepkeikecoaaBmM
import Derived.Test.YtobfepkeikecoaaGrow
import Derived.Lib.MinMax
import Derived.Lib.SlBytesConst
import Derived.Lib.BufferMore
import Derived.KernelRfl
import Derived.Handy
import Derived.WalkSpells
import Derived.WalkLawsBesides
import Derived.Test.YtobfepkeikecoaaChecked
namespace Go.Proofs.Ytobfepkeikecoaa
open Go.RowKit
set_option linter.unusedVariables false

theorem infoMap : (Try.prog.info? 25).map (·.size) = some 513 := by kernel_rfl
theorem size_zeroMap : (Try.zeroCells25).size = 513 := by kernel_rfl
theorem below_setCM {B : Nat} {a w : World} (h : Below B a w) {g i : Nat} {v : Value} (hg : B ≤ g) : Below B a (w.setCell ⟨g, i, none⟩ v) :=
  h.trans ⟨rfl, rfl, rfl, by simp, fun k hk => Below.heap_setCell w ⟨g, i, none⟩ v k (fun e => by simp at e; omega)⟩

set_option maxRecDepth 100000 in
theorem marked_any (p : Int) (U : List Bool) (hU : U.length = 512) (za zn : Int) (a n : Nat) (hza : za = (a : Int)) (hzn : zn = (n : Int)) (han : a + n ≤ 512) (b : Bool) (w : World) :
    Calls Try.prog 39 #[.agg (mapC p U), .int .i64 za, .int .i64 zn, .bool b] w fun e w' => e = .returned (.agg (mapC p (markN U a b n))) ∧ Below w.heap.size w w' := by
  subst hza hzn
  obtain ⟨C, eC⟩ : ∃ C, C = mapC p U := ⟨_, rfl⟩
  have hm0 : Hid (MapAt ((w.alloc (.cells C 25)).alloc (.cells Try.zeroCells25 25)) w.heap.size 25 p U) := Lib.hid (by rw [eC]; exact (MapAt.new w _ p U).alloc _)
  have hz0 : Hid (((w.alloc (.cells C 25)).alloc (.cells Try.zeroCells25 25)).heap[w.heap.size + 1]? = some (.cells Try.zeroCells25 25 (0, 0))) := Lib.hid (by have := heap_alloc_new (w.alloc (.cells C 25)) (.cells Try.zeroCells25 25); simpa using this)
  have hb0 : Hid (Below w.heap.size w ((w.alloc (.cells C 25)).alloc (.cells Try.zeroCells25 25))) := Lib.hid (((Below.refl _ _).alloc (Nat.le_refl _) _).alloc (by simp) _)
  rw [← eC]
  clear eC
  go_enter Try.func39, Try.ntmps39
  go_wp2_with fail
  go_loopw [11] (fun i wr => ∃ k : Nat, k ≤ n ∧ i = .int .i64 k ∧ Hid (MapAt wr w.heap.size 25 p (markN U a b k)) ∧ Hid (wr.heap[w.heap.size + 1]? = some (.cells Try.zeroCells25 25 (0, 0))) ∧ Hid (Below w.heap.size w wr)) (fun i _ => n - (intOf i).toNat)
  case atStart => exact ⟨0, by omega, rfl, hm0, hz0, hb0⟩
  case round =>
    obtain ⟨k, hk, rfl, hm, hz, hB⟩ := hrel
    by_cases hlt : k < n
    · have hc := hm.out.cs (a + k) (by rw [length_markN, hU]; omega)
      have hf := hm.out.fr (1 + (a + k))
      go_wp2_with fail
      go_roundw
      case rel => exact ⟨k + 1, by omega, by go_num, Lib.hid (hm.out.set (a + k) b), Lib.hid ((heap_setCell_other wr ⟨w.heap.size, 1 + (a + k), none⟩ (w.heap.size + 1) _ (by show w.heap.size + 1 ≠ w.heap.size; omega)).trans hz.out), Lib.hid (below_setCM hB.out (Nat.le_refl _))⟩
      case measure => simp [intOf]; omega
    · obtain rfl : k = n := by omega
      have hS : Hid (some 513 = some (mapC p (markN U a b k)).size) := Lib.hid (by rw [size_mapC (by rw [length_markN, hU])])
      obtain ⟨C', eC'⟩ : ∃ C', C' = mapC p (markN U a b k) := ⟨_, rfl⟩
      have hm' := hm.out
      unfold MapAt at hm'
      rw [← eC'] at hS hm'
      have EC' := Lib.hid eC'
      have HM := Lib.hid hm'
      have hC1 : C'.all (·.oneCell') = true := by rw [eC']; exact one_mapC _ _
      clear hm' eC'
      go_wp2_with (first
        | (refine wpList_load_row rfl 25 (.tmp 4) rfl w.heap.size rfl 25 C' (0, 0) _ HM.out Try.underlying25 rfl (infoMap.trans hS.out) ?_)
        | (refine wpList_store_row rfl 25 (.tmp 8) (.tmp 21) rfl (w.heap.size + 1) C' rfl rfl 25 Try.zeroCells25 hz.out (infoMap.trans hS.out) (size_zeroMap.trans (Option.some.inj hS.out)) hC1 ?_))
      refine bodyPost_ret (v := .agg C') (results_cell_row (p := 8) (ty := 25) rfl _ _ (w.heap.size + 1) 25 C' (0, 0) _ rfl (setRow_heap _ _ Try.zeroCells25 _ _ _ hz.out) Try.underlying25 rfl (infoMap.trans hS.out)) rfl ⟨by rw [EC'.out], ?_⟩
      exact below_setRow hB.out (Nat.le_succ _) _
end Go.Proofs.Ytobfepkeikecoaa
