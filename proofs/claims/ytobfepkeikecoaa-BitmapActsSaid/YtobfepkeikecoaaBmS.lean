/- The statements' small test takes: it is true in every world. -/
import Derived.Test.YtobfepkeikecoaaBmG
namespace Go.Proofs.Ytobfepkeikecoaa
open Go.RowKit
set_option linter.unusedVariables false

theorem take_yes (p : Nat) (U V : List Bool) (hU : U.length = 512) (hV : V.length = 512) (okU : okM (p : Int) U) (okV : okM (p : Int) V) (zn : Int) (n : Nat) (hzn : zn = (n : Int)) (hn1 : 1 ≤ n) (a : Nat) (hfit : fits p U V n a) (hleast : ∀ a', a' < a → ¬ fits p U V n a') (w : World) (C D : Array Value) (eC : C = mapC (p : Int) U) (eD : D = mapC (p : Int) V) :
    Calls Try.prog 12 #[.agg C, .agg D, .int .i64 zn] w fun e w' => e = .returned (.tuple #[.agg (mapC (p : Int) (markN U a true n)), .int .i64 (a : Int), .int .i64 0]) ∧ Below w.heap.size w w' := by
  subst hzn
  refine (take_bm p U V hU hV okU okV n hn1 w C D eC eD).mono fun e w' ⟨hr, hb⟩ => ⟨?_, hb⟩
  rcases hr with ⟨a', h1, h2, h3⟩ | ⟨h1, _⟩
  · rcases Nat.lt_trichotomy a a' with h | h | h
    · exact absurd hfit (h2 a h)
    · rw [h]; exact h3
    · exact absurd h1 (hleast a' h)
  · exact absurd hfit (h1 a)
theorem take_no (p : Nat) (U V : List Bool) (hU : U.length = 512) (hV : V.length = 512) (okU : okM (p : Int) U) (okV : okM (p : Int) V) (zn : Int) (n : Nat) (hzn : zn = (n : Int)) (hn1 : 1 ≤ n) (hno : ∀ a, ¬ fits p U V n a) (w : World) (C D : Array Value) (eC : C = mapC (p : Int) U) (eD : D = mapC (p : Int) V) :
    Calls Try.prog 12 #[.agg C, .agg D, .int .i64 zn] w fun e w' => e = .returned (.tuple #[.agg Try.zeroCells25, .int .i64 0, .int .i64 5]) ∧ Below w.heap.size w w' := by
  subst hzn
  refine (take_bm p U V hU hV okU okV n hn1 w C D eC eD).mono fun e w' ⟨hr, hb⟩ => ⟨?_, hb⟩
  rcases hr with ⟨a', h1, _⟩ | ⟨_, h1⟩
  · exact absurd h1 (hno a')
  · exact h1

def map6 : List Bool := markN map0 2 true 6
theorem ok_map0 : okM 8 map0 := by
  refine ⟨by omega, by omega, ?_⟩
  have : ((List.range 512).all fun j => okAt 8 map0 j) = true := by decide +kernel
  intro j hj
  exact List.all_eq_true.1 this j (List.mem_range.2 hj)
theorem ok_map6 : okM 8 map6 := by
  refine ⟨by omega, by omega, ?_⟩
  have : ((List.range 512).all fun j => okAt 8 map6 j) = true := by decide +kernel
  intro j hj
  exact List.all_eq_true.1 this j (List.mem_range.2 hj)
theorem length_map6 : map6.length = 512 := by unfold map6; rw [length_markN, length_map0]
theorem map0_0 : map0.getD 0 false = true := by decide +kernel
theorem map0_1 : map0.getD 1 false = true := by decide +kernel
theorem map0_free : ∀ j, j < 6 → map0.getD (2 + j) false = false := by decide +kernel
theorem map6_used : ∀ j, j < 8 → map6.getD j false = true := by decide +kernel
theorem fits_map0 : fits 8 map0 map0 6 2 := ⟨by omega, fun j hj => ⟨map0_free j hj, map0_free j hj⟩⟩
theorem least_map0 : ∀ a, a < 2 → ¬ fits 8 map0 map0 6 a := by
  intro a ha h
  have := (h.2 0 (by omega)).1
  have hh : a = 0 ∨ a = 1 := by omega
  rcases hh with rfl | rfl
  · rw [Nat.add_zero, map0_0] at this; cases this
  · rw [Nat.add_zero, map0_1] at this; cases this
theorem none_map6 : ∀ a, ¬ fits 8 map6 map6 1 a := by
  intro a h
  have := (h.2 0 (by omega)).1
  rw [Nat.add_zero, map6_used a (by have := h.1; omega)] at this
  cases this
theorem free_map0 : 6 = freeN map0 8 := by decide +kernel
theorem free_map6 : 0 = freeN map6 8 := by decide +kernel
theorem run_map0 : 6 = (runF map0 map0 8).1 := by decide +kernel

end Go.Proofs.Ytobfepkeikecoaa
