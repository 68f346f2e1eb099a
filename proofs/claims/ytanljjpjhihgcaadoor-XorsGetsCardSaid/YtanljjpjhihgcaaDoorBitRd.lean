/- The Reader of package bits: its calls' contracts. -/
import Derived.Test.YtanljjpjhihgcaaDoorVar
import Derived.Test.YtanljjpjhihgcaaDoorPi
import Derived.Test.YtanljjpjhihgcaaDoorBitL
import Derived.IntWalk
namespace Go.Proofs.YtanljjpjhihgcaaDoor
open Go.RowKit BitM
set_option linter.unusedVariables false

/-- A count of bits as it is taken. -/
def wi (n : Int) : Nat := min n.toNat 64
theorem wi_le (n : Int) : wi n ≤ 64 := by unfold wi; omega
theorem wi_val (n : Int) : min (max n 0) 64 = ((wi n : Nat) : Int) := by unfold wi; omega

theorem within_any (n : Int) (w : World) : Calls Tryd.prog 57 #[.int .i64 n] w fun e w' => e = .returned (.int .i64 (wi n : Int)) ∧ w = w' := by
  have h := wi_val n
  go_enter Tryd.func57, Tryd.ntmps57
  go_wp2_with fail
  go_ret
  exact ⟨by rw [← h]; rfl, rfl⟩

theorem low_any (n : Nat) (hn : n ≤ 64) (w : World) : Calls Tryd.prog 58 #[.int .i64 (n : Int)] w fun e w' => e = .returned (.int .u64 ((2 ^ n - 1 : Nat) : Int)) ∧ w = w' := by
  have h : IntKind.u64.wrap (IntKind.u64.wrap (1 * 2 ^ n) - 1) = ((2 ^ n - 1 : Nat) : Int) := by
    rcases Nat.lt_or_ge n 64 with h | h
    · have h1 : 2 ^ n ≤ 2 ^ 63 := Nat.pow_le_pow_right (by omega) (by omega)
      have h2 : 0 < 2 ^ n := Nat.pow_pos (by omega)
      have h3 : ((2 : Int) ^ n) = ((2 ^ n : Nat) : Int) := by simp
      rw [IntKind.wrap_u64, IntKind.wrap_u64, h3]
      omega
    · obtain rfl : n = 64 := by omega
      decide
  go_enter Tryd.func58, Tryd.ntmps58
  go_wp2_with fail
  go_ret
  rw [Int.one_mul] at h
  exact ⟨by rw [← h]; rfl, rfl⟩

/-- A Reader lies in block g. -/
def RdAt (w : World) (g : Nat) (A : Option Addr) (n c p : Nat) (bad : Bool) : Prop := w.heap[g]? = some (.cells #[.slice A n c, .int .i64 (p : Int), .bool bad] 94 (0, 0))

theorem new_any (A : Option Addr) (n c : Nat) (w : World) : Calls Tryd.prog 40 #[.slice A n c] w fun e w' => e = .returned (.pointer (some ⟨w.heap.size, 0, none⟩)) ∧ RdAt w' w.heap.size A n c 0 false ∧ w.heap.size < w'.heap.size ∧ Below w.heap.size w w' := by
  go_enter Tryd.func40, Tryd.ntmps40
  go_wp2_with fail
  go_ret
  exact ⟨rfl, heap_alloc_new _ _, by simp, (Below.refl _ _).alloc (Nat.le_refl _) _⟩

theorem RdAt.cells {w : World} {g : Nat} {A : Option Addr} {n c p : Nat} {bad : Bool} (h : RdAt w g A n c p bad) :
    w.cell? ⟨g, 0, none⟩ = some (.slice A n c) ∧ w.cell? ⟨g, 1, none⟩ = some (.int .i64 (p : Int)) ∧ w.cell? ⟨g, 2, none⟩ = some (.bool bad) ∧
    w.frozen? ⟨g, 0, none⟩ = false ∧ w.frozen? ⟨g, 1, none⟩ = false ∧ w.frozen? ⟨g, 2, none⟩ = false ∧ g < w.heap.size := by
  unfold RdAt at h
  refine ⟨?_, ?_, ?_, ?_, ?_, ?_, (Array.getElem?_eq_some_iff.1 h).1⟩ <;> simp [World.cell?, World.frozen?, h]

theorem bad_any (g : Nat) (A : Option Addr) (n c p : Nat) (bad : Bool) (w : World) (h : RdAt w g A n c p bad) : Calls Tryd.prog 43 #[.pointer (some ⟨g, 0, none⟩)] w fun e w' => e = .returned (.bool bad) ∧ w = w' := by
  obtain ⟨c0, c1, c2, _⟩ := h.cells
  go_enter Tryd.func43, Tryd.ntmps43
  go_wp2_with fail
  go_ret
  exact ⟨rfl, rfl⟩
theorem bad_nil (w : World) : Calls Tryd.prog 43 #[.pointer none] w fun e w' => e = .returned (.bool true) ∧ w = w' := by
  go_enter Tryd.func43, Tryd.ntmps43
  go_wp2_with fail
  go_ret
  exact ⟨rfl, rfl⟩
theorem left_nil (w : World) : Calls Tryd.prog 44 #[.pointer none] w fun e w' => e = .returned (.int .i64 0) ∧ w = w' := by
  go_enter Tryd.func44, Tryd.ntmps44
  go_wp2_with fail
  go_ret
  exact ⟨rfl, rfl⟩
theorem left_any (g : Nat) (A : Option Addr) (n c p : Nat) (bad : Bool) (w : World) (h : RdAt w g A n c p bad) (hn : n ≤ 1000000000) (hp : p ≤ 8 * n) :
    Calls Tryd.prog 44 #[.pointer (some ⟨g, 0, none⟩)] w fun e w' => e = .returned (.int .i64 ((8 * n - p : Nat) : Int)) ∧ Below w.heap.size w w' := by
  obtain ⟨c0, c1, c2, _⟩ := h.cells
  have s1 : IntKind.i64.wrap ((n : Int) * 8) = (n : Int) * 8 := IntWalk.i64_in _ (by omega)
  have s2 : IntKind.i64.wrap ((n : Int) * 8 - (p : Int)) = ((8 * n - p : Nat) : Int) := by rw [IntWalk.i64_in _ (by omega)]; omega
  go_enter Tryd.func44, Tryd.ntmps44
  go_wp2_with fail
  go_quiet (fail)
  go_wp2_with fail
  go_ret
  exact ⟨rfl, below_drewN (Below.refl _ _) _⟩
end Go.Proofs.YtanljjpjhihgcaaDoor
