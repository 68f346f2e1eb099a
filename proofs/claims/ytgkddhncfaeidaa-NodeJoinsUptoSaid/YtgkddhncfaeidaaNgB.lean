/- Package node's Get of bytes of a wrong length. -/
import Derived.Test.YtgkddhncfaeidaaNgI
namespace Go.Proofs.Ytgkddhncfaeidaa
open Go.ChangeShapes Go.WideShapes Go.ChangeAt Go.RowKit CrcM PageM
set_option linter.unusedVariables false

set_option maxRecDepth 100000 in
theorem get_none (leaf : Bool) (A : Option Addr) (cap : Nat) (w : World) :
    Calls Try.prog 17 #[.bool leaf, .slice A 0 cap] w fun e w' => e = .returned (.tuple #[.agg zeroNd, .int .i64 3]) ∧ Below w.heap.size w w' := by
  cases leaf
  all_goals
    go_enter Try.func17, Try.ntmps17
    go_wp2_with fail
    exact bodyPost_ret (v := .tuple #[.agg #[.bool false, .slice none 0 0, .slice none 0 0, .slice none 0 0], .int .i64 3]) (results_cell_tmp' (p := 4) (u := 5) (ty := 34) rfl _ _ w.heap.size 34 #[.bool false, .slice none 0 0, .slice none 0 0, .slice none 0 0] (0, 0) _ rfl (heap_alloc_new _ _) Try.underlying34 rfl (by kernel_rfl)) rfl ⟨rfl, (Below.refl _ _).alloc (Nat.le_refl _) _⟩

set_option maxRecDepth 100000 in
theorem get_off (leaf : Bool) (A : Option Addr) (cap len : Nat) (c : UInt8) (b : List UInt8) (w : World) (hx : BytesAt w A (c :: b)) (hlen : len = b.length + 1) (hm : len ≤ 140737488355328) (hbad : b.length ≠ c.toNat * sizeP leaf) :
    Calls Try.prog 17 #[.bool leaf, .slice A len cap] w fun e w' => e = .returned (.tuple #[.agg zeroNd, .int .i64 3]) ∧ Below w.heap.size w w' := by
  obtain ⟨n, hn⟩ : ∃ n, n = c.toNat := ⟨_, rfl⟩
  have hn8 : n < 256 := by rw [hn]; exact c.toNat_lt
  rw [← hn] at hbad
  obtain ⟨g, o, rfl, hcell⟩ := hx (by simp)
  have c0 : w.cell? ⟨g, o, none⟩ = some (.int .u8 (n : Int)) := by have := hcell 0 (by simp); rw [hn]; simpa using this
  have hgl := World.block_lt_of_cell? _ _ c0
  have d1 : ((len : Int) == 0) = false := by rw [beq_eq_false_iff_ne]; omega
  have hpos : 0 < len := by omega
  cases leaf with
  | true =>
    have hb : b.length ≠ n * 30 := by simpa [sizeP] using hbad
    have d2 : ((len : Int) != 1 + (n : Int) * 30) = true := by simp; omega
    have hw1 : wrap64 ((n : Int) * 30) = (n : Int) * 30 := IntWalk.wrap64_in _ ⟨by omega, by omega⟩
    have hw2 : wrap64 (1 + (n : Int) * 30) = 1 + (n : Int) * 30 := IntWalk.wrap64_in _ ⟨by omega, by omega⟩
    clear hx hcell hn hbad hb hlen
    go_enter Try.func17, Try.ntmps17
    go_wp2_with fail
    exact bodyPost_ret (v := .tuple #[.agg #[.bool false, .slice none 0 0, .slice none 0 0, .slice none 0 0], .int .i64 3]) (results_cell_tmp' (p := 4) (u := 5) (ty := 34) rfl _ _ w.heap.size 34 #[.bool false, .slice none 0 0, .slice none 0 0, .slice none 0 0] (0, 0) _ rfl (heap_alloc_new _ _) Try.underlying34 rfl (by kernel_rfl)) rfl ⟨rfl, (Below.refl _ _).alloc (Nat.le_refl _) _⟩
  | false =>
    have hb : b.length ≠ n * 14 := by simpa [sizeP] using hbad
    have d2 : ((len : Int) != 1 + (n : Int) * 14) = true := by simp; omega
    have hw1 : wrap64 ((n : Int) * 14) = (n : Int) * 14 := IntWalk.wrap64_in _ ⟨by omega, by omega⟩
    have hw2 : wrap64 (1 + (n : Int) * 14) = 1 + (n : Int) * 14 := IntWalk.wrap64_in _ ⟨by omega, by omega⟩
    clear hx hcell hn hbad hb hlen
    go_enter Try.func17, Try.ntmps17
    go_wp2_with fail
    exact bodyPost_ret (v := .tuple #[.agg #[.bool false, .slice none 0 0, .slice none 0 0, .slice none 0 0], .int .i64 3]) (results_cell_tmp' (p := 4) (u := 5) (ty := 34) rfl _ _ w.heap.size 34 #[.bool false, .slice none 0 0, .slice none 0 0, .slice none 0 0] (0, 0) _ rfl (heap_alloc_new _ _) Try.underlying34 rfl (by kernel_rfl)) rfl ⟨rfl, (Below.refl _ _).alloc (Nat.le_refl _) _⟩
end Go.Proofs.Ytgkddhncfaeidaa
