/- Small calls of package page and of its reference: their contracts. -/
import Derived.Test.YtmmkmpjhmbocfaaPut
namespace Go.Proofs.Ytmmkmpjhmbocfaa
open Go.RowKit CrcM PageM
set_option linter.unusedVariables false

theorem isK_cases (k : UInt8) : isK k = (((k.toNat : Int) == 83) || (((k.toNat : Int) == 76) || (((k.toNat : Int) == 73) || ((k.toNat : Int) == 66)))) := by
  have e : ∀ n : UInt8, (k == n) = ((k.toNat : Int) == (n.toNat : Int)) := fun n => by
    rw [Bool.eq_iff_iff, beq_iff_eq, beq_iff_eq]
    constructor
    · rintro rfl; rfl
    · intro h; exact UInt8.toNat_inj.1 (by omega)
  unfold isK
  rw [e 83, e 76, e 73, e 66, Bool.or_assoc, Bool.or_assoc]
  rfl

theorem isKind_any (k : UInt8) (w : World) : Calls Try.prog 69 #[.int .u8 (k.toNat : Int)] w fun e w' => e = .returned (.bool (isK k)) ∧ w = w' := by
  have e := isK_cases k
  generalize isK k = b at *
  generalize k.toNat = n at *
  go_enter Try.func69, Try.ntmps69
  by_cases h1 : n = 83
  · subst h1
    have E := Lib.hid e
    clear e
    go_wp2
    go_ret
    exact ⟨by rw [E.out]; rfl, rfl⟩
  · have b1 : ((n : Int) == 83) = false := by simp; omega
    by_cases h2 : n = 76
    · subst h2
      have E := Lib.hid e
      clear e
      go_wp2
      go_ret
      exact ⟨by rw [E.out]; rfl, rfl⟩
    · have b2 : ((n : Int) == 76) = false := by simp; omega
      by_cases h3 : n = 73
      · subst h3
        have E := Lib.hid e
        clear e
        go_wp2
        go_ret
        exact ⟨by rw [E.out]; rfl, rfl⟩
      · have b3 : ((n : Int) == 73) = false := by simp; omega
        have E := Lib.hid e
        clear e
        go_wp2
        all_goals go_ret
        all_goals exact ⟨by rw [E.out, b1, b2, b3]; simp [*], rfl⟩
theorem kind_any (k : UInt8) (w : World) : Calls Try.prog 58 #[.int .u8 (k.toNat : Int)] w fun e w' => e = .returned (.bool (isK k)) ∧ w = w' := by
  have e := isK_cases k
  generalize isK k = b at *
  generalize k.toNat = n at *
  go_enter Try.func58, Try.ntmps58
  by_cases h1 : n = 83
  · subst h1
    have E := Lib.hid e
    clear e
    go_wp2
    go_ret
    exact ⟨by rw [E.out]; rfl, rfl⟩
  · have b1 : ((n : Int) == 83) = false := by simp; omega
    by_cases h2 : n = 76
    · subst h2
      have E := Lib.hid e
      clear e
      go_wp2
      go_ret
      exact ⟨by rw [E.out]; rfl, rfl⟩
    · have b2 : ((n : Int) == 76) = false := by simp; omega
      by_cases h3 : n = 73
      · subst h3
        have E := Lib.hid e
        clear e
        go_wp2
        go_ret
        exact ⟨by rw [E.out]; rfl, rfl⟩
      · have b3 : ((n : Int) == 73) = false := by simp; omega
        have E := Lib.hid e
        clear e
        go_wp2
        all_goals go_ret
        all_goals exact ⟨by rw [E.out, b1, b2, b3]; simp [*], rfl⟩

theorem beq_bytes (xs ys : List UInt8) : (xs == ys) = decide (xs = ys) := by
  rw [Bool.eq_iff_iff, beq_iff_eq, decide_eq_true_iff]

theorem equal_any (A B : Option Addr) (c d n m : Nat) (xs ys : List UInt8) (w : World) (hn : xs.length = n) (hm : ys.length = m) (hx : BytesAt w A xs) (hy : BytesAt w B ys) :
    Calls Try.prog 74 #[.slice A n c, .slice B m d] w fun e w' => e = .returned (.bool (decide (xs = ys))) ∧ w = w' := by
  subst hn
  subst hm
  have e1 := run_text (P := Try.prog) 27 9 Try.underlying27 Try.underlying5 Try.underlying9 A c hx
  have e2 := run_text (P := Try.prog) 27 9 Try.underlying27 Try.underlying5 Try.underlying9 B d hy
  go_enter Try.func74, Try.ntmps74
  go_wp2_with fail
  go_ret
  refine ⟨ret_eq ?_, rfl⟩
  exact congrArg Value.bool (beq_bytes xs ys)

theorem size_page : (Try.prog.info? 66).map (·.size) = some 4 := by kernel_rfl
theorem size_refPage : (Try.prog.info? 58).map (·.size) = some 4 := by kernel_rfl

theorem to_any (v0 v1 v2 : Int) (A : Option Addr) (n c : Nat) (w : World) :
    Calls Try.prog 32 #[.agg #[.int .u8 v0, .int .i64 v1, .int .u64 v2, .slice A n c]] w fun e w' => e = .returned (.agg #[.int .u8 v0, .int .i64 v1, .int .u64 v2, .slice A n c]) ∧ Below w.heap.size w w' := by
  go_enter Try.func32, Try.ntmps32
  go_wp2
  exact bodyPost_ret (v := .agg #[.int .u8 v0, .int .i64 v1, .int .u64 v2, .slice A n c]) (results_cell_row (p := 2) (ty := 66) rfl _ _ (w.heap.size + 1) 66 #[.int .u8 v0, .int .i64 v1, .int .u64 v2, .slice A n c] (0, 0) _ rfl (heap_alloc2_new _ _ _) Try.underlying66 rfl size_page) rfl
    ⟨rfl, ((Below.refl _ _).alloc (Nat.le_refl _) _).alloc (by simp) _⟩

theorem from_any (v0 v1 v2 : Int) (A : Option Addr) (n c : Nat) (w : World) :
    Calls Try.prog 38 #[.agg #[.int .u8 v0, .int .i64 v1, .int .u64 v2, .slice A n c]] w fun e w' => e = .returned (.agg #[.int .u8 v0, .int .i64 v1, .int .u64 v2, .slice A n c]) ∧ Below w.heap.size w w' := by
  go_enter Try.func38, Try.ntmps38
  go_wp2
  exact bodyPost_ret (v := .agg #[.int .u8 v0, .int .i64 v1, .int .u64 v2, .slice A n c]) (results_cell_row (p := 2) (ty := 58) rfl _ _ (w.heap.size + 1) 58 #[.int .u8 v0, .int .i64 v1, .int .u64 v2, .slice A n c] (0, 0) _ rfl (heap_alloc2_new _ _ _) Try.underlying58 rfl size_refPage) rfl
    ⟨rfl, ((Below.refl _ _).alloc (Nat.le_refl _) _).alloc (by simp) _⟩

theorem same_any (v0 v1 v2 : Int) (A B : Option Addr) (n m c d : Nat) (xs : List UInt8) (w : World) (hn : xs.length = n) (hm : n = m) (hx : BytesAt w A xs) (hy : BytesAt w B xs) :
    Calls Try.prog 37 #[.agg #[.int .u8 v0, .int .i64 v1, .int .u64 v2, .slice A n c], .agg #[.int .u8 v0, .int .i64 v1, .int .u64 v2, .slice B m d]] w fun e w' => e = .returned (.bool true) ∧ Below w.heap.size w w' := by
  subst hm
  subst hn
  have e1 := fun (w' : World) (hb : Below w.heap.size w w') => run_text (P := Try.prog) 27 9 Try.underlying27 Try.underlying5 Try.underlying9 A c (hx.below hb)
  have e2 := fun (w' : World) (hb : Below w.heap.size w w') => run_text (P := Try.prog) 27 9 Try.underlying27 Try.underlying5 Try.underlying9 B d (hy.below hb)
  have hb : Below w.heap.size w ((w.alloc (.cells #[.int .u8 v0, .int .i64 v1, .int .u64 v2, .slice A xs.length c] 58)).alloc (.cells #[.int .u8 v0, .int .i64 v1, .int .u64 v2, .slice B xs.length d] 58)) := ((Below.refl _ _).alloc (Nat.le_refl _) _).alloc (by simp) _
  have e3 := e1 _ hb
  have e4 := e2 _ hb
  clear e1 e2
  go_enter Try.func37, Try.ntmps37
  go_wp2
  go_ret
  exact ⟨rfl, hb⟩
end Go.Proofs.Ytmmkmpjhmbocfaa
