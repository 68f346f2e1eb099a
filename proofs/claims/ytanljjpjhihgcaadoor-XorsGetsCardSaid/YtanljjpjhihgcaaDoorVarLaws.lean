/- The statements' small test of layer 5, and the walks of VarintZigs, VarintLengths, VarintRows. -/
import Derived.Test.YtanljjpjhihgcaaDoorVarPut
namespace Go.Proofs.YtanljjpjhihgcaaDoor
open Go.RowKit VarM
set_option linter.unusedVariables false

theorem bytesAt_block {w : World} {g : Nat} {t : TypeId} {fr : Nat × Nat} (xs : List UInt8) (h : w.heap[g]? = some (.cells (xs.map fun c => Value.int .u8 (c.toNat : Int)).toArray t fr)) : BytesAt w (some ⟨g, 0, none⟩) xs := fun _ =>
  ⟨g, 0, rfl, fun k hk => by rw [cell_of_row w g (0 + k) _ t fr h]; simp [hk]⟩

theorem text_n {w : World} (A : Option Addr) (n c : Nat) (xs : List UInt8) (hn : xs.length = n) (hA : BytesAt w A xs) :
    (convert 24 9 (.slice A n c)).run Tryd.prog w = .ok (.string ⟨xs.toArray⟩) w := by
  subst hn
  exact run_text (P := Tryd.prog) 24 9 Tryd.underlying24 Tryd.underlying5 Tryd.underlying9 A c hA

theorem get_lit (g : Nat) (w : World) (h : w.heap[g]? = some (.cells #[.int .u8 172, .int .u8 2] 5 (0, 0))) :
    Calls Tryd.prog 72 #[.slice (some ⟨g, 0, none⟩) 2 2] w fun e w' => e = .returned (.tuple #[.int .u64 300, .int .i64 2, .int .i64 0]) ∧ w = w' :=
  get_any _ 2 2 [172, 2] w rfl (bytesAt_block [172, 2] h)

theorem vput300 : vput 300 = [172, 2] := by rw [vput_high (by omega), vput_low (by omega)]; rfl

theorem put_lit (w : World) : Calls Tryd.prog 49 #[.slice none 0 0, .int .u64 300] w fun e w' => ∃ A' c', e = .returned (.slice A' 2 c') ∧ BytesAt w' A' [172, 2] ∧ Below w.heap.size w w' := by
  refine (put_any none 0 0 [] w rfl (fun h => absurd rfl h) (by omega) (fun _ => ⟨rfl, rfl⟩) 300 (by omega)).mono ?_
  rintro e w' ⟨A', c', rfl, ho, hb⟩
  rw [List.nil_append, vput300] at *
  obtain ⟨A2, c2, he, hby, _⟩ := ho.slice
  injection he with h1 h2 h3
  subst h1
  exact ⟨A', c', rfl, hby, hb⟩

theorem zig_lit (w : World) : Calls Tryd.prog 50 #[.int .i64 (-1)] w fun e w' => e = .returned (.int .u64 1) ∧ w = w' := zig_any (-1) (by omega) (by omega) w
theorem zag_lit (w : World) : Calls Tryd.prog 73 #[.int .u64 1] w fun e w' => e = .returned (.int .i64 (-1)) ∧ w = w' := zag_any 1 (by omega) w

theorem zig_any' (n : Int) (h1 : -9223372036854775808 ≤ n) (h2 : n ≤ 9223372036854775807) (z : Nat) (hz : zig n = z) (w : World) : Calls Tryd.prog 50 #[.int .i64 n] w fun e w' => e = .returned (.int .u64 (z : Int)) ∧ w = w' := by subst hz; exact zig_any n h1 h2 w
theorem zag_any' (m : Nat) (h1 : m < 18446744073709551616) (z : Int) (hz : zag m = z) (w : World) : Calls Tryd.prog 73 #[.int .u64 m] w fun e w' => e = .returned (.int .i64 z) ∧ w = w' := by subst hz; exact zag_any m h1 w
theorem put_nil (w : World) (n : Nat) (hn : n < 18446744073709551616) (X : List UInt8) (hX : vput n = X) : Calls Tryd.prog 49 #[.slice none 0 0, .int .u64 (n : Int)] w fun e w' => ∃ A' c', e = .returned (.slice A' X.length c') ∧ BytesAt w' A' X ∧ X.length ≤ c' ∧ c' ≤ maxLen ∧ Below w.heap.size w w' := by
  subst hX
  refine (put_any none 0 0 [] w rfl (fun h => absurd rfl h) (by omega) (fun _ => ⟨rfl, rfl⟩) n hn).mono ?_
  rintro e w' ⟨A', c', rfl, ho, hb⟩
  rw [List.nil_append] at *
  obtain ⟨A2, c2, he, hby, hl, hm, _⟩ := ho.slice
  injection he with h1 h2 h3
  subst h1
  subst h3
  exact ⟨A', c', rfl, hby, hl, hm, hb⟩

theorem get_bad (A : Option Addr) (n c : Nat) (X : List UInt8) (w : World) (hn : X.length = n) (hx : BytesAt w A X) (h : vget X 0 0 = (0, 0, 4)) :
    Calls Tryd.prog 72 #[.slice A n c] w fun e w' => e = .returned (.tuple #[.int .u64 0, .int .i64 0, .int .i64 4]) ∧ w = w' := by
  have := get_any A n c X w hn hx
  rw [h] at this
  exact this

/-- The count of bytes, as the statement counts. -/
theorem count7 (n j : Nat) : (vput (n / 128 ^ j)).length = if n / 128 ^ (j + 1) = 0 then 1 else 1 + (vput (n / 128 ^ (j + 1))).length := by
  have e : n / 128 ^ (j + 1) = n / 128 ^ j / 128 := by rw [Nat.pow_succ, Nat.div_div_eq_div_mul]
  rw [e]
  generalize n / 128 ^ j = y
  by_cases h : y < 128
  · rw [vput_low h, if_pos (by omega)]; rfl
  · rw [vput_high h, if_neg (by omega), List.length_cons]; omega

end Go.Proofs.YtanljjpjhihgcaaDoor
