/- The statements' small test of layer 5, and the walks of VarintZigs, VarintLengths, VarintRows. -/
import Derived.Test.YtnpomochhbkefaaVarPut
namespace Go.Proofs.Ytnpomochhbkefaa
open Go.RowKit VarM
set_option linter.unusedVariables false

theorem bytesAt_block {w : World} {g : Nat} {t : TypeId} {fr : Nat × Nat} (xs : List UInt8) (h : w.heap[g]? = some (.cells (xs.map fun c => Value.int .u8 (c.toNat : Int)).toArray t fr)) : BytesAt w (some ⟨g, 0, none⟩) xs := fun _ =>
  ⟨g, 0, rfl, fun k hk => by rw [cell_of_row w g (0 + k) _ t fr h]; simp [hk]⟩

theorem text_n {w : World} (A : Option Addr) (n c : Nat) (xs : List UInt8) (hn : xs.length = n) (hA : BytesAt w A xs) :
    (convert 30 9 (.slice A n c)).run Try.prog w = .ok (.string ⟨xs.toArray⟩) w := by
  subst hn
  exact run_text (P := Try.prog) 30 9 Try.underlying30 Try.underlying5 Try.underlying9 A c hA

theorem get_lit (g : Nat) (w : World) (h : w.heap[g]? = some (.cells #[.int .u8 172, .int .u8 2] 5 (0, 0))) :
    Calls Try.prog 30 #[.slice (some ⟨g, 0, none⟩) 2 2] w fun e w' => e = .returned (.tuple #[.int .u64 300, .int .i64 2, .int .i64 0]) ∧ w = w' :=
  get_any _ 2 2 [172, 2] w rfl (bytesAt_block [172, 2] h)

theorem vput300 : vput 300 = [172, 2] := by rw [vput_high (by omega), vput_low (by omega)]; rfl

theorem put_lit (w : World) : Calls Try.prog 27 #[.slice none 0 0, .int .u64 300] w fun e w' => ∃ A' c', e = .returned (.slice A' 2 c') ∧ BytesAt w' A' [172, 2] ∧ Below w.heap.size w w' := by
  refine (put_any none 0 0 [] w rfl (fun h => absurd rfl h) (by omega) (fun _ => ⟨rfl, rfl⟩) 300 (by omega)).mono ?_
  rintro e w' ⟨A', c', rfl, ho, hb⟩
  rw [List.nil_append, vput300] at *
  obtain ⟨A2, c2, he, hby, _⟩ := ho.slice
  injection he with h1 h2 h3
  subst h1
  exact ⟨A', c', rfl, hby, hb⟩

theorem zig_lit (w : World) : Calls Try.prog 31 #[.int .i64 (-1)] w fun e w' => e = .returned (.int .u64 1) ∧ w = w' := zig_any (-1) (by omega) (by omega) w
theorem zag_lit (w : World) : Calls Try.prog 33 #[.int .u64 1] w fun e w' => e = .returned (.int .i64 (-1)) ∧ w = w' := zag_any 1 (by omega) w

set_option maxRecDepth 100000 in
theorem vputs_any (w : World) : Calls Try.prog 29 #[] w fun e w' => e = .returned (.bool true) ∧ Below w.heap.size w w' := by
  go_enter Try.func29, Try.ntmps29
  go_wp2_with (first
    | (go_at_call 30; refine (get_lit _ _ (heap_alloc_new _ _)).mono ?_; rintro e w1 ⟨rfl, rfl⟩)
    | (go_at_call 27; refine (put_lit _).mono ?_; rintro e w2 ⟨A', c', rfl, hby, hb2⟩; have hcv := text_n A' 2 c' [172, 2] rfl hby)
    | (go_at_call 31; refine (zig_lit _).mono ?_; rintro e w3 ⟨rfl, rfl⟩)
    | (go_at_call 33; refine (zag_lit _).mono ?_; rintro e w4 ⟨rfl, rfl⟩))
  go_ret
  exact ⟨rfl, ((Below.refl _ _).alloc (Nat.le_refl _) _).trans (hb2.mono (by simp))⟩

theorem zig_any' (n : Int) (h1 : -9223372036854775808 ≤ n) (h2 : n ≤ 9223372036854775807) (z : Nat) (hz : zig n = z) (w : World) : Calls Try.prog 31 #[.int .i64 n] w fun e w' => e = .returned (.int .u64 (z : Int)) ∧ w = w' := by subst hz; exact zig_any n h1 h2 w
theorem zag_any' (m : Nat) (h1 : m < 18446744073709551616) (z : Int) (hz : zag m = z) (w : World) : Calls Try.prog 33 #[.int .u64 m] w fun e w' => e = .returned (.int .i64 z) ∧ w = w' := by subst hz; exact zag_any m h1 w
theorem refZig_any' (n : Int) (h1 : -9223372036854775808 ≤ n) (h2 : n ≤ 9223372036854775807) (z : Nat) (hz : zig n = z) (w : World) : Calls Try.prog 32 #[.int .i64 n] w fun e w' => e = .returned (.int .u64 (z : Int)) ∧ w = w' := by subst hz; exact refZig_any n h1 h2 w

theorem varintZigs_walk (n : Int) (hn : (Lit.int .i64 n).wf = true) (m : Int) (hm : (Lit.int .u64 m).wf = true) {w : World} :
    Calls Try.prog 7 #[.int .i64 n, .int .u64 m] w fun e w' => e = .returned (.bool true) ∧ Below w.heap.size w w' := by
  obtain ⟨n1, n2⟩ : -9223372036854775808 ≤ n ∧ n ≤ 9223372036854775807 := by have := bounds_i64 hn; omega
  obtain ⟨m1, m2⟩ : 0 ≤ m ∧ m < 18446744073709551616 := by have := bounds_u64 hm; omega
  obtain ⟨k, rfl⟩ := Int.eq_ofNat_of_zero_le m1
  have k2 : k < 18446744073709551616 := by omega
  obtain ⟨z, hz⟩ : ∃ z, zig n = z := ⟨_, rfl⟩
  obtain ⟨y, hy⟩ : ∃ y, zag k = y := ⟨_, rfl⟩
  have z2 : z < 18446744073709551616 := hz ▸ zig_lt n1 n2
  have y2 : -9223372036854775808 ≤ y ∧ y ≤ 9223372036854775807 := hy ▸ zag_in k2
  have hz' : zag z = n := by rw [← hz, zag_zig]
  have hy' : zig y = k := by rw [← hy, zig_zag]
  have HZ := Lib.hid hz
  have HY := Lib.hid hy
  have HZ' := Lib.hid hz'
  have HY' := Lib.hid hy'
  clear hz hy hz' hy' hn hm
  go_enter Try.func7, Try.ntmps7
  go_wp2_with (first
    | (go_at_call 29; refine (vputs_any _).mono ?_; rintro e w1 ⟨rfl, hb1⟩)
    | (go_at_call 31; with_reducible refine (zig_any' n n1 n2 z HZ.out _).mono ?_; rintro e w3 ⟨rfl, rfl⟩)
    | (go_at_call 31; with_reducible refine (zig_any' y y2.1 y2.2 k HY'.out _).mono ?_; rintro e w3 ⟨rfl, rfl⟩)
    | (go_at_call 32; with_reducible refine (refZig_any' n n1 n2 z HZ.out _).mono ?_; rintro e w3 ⟨rfl, rfl⟩)
    | (go_at_call 33; with_reducible refine (zag_any' z z2 n HZ'.out _).mono ?_; rintro e w4 ⟨rfl, rfl⟩)
    | (go_at_call 33; with_reducible refine (zag_any' k k2 y HY.out _).mono ?_; rintro e w4 ⟨rfl, rfl⟩))
  go_ret
  exact ⟨rfl, hb1⟩

theorem put_nil (w : World) (n : Nat) (hn : n < 18446744073709551616) (X : List UInt8) (hX : vput n = X) : Calls Try.prog 27 #[.slice none 0 0, .int .u64 (n : Int)] w fun e w' => ∃ A' c', e = .returned (.slice A' X.length c') ∧ BytesAt w' A' X ∧ X.length ≤ c' ∧ c' ≤ maxLen ∧ Below w.heap.size w w' := by
  subst hX
  refine (put_any none 0 0 [] w rfl (fun h => absurd rfl h) (by omega) (fun _ => ⟨rfl, rfl⟩) n hn).mono ?_
  rintro e w' ⟨A', c', rfl, ho, hb⟩
  rw [List.nil_append] at *
  obtain ⟨A2, c2, he, hby, hl, hm, _⟩ := ho.slice
  injection he with h1 h2 h3
  subst h1
  subst h3
  exact ⟨A', c', rfl, hby, hl, hm, hb⟩

theorem get_bad (A : Option Addr) (n c : Nat) (X : List UInt8) (w : World) (hn : X.length = n) (hx : BytesAt w A X) (h : vget X 0 0 = (0, 0, 4)) :
    Calls Try.prog 30 #[.slice A n c] w fun e w' => e = .returned (.tuple #[.int .u64 0, .int .i64 0, .int .i64 4]) ∧ w = w' := by
  have := get_any A n c X w hn hx
  rw [h] at this
  exact this

/-- The count of bytes, as the statement counts. -/
theorem count7 (n j : Nat) : (vput (n / 128 ^ j)).length = if n / 128 ^ (j + 1) = 0 then 1 else 1 + (vput (n / 128 ^ (j + 1))).length := by
  have e : n / 128 ^ (j + 1) = n / 128 ^ j / 128 := by rw [Nat.pow_succ, Nat.div_div_eq_div_mul]
  rw [e]
  generalize n / 128 ^ j = y
  by_cases h : y < 128
  · rw [vput_low h, if_pos (by omega)]; rfl
  · rw [vput_high h, if_neg (by omega), List.length_cons]; omega

set_option maxRecDepth 100000 in
theorem varintLengths_walk (m : Int) (hm : (Lit.int .u64 m).wf = true) {w : World} :
    Calls Try.prog 9 #[.int .u64 m] w fun e w' => e = .returned (.bool true) ∧ Below w.heap.size w w' := by
  obtain ⟨m1, m2⟩ : 0 ≤ m ∧ m < 18446744073709551616 := by have := bounds_u64 hm; omega
  obtain ⟨n, rfl⟩ := Int.eq_ofNat_of_zero_le m1
  have n2 : n < 18446744073709551616 := by omega
  clear hm m1 m2
  obtain ⟨X, hX⟩ : ∃ X, vput n = X := ⟨_, rfl⟩
  have hX1 : 1 ≤ X.length := hX ▸ vput_len_pos n
  have hX10 : X.length ≤ 10 := hX ▸ vput_len10 n2
  have hcut : vget (X.take (X.length - 1)) 0 0 = (0, 0, 4) := hX ▸ vget_cut n 0 0 (by omega) (by omega)
  have HX := Lib.hid hX
  have HC := Lib.hid hcut
  clear hX hcut
  go_enter Try.func9, Try.ntmps9
  go_wp2_with fail
  go_loop [3, 4] (fun v i => ∃ k j : Nat, k + (if n / 128 ^ (j + 1) = 0 then 0 else (vput (n / 128 ^ (j + 1))).length) = X.length ∧ 1 ≤ k ∧ v = .int .i64 k ∧ i = .int .u64 (n / 128 ^ (j + 1) : Nat)) (fun _ i => (intOf i).toNat)
  case atStart =>
    refine ⟨1, 0, ?_, by omega, rfl, rfl⟩
    have := count7 n 0
    rw [show n / 128 ^ 0 = n by simp, HX.out] at this
    rw [this]
    split <;> simp
  case round =>
    obtain ⟨k, j, hk, hk1, rfl, rfl⟩ := hrel
    have hj := count7 n (j + 1)
    have e : n / 128 ^ (j + 1 + 1) = n / 128 ^ (j + 1) / 128 := by rw [Nat.pow_succ, Nat.div_div_eq_div_mul]
    generalize hy : n / 128 ^ (j + 1) = y at *
    by_cases h0 : y = 0
    · subst h0
      simp at hk
      subst hk
      have d0 : decide ((0 : Int) < ((0 : Nat) : Int)) = false := rfl
      have hcl : ((X.length : Int) - 1) = ((X.length - 1 : Nat) : Int) := by omega
      have hmx : max ((X.length : Int) - 1) 0 = ((X.length - 1 : Nat) : Int) := by omega
      go_wp2_with (first
        | (go_at_call 29; refine (vputs_any _).mono ?_; rintro e w1 ⟨rfl, hb1⟩)
        | (go_at_call 27; refine (put_nil _ n n2 X HX.out).mono ?_; rintro e w2 ⟨A', c', rfl, hby, hlc, hcm, hb2⟩)
        | (go_at_call 30; refine (get_bad A' (X.length - 1) c' (X.take (X.length - 1)) _ (by simp) (hby.take _) HC.out).mono ?_; rintro e w3 ⟨rfl, rfl⟩))
      go_ret
      exact ⟨rfl, hb2.trans (hb1.mono hb2.size)⟩
    · have d0 : decide ((0 : Int) < (y : Int)) = true := by simp; omega
      have hv := vput_len_pos y
      rw [if_neg h0] at hk
      go_wp2_with fail
      go_round
      case rel =>
        refine ⟨k + 1, j + 1, ?_, by omega, by go_num, by rw [e]; go_num⟩
        rw [hj] at hk
        split at hk <;> split <;> omega
      case measure => simp [intOf]; omega
end Go.Proofs.Ytnpomochhbkefaa
