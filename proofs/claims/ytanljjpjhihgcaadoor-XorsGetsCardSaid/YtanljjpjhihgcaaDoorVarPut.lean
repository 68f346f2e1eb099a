/- Put and Get of package varint, and the reference's Put: their contracts. -/
import Derived.Test.YtanljjpjhihgcaaDoorVar
namespace Go.Proofs.YtanljjpjhihgcaaDoor
open Go.RowKit VarM
set_option linter.unusedVariables false

theorem byte_or (m : Nat) : bits BinOp.or IntKind.u8 ((m : Int) % 256) 128 = ((UInt8.ofNat (m % 128 + 128)).toNat : Int) := by
  have e : bits BinOp.or IntKind.u8 ((m % 256 : Nat) : Int) ((128 : Nat) : Int) = ((m % 256 ||| 128 : Nat) : Int) := u8_or_nat _ _ (by omega) (by omega)
  rw [show ((m : Int) % 256) = ((m % 256 : Nat) : Int) from rfl, show (128 : Int) = ((128 : Nat) : Int) from rfl, e, UInt8.toNat_ofNat']
  have key : ∀ a : Fin 256, a.val ||| 128 = (a.val % 128 + 128) % 2 ^ 8 := by decide +kernel
  have := key ⟨m % 256, by omega⟩
  simp only at this
  rw [this, show m % 256 % 128 = m % 128 by omega]

set_option maxRecDepth 100000 in
theorem put_any (A : Option Addr) (len c : Nat) (xs : List UInt8) (w : World) (hn : xs.length = len) (hx : BytesAt w A xs) (hl : len ≤ 100000000) (h0 : A = none → len = 0 ∧ c = 0) (n : Nat) (hn64 : n < 18446744073709551616) :
    Calls Tryd.prog 49 #[.slice A len c, .int .u64 n] w fun e w' => ∃ A' c', e = .returned (.slice A' (xs ++ vput n).length c') ∧ OwnS w' w.heap.size (.slice A' (xs ++ vput n).length c') 5 (xs ++ vput n) ∧ Below w.heap.size w w' := by
  go_enter Tryd.func49, Tryd.ntmps49
  go_wp2_with (go_at_call 66; refine (clone_any A len c xs _ hn hx (by omega) h0).mono ?_; rintro e w1 ⟨A1, c1, rfl, ho1, hb1⟩)
  go_loopw [5, 1] (fun v m wr => ∃ (done : List UInt8) (k : Nat) (A1 : Option Addr) (c1 : Nat), done ++ vput k = vput n ∧ k < 18446744073709551616 ∧ m = .int .u64 k ∧ v = .slice A1 (xs ++ done).length c1 ∧ OwnS wr w.heap.size (.slice A1 (xs ++ done).length c1) 5 (xs ++ done) ∧ Below w.heap.size w wr) (fun _ m _ => (intOf m).toNat)
  case atStart => exact ⟨[], n, A1, c1, rfl, hn64, rfl, by rw [List.append_nil, hn], by rw [List.append_nil, hn]; exact ho1, hb1⟩
  case round =>
    obtain ⟨done, k, A2, c2, hd, hk, rfl, rfl, ho, hb⟩ := hrel
    have hdl : (xs ++ done).length + 1 ≤ 140737488355328 := by
      have h1 := congrArg List.length hd
      have h2 := vput_len10 hn64
      simp at h1 ⊢
      omega
    generalize hX : xs ++ done = X at *
    have HD := Lib.hid hd
    have HX := Lib.hid hX
    clear hd hX
    by_cases hlt : k < 128
    · have hd : decide (128 ≤ (k : Int)) = false := by simp; omega
      have hz := Lib.hid (show (k : Int) = ((UInt8.ofNat k).toNat : Int) by rw [UInt8.toNat_ofNat']; omega)
      go_wp2_with (at_builtin; refine wpList_append_s rfl (.tmp 18) (.tmp 21) 24 rfl Tryd.underlying24 infoU8 rfl (ho.alloc _) _ _ 1 [UInt8.ofNat k] rfl rfl (bytesAt_one _ _ _ _ hz.out) hdl (by have := hb.size; simp; omega) ?_; intro A3 c3 w3 ho3 hg3)
      go_ret
      have hfin : X ++ [UInt8.ofNat k] = xs ++ vput n := by
        rw [← HX.out, ← HD.out, vput_low hlt, List.append_assoc]
      refine ⟨A3, c3, by rw [← hfin, List.length_append]; rfl, by rw [← hfin]; exact ho3, (ho.alloc _).belowGrown (Nat.le_refl _) (by have := hb.size; simp; omega) (below_alloc (Nat.le_refl _) hb _) hg3⟩
    · have hd : decide (128 ≤ (k : Int)) = true := by simp; omega
      have hz := Lib.hid (byte_or k)
      go_wp2_with (at_builtin; refine wpList_append_s rfl (.tmp 10) (.tmp 14) 24 rfl Tryd.underlying24 infoU8 rfl (ho.alloc _) _ _ 1 [UInt8.ofNat (k % 128 + 128)] rfl rfl (bytesAt_one _ _ _ _ hz.out) hdl (by have := hb.size; simp; omega) ?_; intro A3 c3 w3 ho3 hg3)
      go_roundw
      case rel =>
        refine ⟨done ++ [UInt8.ofNat (k % 128 + 128)], k / 128, A3, c3, ?_, by omega, by go_num, ?_, ?_, (ho.alloc _).belowGrown (Nat.le_refl _) (by have := hb.size; simp; omega) (below_alloc (Nat.le_refl _) hb _) hg3⟩
        · rw [← HD.out, vput_high hlt, List.append_assoc]; rfl
        · rw [← List.append_assoc, HX.out, List.length_append]; rfl
        · rw [← List.append_assoc, HX.out]; exact ho3
      case measure => simp [intOf]; omega

theorem rem128 (k : Nat) : (k : Int) % 128 + 128 = ((UInt8.ofNat (k % 128 + 128)).toNat : Int) := by rw [UInt8.toNat_ofNat']; omega

theorem or_add (a c i : Nat) (ha : a < 2 ^ (7 * i)) : a ||| c * 2 ^ (7 * i) = a + c * 2 ^ (7 * i) := by
  rw [Nat.or_comm, ← Nat.shiftLeft_eq, ← Nat.shiftLeft_add_eq_or_of_lt ha]
  omega

theorem andNot128 (c : UInt8) : bits BinOp.andNot IntKind.u8 (c.toNat : Int) 128 = ((c.toNat % 128 : Nat) : Int) := by
  have hc := c.toNat_lt
  have e : bits BinOp.andNot IntKind.u8 (c.toNat : Int) ((128 : Nat) : Int) = ((c.toNat &&& (255 - 128) : Nat) : Int) := u8_andNot_nat _ _ (by omega) (by omega)
  rw [show (128 : Int) = ((128 : Nat) : Int) from rfl, e]
  have : c.toNat &&& (2 ^ 7 - 1) = c.toNat % 2 ^ 7 := Nat.and_two_pow_sub_one_eq_mod _ 7
  simp only [Nat.reduceSub, Nat.reducePow] at *
  rw [this]

theorem get_lt (a n k : Nat) (ha : a < 2 ^ (7 * k)) : a + n % 128 * 2 ^ (7 * k) < 2 ^ (7 * (k + 1)) := by
  rw [pow7]
  have : n % 128 * 2 ^ (7 * k) ≤ 127 * 2 ^ (7 * k) := Nat.mul_le_mul_right _ (by omega)
  omega

theorem get_or (a n k : Nat) (hn : n < 2 ^ 8) (ha : a < 2 ^ (7 * k)) (hk : k ≤ 9) (h9 : k = 9 → n ≤ 1) :
    bits BinOp.or IntKind.u64 (a : Int) (IntKind.u64.wrap (IntKind.u64.wrap (bits BinOp.andNot IntKind.u8 (n : Int) 128) * 2 ^ (7 * k))) = ((a + n % 128 * 2 ^ (7 * k) : Nat) : Int) := by
  have hu : bits BinOp.andNot IntKind.u8 (n : Int) 128 = ((n % 128 : Nat) : Int) := by
    have := andNot128 (UInt8.ofNat n)
    rw [ofNat_toNat (by omega)] at this
    exact this
  have hlt : a + n % 128 * 2 ^ (7 * k) < 18446744073709551616 := by
    by_cases h : k = 9
    · subst h
      have := h9 rfl
      have : n % 128 ≤ 1 := by omega
      have : n % 128 * 2 ^ (7 * 9) ≤ 1 * 2 ^ (7 * 9) := Nat.mul_le_mul_right _ this
      omega
    · have h1 := get_lt a n k ha
      have h2 : 2 ^ (7 * (k + 1)) ≤ 2 ^ 63 := Nat.pow_le_pow_right (by omega) (by omega)
      omega
  rw [hu]
  have e1 : IntKind.u64.wrap ((n % 128 : Nat) : Int) = ((n % 128 : Nat) : Int) := by rw [IntKind.wrap_u64]; omega
  have e2 : ((n % 128 : Nat) : Int) * 2 ^ (7 * k) = ((n % 128 * 2 ^ (7 * k) : Nat) : Int) := by simp
  have e3 : IntKind.u64.wrap ((n % 128 * 2 ^ (7 * k) : Nat) : Int) = ((n % 128 * 2 ^ (7 * k) : Nat) : Int) := by rw [IntKind.wrap_u64]; omega
  rw [e1, e2, e3, u64_or_nat _ _ (by omega) (by omega), or_add a (n % 128) k ha]

theorem get_ret {a b c d : Int} (h : a = b) (h2 : c = d) : Ending.returned (.tuple #[.int .u64 a, .int .i64 c, .int .i64 0]) = Ending.returned (.tuple #[.int .u64 b, .int .i64 d, .int .i64 0]) := by rw [h, h2]

set_option maxRecDepth 100000 in
theorem get_any (A : Option Addr) (len c : Nat) (xs : List UInt8) (w : World) (hn : xs.length = len) (hx : BytesAt w A xs) :
    Calls Tryd.prog 72 #[.slice A len c] w fun e w' => e = .returned (.tuple #[.int .u64 (vget xs 0 0).1, .int .i64 (vget xs 0 0).2.1, .int .i64 (vget xs 0 0).2.2]) ∧ w = w' := by
  subst hn
  obtain ⟨R, hR0⟩ : ∃ R, R = vget xs 0 0 := ⟨_, rfl⟩
  rw [← hR0]
  have hR := Lib.hid hR0
  clear hR0
  go_enter Tryd.func72, Tryd.ntmps72
  go_wp2_with fail
  go_loop [5, 10] (fun v i => ∃ k a : Nat, k ≤ xs.length ∧ k ≤ 9 ∧ a < 2 ^ (7 * k) ∧ R = vget (xs.drop k) k a ∧ i = .int .i64 k ∧ v = .int .u64 a) (fun _ i => xs.length - (intOf i).toNat)
  case atStart => exact ⟨0, 0, by omega, by omega, by simp, hR.out, rfl, rfl⟩
  case round =>
    obtain ⟨k, a, hk, hk9, ha, hr, rfl, rfl⟩ := hrel
    by_cases hlt : k < xs.length
    · obtain ⟨b, off, rfl, hc⟩ := hx (by intro h; subst h; simp at hlt)
      have hck := hc k hlt
      clear hc
      have hd : xs.drop k = xs[k] :: xs.drop (k + 1) := List.drop_eq_getElem_cons hlt
      rw [hd] at hr
      clear hd
      have hu := andNot128 xs[k]
      simp only [vget] at hr
      have hn := xs[k].toNat_lt
      generalize xs[k].toNat = n at *
      have HR := Lib.hid hr
      have HU := Lib.hid hu
      clear hr hu
      go_wp2_with fail
      all_goals try have e0 : n = 0 := by simpa using (by assumption : ((n : Int) == 0) = true)
      all_goals try have e1 : n ≠ 0 := by simpa using (by assumption : ((n : Int) == 0) = false)
      · go_ret3
        refine ⟨?_, rfl⟩
        rw [show R = (0, 0, 3) by rw [HR.out]; first | rw [if_pos (by omega)] | rw [if_neg (by omega), if_pos (by omega)]]
        rfl
      · go_ret3
        refine ⟨?_, rfl⟩
        rw [show R = (0, 0, 3) by rw [HR.out]; first | rw [if_pos (by omega)] | rw [if_neg (by omega), if_pos (by omega)]]
        rfl
      · go_ret3
        refine ⟨?_, rfl⟩
        rw [show R = (a + n % 128 * 2 ^ (7 * k), k + 1, 0) by rw [HR.out, if_neg (by omega), if_neg (by omega), if_pos (by omega)]]
        refine get_ret ?_ ?_
        · obtain rfl : k = 9 := by omega
          exact get_or a n 9 hn ha (by omega) (by omega)
        · first | (rfl; done) | omega | (simp; done) | (simp; omega)
      · go_ret3
        refine ⟨?_, rfl⟩
        rw [show R = (0, 0, 3) by rw [HR.out]; first | rw [if_pos (by omega)] | rw [if_neg (by omega), if_pos (by omega)]]
        rfl
      · go_ret3
        refine ⟨?_, rfl⟩
        rw [show R = (a + n % 128 * 2 ^ (7 * k), k + 1, 0) by rw [HR.out, if_neg (by omega), if_neg (by omega), if_pos (by omega)]]
        refine get_ret ?_ ?_
        · exact get_or a n k hn ha (by omega) (by omega)
        · first | (rfl; done) | omega | (simp; done) | (simp; omega)
      · go_round
        case rel =>
          refine ⟨k + 1, a + n % 128 * 2 ^ (7 * k), by omega, by omega, get_lt a n k ha, ?_, by go_num, congrArg (Value.int .u64) (get_or a n k hn ha hk9 (by omega))⟩
          rw [HR.out, if_neg (by omega), if_neg (by omega), if_neg (by omega)]
        case measure => simp [intOf]; omega
      · go_ret3
        refine ⟨?_, rfl⟩
        rw [show R = (a + n % 128 * 2 ^ (7 * k), k + 1, 0) by rw [HR.out, if_neg (by omega), if_neg (by omega), if_pos (by omega)]]
        refine get_ret ?_ ?_
        · obtain rfl : k = 0 := by omega
          exact get_or a n 0 hn ha (by omega) (by omega)
        · first | (rfl; done) | omega | (simp; done) | (simp; omega)
      · go_round
        case rel =>
          refine ⟨k + 1, a + n % 128 * 2 ^ (7 * k), by omega, by omega, get_lt a n k ha, ?_, by go_num, congrArg (Value.int .u64) (get_or a n k hn ha hk9 (by omega))⟩
          rw [HR.out, if_neg (by omega), if_neg (by omega), if_neg (by omega)]
        case measure => simp [intOf]; omega
    · obtain rfl : k = xs.length := by omega
      rw [List.drop_length] at hr
      simp only [vget] at hr
      subst hr
      go_wp2_with fail
      go_ret3
      exact ⟨rfl, rfl⟩
end Go.Proofs.YtanljjpjhihgcaaDoor
