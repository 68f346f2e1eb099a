/- What bytes are as a node, and a node as bytes: each undoes the other. -/
import Derived.Test.YtgkddhncfaeidaaNgZ
namespace Go.Proofs.Ytgkddhncfaeidaa
open Go.ChangeShapes Go.WideShapes Go.ChangeAt Go.RowKit CrcM PageM
set_option linter.unusedVariables false

theorem wn_s64 {v : Nat} (h : v < 18446744073709551616) : wn (s64 v) = v := by
  unfold wn s64
  rw [IntKind.wrap_u64]
  have e : (wrap64 (v : Int)) % 18446744073709551616 = (v : Int) := by
    unfold wrap64
    omega
  rw [e]
  omega
theorem wn_u32 {v : Nat} (h : v < 4294967296) : wn (u32n v) = v := by
  unfold wn u32n
  rw [IntKind.wrap_u64, IntKind.wrap_u32]
  omega
theorem s64_wn {z : Int} (h1 : -9223372036854775808 ≤ z) (h2 : z ≤ 9223372036854775807) : s64 (wn z) = z := by
  unfold s64
  rw [← wn_eq, IntKind.wrap_u64]
  unfold wrap64
  omega
theorem u32n_wn {z : Int} (h1 : 0 ≤ z) (h2 : z < 4294967296) : u32n (wn z) = z := by
  unfold u32n
  rw [← wn_eq, IntKind.wrap_u64, IntKind.wrap_u32]
  omega
theorem be_part (b : List UInt8) (o s : Nat) (h : o + s ≤ b.length) : be (val ((b.drop o).take s)) s = (b.drop o).take s := by
  have hl : ((b.drop o).take s).length = s := by rw [List.length_take, List.length_drop]; omega
  have := be_val ((b.drop o).take s)
  rwa [hl] at this
theorem val_part (b : List UInt8) (o s : Nat) (hs : s ≤ 8) : val ((b.drop o).take s) < 18446744073709551616 := by
  have h := val_lt ((b.drop o).take s)
  have hl : ((b.drop o).take s).length ≤ 8 := by rw [List.length_take]; omega
  have := Nat.pow_le_pow_right (show 0 < 256 by decide) hl
  have e : (256 : Nat) ^ 8 = 18446744073709551616 := by decide
  omega
theorem cut_at (b : List UInt8) (o s : Nat) : (b.drop o).take s ++ b.drop (o + s) = b.drop o := by
  rw [← List.drop_drop]
  exact List.take_append_drop s (b.drop o)
theorem kyB_keyP (b : List UInt8) (h : 12 ≤ b.length) : kyB (keyP b) = b.take 12 := by
  unfold kyB keyP
  have h1 := val_part b 0 4 (by decide)
  have h2 := val_part b 4 8 (by decide)
  have e1 := be_part b 0 4 (by omega)
  have e2 := be_part b 4 8 (by omega)
  simp only [List.drop_zero] at h1 e1
  rw [wn_s64 h1, wn_s64 h2, e1, e2]
  rw [show (12 : Nat) = 4 + 8 from rfl, List.take_add]
theorem enB_entP (b : List UInt8) (h : 30 ≤ b.length) : enB (entP b) = b.take 30 := by
  have hk : kyB (entP b).key = b.take 12 := kyB_keyP b (by omega)
  unfold enB
  rw [hk]
  unfold entP
  dsimp only
  have v4 : val ((b.drop 26).take 4) < 4294967296 := by
    have h := val_lt ((b.drop 26).take 4)
    have hl : ((b.drop 26).take 4).length = 4 := by rw [List.length_take, List.length_drop]; omega
    rw [hl] at h
    have e : (256 : Nat) ^ 4 = 4294967296 := by decide
    omega
  rw [wn_s64 (val_part b 12 8 (by decide)), wn_s64 (val_part b 20 2 (by decide)), wn_s64 (val_part b 22 2 (by decide)), wn_s64 (val_part b 24 1 (by decide)), wn_s64 (val_part b 25 1 (by decide)), wn_u32 v4]
  rw [be_part b 12 8 (by omega), be_part b 20 2 (by omega), be_part b 22 2 (by omega), be_part b 24 1 (by omega), be_part b 25 1 (by omega), be_part b 26 4 (by omega)]
  rw [← List.take_add, ← List.take_add, ← List.take_add, ← List.take_add, ← List.take_add, ← List.take_add]
theorem be_kidP (b : List UInt8) (h : 14 ≤ b.length) : be (wn (kidP b)) 2 = (b.drop 12).take 2 := by
  unfold kidP
  rw [wn_s64 (val_part b 12 2 (by decide)), be_part b 12 2 (by omega)]
theorem entsP_flat (n : Nat) (b : List UInt8) (h : b.length = n * 30) : ∀ k, k ≤ n → (entsP k b).flatMap enB = b.take (30 * k)
  | 0, _ => by simp [entsP]
  | k + 1, hk => by
    rw [entsP_succ, List.flatMap_append, entsP_flat n b h k (by omega)]
    simp only [List.flatMap_cons, List.flatMap_nil, List.append_nil]
    rw [enB_entP _ (by rw [List.length_drop]; omega), Nat.mul_succ, List.take_add]
theorem kidsP_flat (n : Nat) (b : List UInt8) (h : b.length = n * 14) : ∀ k, k ≤ n → ((keysP k b).zip (kidsP k b)).flatMap kidB = b.take (14 * k)
  | 0, _ => by simp [keysP]
  | k + 1, hk => by
    rw [keysP_succ, kidsP_succ, List.zip_append (by simp [keysP, kidsP]), List.flatMap_append, kidsP_flat n b h k (by omega)]
    simp only [List.zip_cons_cons, List.zip_nil_right, List.flatMap_cons, List.flatMap_nil, List.append_nil]
    unfold kidB
    dsimp only
    rw [kyB_keyP _ (by rw [List.length_drop]; omega), be_kidP _ (by rw [List.length_drop]; omega), Nat.mul_succ, show 14 * k + 14 = 14 * k + (12 + 2) from rfl, List.take_add, List.take_add]
/-- The bytes of what is read are what was read. -/
theorem nodeB_leaf (c : UInt8) (b : List UInt8) (h : b.length = c.toNat * 30) : nodeB ⟨true, entsP c.toNat b, [], []⟩ = c :: b := by
  unfold nodeB NodeD.size
  simp only [if_true, List.zip_nil_left, List.flatMap_nil, List.append_nil]
  rw [entsP_flat c.toNat b h c.toNat (Nat.le_refl _), List.take_of_length_le (by omega)]
  simp [entsP]
theorem nodeB_inner (c : UInt8) (b : List UInt8) (h : b.length = c.toNat * 14) : nodeB ⟨false, [], keysP c.toNat b, kidsP c.toNat b⟩ = c :: b := by
  unfold nodeB NodeD.size
  simp only [Bool.false_eq_true, if_false, List.flatMap_nil, List.nil_append]
  rw [kidsP_flat c.toNat b h c.toNat (Nat.le_refl _), List.take_of_length_le (by omega)]
  simp [kidsP]
theorem keyP_kyB (k : KeyD) (r : List UInt8) (h : okKey k.se) (h1 : -9223372036854775808 ≤ k.st) (h2 : k.st ≤ 9223372036854775807) : keyP (kyB k ++ r) = k := by
  obtain ⟨se, st⟩ := k
  unfold okKey at h
  dsimp only at h h1 h2
  have hn : wn se < 256 ^ 4 := by
    have e : (wn se : Int) = se := by rw [← wn_eq, IntKind.wrap_u64]; omega
    have e4 : (256 : Nat) ^ 4 = 4294967296 := by decide
    omega
  have hm : wn st < 256 ^ 8 := by have := wn_lt st; have e : (256 : Nat) ^ 8 = 18446744073709551616 := by decide
                                  omega
  have t1 : (kyB ⟨se, st⟩ ++ r).take 4 = be (wn se) 4 := by unfold kyB; rw [List.append_assoc]; exact List.take_left' (length_be _ _)
  have t2 : ((kyB ⟨se, st⟩ ++ r).drop 4).take 8 = be (wn st) 8 := by
    unfold kyB
    rw [List.append_assoc, List.drop_left' (length_be _ _)]
    exact List.take_left' (length_be _ _)
  unfold keyP
  rw [t1, t2, val_be 4 _ hn, val_be 8 _ hm, s64_wn (by omega) (by omega), s64_wn h1 h2]
end Go.Proofs.Ytgkddhncfaeidaa
