/- The reference's calls of layer 4: their contracts. -/
import Derived.Test.YtanljjpjhihgcaaBitTake
namespace Go.Proofs.Ytanljjpjhihgcaa
open Go.RowKit BitM
set_option linter.unusedVariables false

theorem and_one (x : Nat) (hx : x < 18446744073709551616) : bits BinOp.and IntKind.u64 (x : Int) 1 = ((x % 2 : Nat) : Int) := by
  have e : bits BinOp.and IntKind.u64 (x : Int) ((1 : Nat) : Int) = ((x &&& 1 : Nat) : Int) := u64_and_nat _ _ hx (by omega)
  rw [Nat.and_one_is_mod] at e
  exact e
theorem and_one8 (x : Nat) (hx : x < 256) : bits BinOp.and IntKind.u8 (x : Int) 1 = ((x % 2 : Nat) : Int) := by
  have e : bits BinOp.and IntKind.u8 (x : Int) ((1 : Nat) : Int) = ((x &&& 1 : Nat) : Int) := u8_and_nat _ _ hx (by omega)
  rw [Nat.and_one_is_mod] at e
  exact e

set_option maxHeartbeats 400000 in
set_option maxRecDepth 100000 in
theorem refBitPut (A : Option Addr) (len c L V v : Nat) (n : Int) (w : World) (base : Nat) (ho : OwnS w base (.slice A len c) 5 (bl L V)) (hbase : base ≤ w.heap.size) (hl : len ≤ 100000000) (hv : v < 18446744073709551616) :
    Calls Try.prog 23 #[.slice A len c, .int .u64 (v : Int), .int .i64 n] w fun e w' => ∃ A' c', e = .returned (.slice A' (L + wi n) c') ∧ OwnS w' base (.slice A' (L + wi n) c') 5 (bl (L + wi n) (V * 2 ^ wi n + v % 2 ^ wi n)) ∧ Below base w w' := by
  have hcap := ho.caps
  have hL : L = len := by rw [← hcap.1, length_bl]
  subst hL
  have hwl := wi_le n
  have hval := wi_val n
  obtain ⟨m, hm⟩ : ∃ m, m = wi n := ⟨_, rfl⟩
  rw [← hm] at hwl hval ⊢
  rw [← upto_all]
  clear hm hcap
  have HVAL := Lib.hid hval
  go_enter Try.func23, Try.ntmps23
  go_wp2_with fail
  go_loopw [0, 7] (fun l i wr => ∃ (j nl cl : Nat) (Al : Option Addr), j ≤ m ∧ Hid (nl = L + j) ∧ i = .int .i64 ((m : Int) - (j : Int) - 1) ∧ l = .slice Al nl cl ∧ OwnS wr base (.slice Al nl cl) 5 (bl nl (upto V v m j)) ∧ Below base w wr) (fun _ i _ => (intOf i + 1).toNat)
  case atStart =>
    refine ⟨0, L, c, A, by omega, Lib.hid rfl, ?_, rfl, by rw [upto_zero]; exact ho, Below.refl _ _⟩
    congr 1
  case round =>
    obtain ⟨j, nl, cl, Al, hj, HNL, rfl, rfl, hol, hb⟩ := hrel
    by_cases hlt : j < m
    · obtain ⟨i, hi⟩ : ∃ i, i = m - (j + 1) := ⟨_, rfl⟩
      have hii : (m : Int) - (j : Int) - 1 = (i : Int) := by omega
      rw [hii]
      have hx : v / 2 ^ i < 18446744073709551616 := Nat.lt_of_le_of_lt (Nat.div_le_self _ _) hv
      have hbit := and_one _ hx
      obtain ⟨t, ht⟩ : ∃ t, t = v / 2 ^ i % 2 := ⟨_, rfl⟩
      have ht2 : t < 2 := by omega
      rw [← ht] at hbit
      have hup := upto_succ V v m j hlt
      rw [← hi, ← ht] at hup
      have hz : bits BinOp.and IntKind.u64 ((v : Int) / 2 ^ i) 1 % 256 = ((UInt8.ofNat t).toNat : Int) := by
        have e : ((v : Int) / 2 ^ i) = ((v / 2 ^ i : Nat) : Int) := by simp
        rw [e, hbit, UInt8.toNat_ofNat']
        omega
      have hsn := bl_snoc nl (upto V v m j) t ht2
      rw [← hup] at hsn
      have hi64 : i < 64 := by omega
      have HSN := Lib.hid hsn.symm
      have HI := Lib.hid hi
      have HZ := Lib.hid hz
      have hlen : (bl nl (upto V v m j)).length + 1 ≤ 140737488355328 := by rw [length_bl]; have := HNL.out; omega
      have hl2 : (bl (nl + 1) (upto V v m (j + 1))).length = nl + 1 := length_bl _ _
      have HL2 := Lib.hid hl2
      clear hii hbit ht hup hz hsn hi hl2
      go_wp2_with (at_builtin; refine wpList_append_z rfl (.tmp 16) (.tmp 22) 22 rfl Try.underlying22 infoU8 rfl (hol.alloc _) _ _ 1 [UInt8.ofNat t] (bl (nl + 1) (upto V v m (j + 1))) rfl rfl (bytesAt_one _ _ _ _ HZ.out) HSN.out hlen (by have := hb.size; simp; omega) ?_; rw [HL2.out]; intro A3 c3 w3 ho3 hg3)
      go_roundw
      case rel =>
        refine ⟨j + 1, nl + 1, c3, A3, by omega, Lib.hid (by have := HNL.out; omega), ?_, rfl, ho3, (hol.alloc _).belowGrown (Nat.le_refl _) (by have := hb.size; simp; omega) (below_alloc hbase hb _) hg3⟩
        have := HI.out
        have e : (m : Int) - ((j + 1 : Nat) : Int) - 1 = (i : Int) - 1 := by omega
        rw [e]
      case measure => simp [intOf]
    · obtain rfl : j = m := by omega
      have e : (j : Int) - (j : Int) - 1 = -1 := by omega
      rw [e]
      have hnl := HNL.out
      subst hnl
      go_wp2_with fail
      go_ret
      exact ⟨Al, cl, rfl, hol, hb⟩

theorem bl_bits_succ (xs : List UInt8) (i : Nat) (hi : i < 8 * xs.length) :
    bl (i + 1) (valB xs / 2 ^ (8 * xs.length - (i + 1))) = bl i (valB xs / 2 ^ (8 * xs.length - i)) ++ [UInt8.ofNat (xs[i / 8].toNat / 2 ^ (7 - i % 8) % 2)] := by
  have e : valB xs / 2 ^ (8 * xs.length - (i + 1)) = valB xs / 2 ^ (8 * xs.length - i) * 2 + xs[i / 8].toNat / 2 ^ (7 - i % 8) % 2 := by
    have h1 : 8 * xs.length - i = (8 * xs.length - (i + 1)) + 1 := by omega
    have h2 := mid_byte xs i 1 (by omega) (by omega)
    unfold mid at h2
    rw [show i + 1 - i = 1 by omega, Nat.pow_one, show 8 - i % 8 - 1 = 7 - i % 8 by omega] at h2
    rw [← h2, h1, Nat.pow_succ, ← Nat.div_div_eq_div_mul]
    omega
  rw [e, bl_snoc _ _ _ (by omega)]

theorem bl_bits_next (xs : List UInt8) (i T x s : Nat) (hT : T = 8 * xs.length) (hi : i < T) (h : i / 8 < xs.length) (hx : x = (xs[i / 8]'h).toNat) (hs : s = 7 - i % 8) :
    bl (i + 1) (valB xs / 2 ^ (T - (i + 1))) = bl i (valB xs / 2 ^ (T - i)) ++ [UInt8.ofNat (x / 2 ^ s % 2)] := by
  subst hT hx hs
  exact bl_bits_succ xs i hi

set_option maxHeartbeats 400000 in
set_option maxRecDepth 100000 in
theorem refBits_any (A : Option Addr) (len c : Nat) (xs : List UInt8) (w : World) (hn : xs.length = len) (hx : BytesAt w A xs) (hl : len ≤ 1000000) :
    Calls Try.prog 12 #[.slice A len c] w fun e w' => ∃ A' c', e = .returned (.slice A' (8 * len) c') ∧ OwnS w' w.heap.size (.slice A' (8 * len) c') 5 (bl (8 * len) (valB xs)) ∧ Below w.heap.size w w' := by
  subst hn
  obtain ⟨T, hT⟩ : ∃ T, T = 8 * xs.length := ⟨_, rfl⟩
  have hTl : (8 : Int) * (xs.length : Int) = (T : Int) := by omega
  rw [← hT]
  have HT := Lib.hid hT
  clear hT
  go_enter Try.func12, Try.ntmps12
  go_wp2_with fail
  go_loopw [3, 4] (fun l i wr => ∃ (k cl : Nat) (Al : Option Addr), k ≤ T ∧ i = .int .i64 k ∧ l = .slice Al k cl ∧ OwnS wr w.heap.size (.slice Al k cl) 5 (bl k (valB xs / 2 ^ (T - k))) ∧ Below w.heap.size w wr) (fun _ i _ => T - (intOf i).toNat)
  case atStart => exact ⟨0, 0, none, by omega, rfl, rfl, OwnS.nil _ _ _, Below.refl _ _⟩
  case round =>
    obtain ⟨k, cl, Al, hk, rfl, rfl, hol, hb⟩ := hrel
    by_cases hlt : k < T
    · have hT := HT.out
      have hq : k / 8 < xs.length := by omega
      obtain ⟨b, off, rfl, hc⟩ := (hx.below hb) (by intro h; subst h; simp at hq)
      have hcq := hc (k / 8) hq
      clear hc
      obtain ⟨x, hxv⟩ : ∃ x : Nat, x = xs[k / 8].toNat := ⟨_, rfl⟩
      have hx8 : x < 256 := by rw [hxv]; exact xs[k / 8].toNat_lt
      rw [← hxv] at hcq
      obtain ⟨q, hqv⟩ : ∃ q, q = k / 8 := ⟨_, rfl⟩
      obtain ⟨s, hs⟩ : ∃ s, s = 7 - k % 8 := ⟨_, rfl⟩
      have hsn := bl_bits_next xs k T x s hT hlt hq hxv hs
      rw [← hqv] at hcq
      have hqi : (k : Int) / 8 = (q : Int) := by omega
      have hsi : (7 : Int) - (k : Int) % 8 = (s : Int) := by omega
      have hs8 : s < 8 := by omega
      obtain ⟨t, ht⟩ : ∃ t, t = x / 2 ^ s % 2 := ⟨_, rfl⟩
      rw [← ht] at hsn
      have hxs : x / 2 ^ s < 256 := Nat.lt_of_le_of_lt (Nat.div_le_self _ _) hx8
      have hz : bits BinOp.and IntKind.u8 ((x : Int) / 2 ^ s) 1 = ((UInt8.ofNat t).toNat : Int) := by
        have e : ((x : Int) / 2 ^ s) = ((x / 2 ^ s : Nat) : Int) := by simp
        rw [e, and_one8 _ hxs, UInt8.toNat_ofNat']
        omega
      have HZ := Lib.hid hz
      have HSN := Lib.hid hsn.symm
      have hlen : (bl k (valB xs / 2 ^ (T - k))).length + 1 ≤ 140737488355328 := by rw [length_bl]; omega
      have hl2 : (bl (k + 1) (valB xs / 2 ^ (T - (k + 1)))).length = k + 1 := length_bl _ _
      have HL2 := Lib.hid hl2
      have hql : q < xs.length := by omega
      clear hz hsn hl2 hT ht hxv hqv hs hq
      go_wp2_with (at_builtin; refine wpList_append_z rfl (.tmp 12) (.tmp 23) 22 rfl Try.underlying22 infoU8 rfl (hol.alloc _) _ _ 1 [UInt8.ofNat t] (bl (k + 1) (valB xs / 2 ^ (T - (k + 1)))) rfl rfl (bytesAt_one _ _ _ _ HZ.out) HSN.out hlen (by have := hb.size; simp; omega) ?_; rw [HL2.out]; intro A3 c3 w3 ho3 hg3)
      go_roundw
      case rel => exact ⟨k + 1, c3, A3, by omega, by go_num, rfl, ho3, (hol.alloc _).belowGrown (Nat.le_refl _) (by have := hb.size; simp; omega) (below_alloc (Nat.le_refl _) hb _) hg3⟩
      case measure => simp [intOf]; omega
    · obtain rfl : k = T := by omega
      go_wp2_with fail
      go_ret
      rw [Nat.sub_self, Nat.pow_zero, Nat.div_one] at hol
      exact ⟨Al, cl, rfl, hol, hb⟩
end Go.Proofs.Ytanljjpjhihgcaa
