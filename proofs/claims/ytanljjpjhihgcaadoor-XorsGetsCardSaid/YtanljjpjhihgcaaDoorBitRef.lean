/- The reference's calls of layer 4: their contracts. -/
import Derived.Test.YtanljjpjhihgcaaDoorBitTake
namespace Go.Proofs.YtanljjpjhihgcaaDoor
open Go.RowKit BitM
set_option linter.unusedVariables false

theorem and_one (x : Nat) (hx : x < 18446744073709551616) : bits BinOp.and IntKind.u64 (x : Int) 1 = ((x % 2 : Nat) : Int) := by
  have e : bits BinOp.and IntKind.u64 (x : Int) ((1 : Nat) : Int) = ((x &&& 1 : Nat) : Int) := u64_and_nat _ _ hx (by omega)
  rw [Nat.and_one_is_mod] at e
  exact e
theorem and_one8 (x : Nat) (hx : x < 256) : bits BinOp.and IntKind.u8 (x : Int) 1 = ((x % 2 : Nat) : Int) := by
  have e : bits BinOp.and IntKind.u8 (x : Int) ((1 : Nat) : Int) = ((x &&& 1 : Nat) : Int) := u8_and_nat _ _ hx (by omega)
  rw [Nat.and_one_is_mod] at e
  exact e

set_option maxHeartbeats 400000 in
set_option maxRecDepth 100000 in
theorem refBitPut (A : Option Addr) (len c L V v : Nat) (n : Int) (w : World) (base : Nat) (ho : OwnS w base (.slice A len c) 5 (bl L V)) (hbase : base ≤ w.heap.size) (hl : len ≤ 100000000) (hv : v < 18446744073709551616) :
    Calls Tryd.prog 38 #[.slice A len c, .int .u64 (v : Int), .int .i64 n] w fun e w' => ∃ A' c', e = .returned (.slice A' (L + wi n) c') ∧ OwnS w' base (.slice A' (L + wi n) c') 5 (bl (L + wi n) (V * 2 ^ wi n + v % 2 ^ wi n)) ∧ Below base w w' := by
  have hcap := ho.caps
  have hL : L = len := by rw [← hcap.1, length_bl]
  subst hL
  have hwl := wi_le n
  have hval := wi_val n
  obtain ⟨m, hm⟩ : ∃ m, m = wi n := ⟨_, rfl⟩
  rw [← hm] at hwl hval ⊢
  rw [← upto_all]
  clear hm hcap
  have HVAL := Lib.hid hval
  go_enter Tryd.func38, Tryd.ntmps38
  go_wp2_with fail
  go_loopw [0, 7] (fun l i wr => ∃ (j nl cl : Nat) (Al : Option Addr), j ≤ m ∧ Hid (nl = L + j) ∧ i = .int .i64 ((m : Int) - (j : Int) - 1) ∧ l = .slice Al nl cl ∧ OwnS wr base (.slice Al nl cl) 5 (bl nl (upto V v m j)) ∧ Below base w wr) (fun _ i _ => (intOf i + 1).toNat)
  case atStart =>
    refine ⟨0, L, c, A, by omega, Lib.hid rfl, ?_, rfl, by rw [upto_zero]; exact ho, Below.refl _ _⟩
    congr 1
  case round =>
    obtain ⟨j, nl, cl, Al, hj, HNL, rfl, rfl, hol, hb⟩ := hrel
    by_cases hlt : j < m
    · obtain ⟨i, hi⟩ : ∃ i, i = m - (j + 1) := ⟨_, rfl⟩
      have hii : (m : Int) - (j : Int) - 1 = (i : Int) := by omega
      rw [hii]
      have hx : v / 2 ^ i < 18446744073709551616 := Nat.lt_of_le_of_lt (Nat.div_le_self _ _) hv
      have hbit := and_one _ hx
      obtain ⟨t, ht⟩ : ∃ t, t = v / 2 ^ i % 2 := ⟨_, rfl⟩
      have ht2 : t < 2 := by omega
      rw [← ht] at hbit
      have hup := upto_succ V v m j hlt
      rw [← hi, ← ht] at hup
      have hz : bits BinOp.and IntKind.u64 ((v : Int) / 2 ^ i) 1 % 256 = ((UInt8.ofNat t).toNat : Int) := by
        have e : ((v : Int) / 2 ^ i) = ((v / 2 ^ i : Nat) : Int) := by simp
        rw [e, hbit, UInt8.toNat_ofNat']
        omega
      have hsn := bl_snoc nl (upto V v m j) t ht2
      rw [← hup] at hsn
      have hi64 : i < 64 := by omega
      have HSN := Lib.hid hsn.symm
      have HI := Lib.hid hi
      have HZ := Lib.hid hz
      have hlen : (bl nl (upto V v m j)).length + 1 ≤ 140737488355328 := by rw [length_bl]; have := HNL.out; omega
      have hl2 : (bl (nl + 1) (upto V v m (j + 1))).length = nl + 1 := length_bl _ _
      have HL2 := Lib.hid hl2
      clear hii hbit ht hup hz hsn hi hl2
      go_wp2_with (at_builtin; refine wpList_append_z rfl (.tmp 16) (.tmp 22) 24 rfl Tryd.underlying24 infoU8 rfl (hol.alloc _) _ _ 1 [UInt8.ofNat t] (bl (nl + 1) (upto V v m (j + 1))) rfl rfl (bytesAt_one _ _ _ _ HZ.out) HSN.out hlen (by have := hb.size; simp; omega) ?_; rw [HL2.out]; intro A3 c3 w3 ho3 hg3)
      go_roundw
      case rel =>
        refine ⟨j + 1, nl + 1, c3, A3, by omega, Lib.hid (by have := HNL.out; omega), ?_, rfl, ho3, (hol.alloc _).belowGrown (Nat.le_refl _) (by have := hb.size; simp; omega) (below_alloc hbase hb _) hg3⟩
        have := HI.out
        have e : (m : Int) - ((j + 1 : Nat) : Int) - 1 = (i : Int) - 1 := by omega
        rw [e]
      case measure => simp [intOf]
    · obtain rfl : j = m := by omega
      have e : (j : Int) - (j : Int) - 1 = -1 := by omega
      rw [e]
      have hnl := HNL.out
      subst hnl
      go_wp2_with fail
      go_ret
      exact ⟨Al, cl, rfl, hol, hb⟩

theorem bl_bits_succ (xs : List UInt8) (i : Nat) (hi : i < 8 * xs.length) :
    bl (i + 1) (valB xs / 2 ^ (8 * xs.length - (i + 1))) = bl i (valB xs / 2 ^ (8 * xs.length - i)) ++ [UInt8.ofNat (xs[i / 8].toNat / 2 ^ (7 - i % 8) % 2)] := by
  have e : valB xs / 2 ^ (8 * xs.length - (i + 1)) = valB xs / 2 ^ (8 * xs.length - i) * 2 + xs[i / 8].toNat / 2 ^ (7 - i % 8) % 2 := by
    have h1 : 8 * xs.length - i = (8 * xs.length - (i + 1)) + 1 := by omega
    have h2 := mid_byte xs i 1 (by omega) (by omega)
    unfold mid at h2
    rw [show i + 1 - i = 1 by omega, Nat.pow_one, show 8 - i % 8 - 1 = 7 - i % 8 by omega] at h2
    rw [← h2, h1, Nat.pow_succ, ← Nat.div_div_eq_div_mul]
    omega
  rw [e, bl_snoc _ _ _ (by omega)]

theorem bl_bits_next (xs : List UInt8) (i T x s : Nat) (hT : T = 8 * xs.length) (hi : i < T) (h : i / 8 < xs.length) (hx : x = (xs[i / 8]'h).toNat) (hs : s = 7 - i % 8) :
    bl (i + 1) (valB xs / 2 ^ (T - (i + 1))) = bl i (valB xs / 2 ^ (T - i)) ++ [UInt8.ofNat (x / 2 ^ s % 2)] := by
  subst hT hx hs
  exact bl_bits_succ xs i hi

end Go.Proofs.YtanljjpjhihgcaaDoor
