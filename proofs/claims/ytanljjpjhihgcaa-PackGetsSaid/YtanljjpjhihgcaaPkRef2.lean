/- The reference's Get of layer 6: its contract, of whatever bytes. -/
import Derived.Test.YtanljjpjhihgcaaPkGet2
import Derived.Test.YtanljjpjhihgcaaPkRef
namespace BitM
theorem mid_behind2 (B T p L k : Nat) (hL : L = T - p) : mid B T p (p + k) = mid B L 0 k := by
  subst hL
  unfold mid
  rw [show T - (p + k) = T - p - k by omega, Nat.add_sub_cancel_left, Nat.sub_zero]
theorem mid_byte1 (X : List UInt8) (len : Nat) (hlen : X.length = len) (i : Nat) (h : i < X.length) : mid (valB X) (8 * len) (8 * i) (8 * i + 8) = X[i].toNat := by
  subst hlen
  exact mid_byte0 X i h
/-- Bits of what stands behind. -/
theorem mid_drop (X : List UInt8) (j p q : Nat) (hj : j ≤ X.length) (hp : p ≤ q) (hq : q ≤ 8 * (X.length - j)) :
    mid (valB X) (8 * X.length) (8 * j + p) (8 * j + q) = mid (valB (X.drop j)) (8 * (X.length - j)) p q := by
  have e : valB X = valB (X.take j) * 256 ^ (X.length - j) + valB (X.drop j) := by
    have := valB_append (X.take j) (X.drop j)
    rw [List.take_append_drop, List.length_drop] at this
    exact this
  rw [e]
  unfold mid
  obtain ⟨s, hs⟩ : ∃ s, s = 8 * (X.length - j) - q := ⟨_, rfl⟩
  rw [show 8 * X.length - (8 * j + q) = s by omega, show 8 * (X.length - j) - q = s by omega, show 8 * j + q - (8 * j + p) = q - p by omega]
  have h256 : (256 : Nat) ^ (X.length - j) = 2 ^ s * (2 ^ (q - p) * 2 ^ p) := by
    rw [show (256 : Nat) = 2 ^ 8 from rfl, ← Nat.pow_mul, ← Nat.pow_add, ← Nat.pow_add]
    congr 1
    omega
  rw [h256, Nat.mul_left_comm, Nat.mul_add_div (Nat.pow_pos (by omega)), Nat.mul_left_comm, Nat.mul_add_mod]
/-- Where what Put would lay stands there as long as it is, it is as long as the header says. -/
theorem pk_same (X : List UInt8) (ns : List Nat) (n W sz : Nat) (hn : ns.length = n) (hpos : 0 < n) (hm : ∀ v ∈ ns, v < 18446744073709551616) (h9 : 9 ≤ X.length) (hW : mid (valB X) (8 * X.length) 64 72 = W) (hsz : sz = 9 + (n * W + 7) / 8)
    (hne : pk ns ≠ X.take sz) : pk ns ≠ X.take (min (pk ns).length X.length) := by
  intro h
  have hl : (pk ns).length ≤ X.length := by
    have := congrArg List.length h
    rw [List.length_take] at this
    omega
  rw [show min (pk ns).length X.length = (pk ns).length by omega] at h
  have hnn : ns ≠ [] := by intro h0; subst h0; simp at hn; omega
  have hw := wid_le ns hm
  have hpl := pk_len hnn hm
  have hparts := pk_parts hnn hw
  have h8 : (pk ns)[8]? = some (UInt8.ofNat (wid ns)) := by
    rw [hparts, List.getElem?_append_left (by simp [length_beN]), List.getElem?_append_right (by simp [length_beN])]
    simp [length_beN]
  have h8X : X[8]? = some (UInt8.ofNat (wid ns)) := by
    rw [h, List.getElem?_take] at h8
    rw [if_pos (by omega)] at h8
    exact h8
  have hb := mid_byte0 X 8 (by omega)
  rw [show 8 * 8 = 64 from rfl, hW] at hb
  obtain ⟨hlt, he⟩ := List.getElem?_eq_some_iff.1 h8X
  rw [he, UInt8.toNat_ofNat'] at hb
  have : W = wid ns := by omega
  apply hne
  rw [hsz, this, ← hn, ← hpl]
  exact h
end BitM
namespace Go.Proofs.Ytanljjpjhihgcaa
open Go.RowKit BitM RunM
set_option linter.unusedVariables false

theorem refGet_zero (A : Option Addr) (len c : Nat) (w : World) :
    Calls Try.prog 6 #[.slice A len c, .int .i64 0] w fun e w' => e = .returned (.tuple #[.slice none 0 0, .int .i64 0, .int .i64 0]) ∧ w = w' := by
  go_enter Try.func6, Try.ntmps6
  go_wp2_with fail
  go_ret3
  exact ⟨rfl, rfl⟩
theorem refGet_few (A : Option Addr) (len c n : Nat) (w : World) (hpos : 0 < n) (hl : len < 9) :
    Calls Try.prog 6 #[.slice A len c, .int .i64 (n : Int)] w fun e w' => e = .returned (.tuple #[.slice none 0 0, .int .i64 0, .int .i64 4]) ∧ w = w' := by
  have h0 : ((n : Int) == 0) = false := by rw [beq_eq_false_iff_ne]; omega
  go_enter Try.func6, Try.ntmps6
  go_wp2_with fail
  go_ret3
  exact ⟨rfl, rfl⟩
theorem refGet_wide (A : Option Addr) (len c n : Nat) (X : List UInt8) (W : Nat) (w : World) (hX : BytesAt w A X) (hlen : X.length = len) (hl : len ≤ 1000000) (h9 : 9 ≤ len) (hpos : 0 < n) (hn2 : n ≤ 200)
    (h1 : mid (valB X) (8 * len) 64 72 = W) (hW : 64 < W) (hW2 : W < 256) :
    Calls Try.prog 6 #[.slice A len c, .int .i64 (n : Int)] w fun e w' => e = .returned (.tuple #[.slice none 0 0, .int .i64 0, .int .i64 3]) ∧ w = w' := by
  subst hlen
  obtain ⟨b, off, rfl, hcc⟩ := hX (by intro h; subst h; simp at h9)
  have h8 := hcc 8 (by omega)
  rw [← mid_byte0 X 8 (by omega), show 8 * 8 = 64 from rfl, h1] at h8
  have h0 : ((n : Int) == 0) = false := by rw [beq_eq_false_iff_ne]; omega
  clear hcc h1
  go_enter Try.func6, Try.ntmps6
  go_wp2_with fail
  go_ret3
  exact ⟨rfl, rfl⟩
theorem refGet_short (A : Option Addr) (len c n : Nat) (X : List UInt8) (W : Nat) (w : World) (hX : BytesAt w A X) (hlen : X.length = len) (hl : len ≤ 1000000) (h9 : 9 ≤ len) (hpos : 0 < n) (hn2 : n ≤ 200)
    (h1 : mid (valB X) (8 * len) 64 72 = W) (hW : W ≤ 64) (hs : len < 9 + (n * W + 7) / 8) :
    Calls Try.prog 6 #[.slice A len c, .int .i64 (n : Int)] w fun e w' => e = .returned (.tuple #[.slice none 0 0, .int .i64 0, .int .i64 4]) ∧ w = w' := by
  subst hlen
  have hnw : n * W ≤ 200 * 64 := Nat.mul_le_mul hn2 hW
  obtain ⟨s, hs2⟩ : ∃ s, s = n * W := ⟨_, rfl⟩
  have hsi : (n : Int) * (W : Int) = (s : Int) := by rw [hs2]; push_cast; rfl
  rw [← hs2] at hs hnw
  obtain ⟨b, off, rfl, hcc⟩ := hX (by intro h; subst h; simp at h9)
  have h8 := hcc 8 (by omega)
  rw [← mid_byte0 X 8 (by omega), show 8 * 8 = 64 from rfl, h1] at h8
  have h0 : ((n : Int) == 0) = false := by rw [beq_eq_false_iff_ne]; omega
  clear hcc h1 hs2
  go_enter Try.func6, Try.ntmps6
  go_wp2_with fail
  go_ret3
  exact ⟨rfl, rfl⟩
set_option maxHeartbeats 400000 in
set_option maxRecDepth 100000 in
theorem refTake_y (A : Option Addr) (L c V : Nat) (n : Int) (w : World) (hx : BytesAt w A (bl L V)) (hl : L ≤ 100000000) (hc : L ≤ c) (hcm : c ≤ maxLen) (h0 : A = none → L = 0 ∧ c = 0) (h : wi n ≤ L) :
    Calls Try.prog 13 #[.slice A L c, .int .i64 n] w fun e w' => ∃ A', e = .returned (.tuple #[.int .u64 (mid V L 0 (wi n) : Nat), .slice A' (L - wi n) (c - wi n), .bool true]) ∧ (∀ w0, BytesAt w0 A (bl L V) → BytesAt w0 A' (bl (L - wi n) V)) ∧ Below w.heap.size w w' ∧ (A' = none → L - wi n = 0 ∧ c - wi n = 0) := by
  have hval := wi_val n
  have hwl := wi_le n
  obtain ⟨m, hm⟩ : ∃ m, m = wi n := ⟨_, rfl⟩
  rw [← hm] at hval h hwl ⊢
  unfold maxLen at hcm
  have hnlt : ¬ (L : Int) < (m : Int) := by omega
  clear hm
  go_enter Try.func13, Try.ntmps13
  go_wp2_with fail
  go_loop [7, 8] (fun v i => ∃ k : Nat, k ≤ m ∧ i = .int .i64 k ∧ v = .int .u64 (mid V L 0 k : Nat)) (fun _ i => m - (intOf i).toNat)
  case atStart => exact ⟨0, by omega, rfl, by rw [mid_none]; rfl⟩
  case round =>
    obtain ⟨k, hk, rfl, rfl⟩ := hrel
    by_cases hlt : k < m
    · have hkL : k < L := by omega
      obtain ⟨b, off, rfl, hcc⟩ := hx (by intro h0; have := congrArg List.length h0; simp [length_bl] at this; omega)
      have hck := hcc k (by rw [length_bl]; exact hkL)
      clear hcc
      rw [bl_get] at hck
      obtain ⟨t, ht⟩ : ∃ t, t = V / 2 ^ (L - 1 - k) % 2 := ⟨_, rfl⟩
      have ht2 : t < 2 := by omega
      have hmb := mid_bit V L k hkL
      rw [← ht] at hck hmb
      have htt : (UInt8.ofNat t).toNat = t := by rw [UInt8.toNat_ofNat']; omega
      rw [htt] at hck
      have hlt64 : mid V L 0 (k + 1) < 18446744073709551616 := by
        have h1 := mid_lt V L 0 (k + 1)
        have h2 : 2 ^ (k + 1 - 0) ≤ 2 ^ 64 := Nat.pow_le_pow_right (by omega) (by omega)
        omega
      obtain ⟨M, hM⟩ : ∃ M, M = mid V L 0 k := ⟨_, rfl⟩
      rw [← hM] at hmb ⊢
      have HMB := Lib.hid hmb
      have hlt2 : M * 2 + t < 18446744073709551616 := by omega
      clear hmb hM ht htt
      go_wp2_with fail
      go_round
      case rel =>
        refine ⟨k + 1, by omega, by go_num, ?_⟩
        rw [HMB.out]
        go_num
      case measure => simp [intOf]; omega
    · obtain rfl : k = m := by omega
      have hkc : (k : Int) ≤ (L : Int) := by omega
      have hcut := hx.cut k
      by_cases hck : c = k
      · go_wp2_with fail
        go_quiet (fail)
        go_wp2_with fail
        go_ret3
        refine ⟨A, by rw [show c - k = 0 by omega]; rfl, ?_, below_drewN (Below.refl _ _) _, fun _ => ⟨by omega, by omega⟩⟩
        have : L - k = 0 := by omega
        rw [this]
        exact fun _ _ => BytesAt.nil _ _
      · obtain ⟨a, rfl⟩ : ∃ a, A = some a := by
          cases A with
          | none => have := h0 rfl; omega
          | some a => exact ⟨a, rfl⟩
        go_wp2_with fail
        go_quiet (fail)
        go_wp2_with fail
        go_ret3
        refine ⟨some (a.add k), rfl, ?_, below_drewN (Below.refl _ _) _, fun h => by cases h⟩
        intro w0 hw0
        have := hw0.cut k (some (a.add k)) (fun _ => rfl)
        rw [bl_drop] at this
        exact this
theorem pk_len_le2 (n : Nat) (ns : List Nat) (hn : ns.length ≤ n) (hl : n ≤ 200) (hm : ∀ v ∈ ns, v < 18446744073709551616) : (pk ns).length ≤ 4000 := by
  by_cases hne : ns = []
  · subst hne
    simp [pk]
  · rw [pk_len hne hm]
    have h1 := Nat.mul_le_mul (show ns.length ≤ 200 by omega) (wid_le ns hm)
    omega

set_option maxHeartbeats 1000000 in
set_option maxRecDepth 100000 in
theorem refGet_main (A : Option Addr) (len c n : Nat) (X : List UInt8) (ns : List Nat) (m W sz : Nat) (w : World) (hX : BytesAt w A X) (hlen : X.length = len) (hl : len ≤ 1000000) (h9 : 9 ≤ len) (hc : len ≤ c) (hcm : c ≤ maxLen) (hpos : 0 < n) (hn2 : n ≤ 200)
    (h0 : mid (valB X) (8 * len) 0 64 = m) (h1 : mid (valB X) (8 * len) 64 72 = W) (hW : W ≤ 64) (hsz : sz = 9 + (n * W + 7) / 8) (hszl : sz ≤ len) (hns : ns.length = n) (hm64 : ∀ v ∈ ns, v < 18446744073709551616)
    (hk : ∀ k (h : k < ns.length), (m + mid (valB X) (8 * len) (72 + k * W) (72 + k * W + W)) % 18446744073709551616 = ns[k]) (ls : List Nat) (k0 er : Nat) (hu : (if pk ns = X.take sz then (ns, sz, 0) else ([], 0, 3)) = (ls, k0, er)) :
    Calls Try.prog 6 #[.slice A len c, .int .i64 (n : Int)] w fun e w' => ∃ A' c', e = .returned (.tuple #[.slice A' ls.length c', .int .i64 (k0 : Int), .int .i64 (er : Int)]) ∧ NatsAt w' A' ls ∧ Below w.heap.size w w' := by
  have hsame := fun h => pk_same X ns n W sz hns hpos hm64 (by omega) (by rw [hlen]; exact h1) hsz h
  have hplen := pk_len_le2 n ns (by omega) hn2 hm64
  have hnw : n * W ≤ 200 * 64 := Nat.mul_le_mul hn2 hW
  obtain ⟨s, hs2⟩ : ∃ s, s = n * W := ⟨_, rfl⟩
  have hsi : (n : Int) * (W : Int) = (s : Int) := by rw [hs2]; push_cast; rfl
  rw [← hs2] at hsz hnw
  obtain ⟨b, off, rfl, hcc⟩ := hX (by intro h; subst h; simp at hlen; omega)
  have h8 := hcc 8 (by omega)
  have hb8 := mid_byte1 X len hlen 8 (by omega)
  rw [show 8 * 8 = 64 from rfl, h1] at hb8
  rw [← hb8] at h8
  have hz0 : ((n : Int) == 0) = false := by rw [beq_eq_false_iff_ne]; omega
  have hszi : (9 : Int) + ((s : Int) + 7) / 8 = (sz : Int) := by omega
  have hwi : W = wi (W : Int) := by unfold wi; omega
  have hcells : ∀ k (h : k < 8), ∃ x : Nat, x < 256 ∧ w.cell? ⟨b, off + k, none⟩ = some (.int .u8 (x : Int)) ∧ mid (valB X) (8 * len) 0 (8 * (k + 1)) = mid (valB X) (8 * len) 0 (8 * k) * 256 + x := by
    intro k h
    refine ⟨X[k].toNat, X[k].toNat_lt, hcc k (by omega), ?_⟩
    have hb := mid_byte1 X len hlen k (by omega)
    have hm := mid_more (valB X) (8 * len) 0 (8 * k) 8 (by omega) (by omega)
    rw [show 8 * (k + 1) = 8 * k + 8 by omega, hm, hb]
  obtain ⟨l9, hl9⟩ : ∃ l9, l9 = len - 9 := ⟨_, rfl⟩
  have hx9l : (X.drop 9).length = l9 := by rw [List.length_drop, hlen, hl9]
  obtain ⟨B9, hB9⟩ : ∃ B9, B9 = valB (X.drop 9) := ⟨_, rfl⟩
  obtain ⟨T9, hT9⟩ : ∃ T9, T9 = 8 * l9 := ⟨_, rfl⟩
  have hsT : s ≤ T9 := by omega
  have hnum : ∀ k L (h : k < ns.length), L = T9 - k * W → W ≤ L ∧ (m + mid B9 L 0 W) % 18446744073709551616 = ns[k] := by
    intro k L h hL
    have hkW : (k + 1) * W ≤ n * W := Nat.mul_le_mul_right W (by omega)
    rw [Nat.add_mul, Nat.one_mul, ← hs2] at hkW
    refine ⟨by omega, ?_⟩
    rw [← hk k h, ← mid_behind2 B9 T9 (k * W) L W hL, hB9, hT9, hl9, ← hlen]
    congr 2
    have := mid_drop X 9 (k * W) (k * W + W) (by omega) (by omega) (by omega)
    rw [show 72 + k * W = 8 * 9 + k * W by omega, show 8 * 9 + k * W + W = 8 * 9 + (k * W + W) by omega, this]
  have HX := Lib.hid hlen
  have H0 := Lib.hid h0
  have HNUM := Lib.hid hnum
  have HCE := Lib.hid hcells
  have HNS := Lib.hid hns
  have HM64 := Lib.hid hm64
  have HWI := Lib.hid hwi
  have HS2 := Lib.hid hs2
  have HSZ := Lib.hid hsz
  have HU := Lib.hid hu
  have HSAME := Lib.hid hsame
  have HX9L := Lib.hid hx9l
  have HB9 := Lib.hid hB9
  have HT9 := Lib.hid hT9
  have HL9 := Lib.hid hl9
  have HXB := Lib.hid hX
  have HPL := Lib.hid hplen
  unfold maxLen at hcm
  clear hlen h0 h1 hk hns hm64 hwi hs2 hsz hu hsame hX hb8 hcells hcc hnum hx9l hB9 hT9 hl9 hplen
  go_enter Try.func6, Try.ntmps6
  go_wp2_with fail
  go_loop [8, 9] (fun v i => ∃ k : Nat, k ≤ 8 ∧ i = .int .i64 k ∧ v = .int .u64 (mid (valB X) (8 * len) 0 (8 * k) : Nat)) (fun _ i => 8 - (intOf i).toNat)
  case atStart => exact ⟨0, by omega, rfl, by rw [Nat.mul_zero, mid_none]; rfl⟩
  case round =>
    obtain ⟨k, hk, rfl, rfl⟩ := hrel
    by_cases hlt : k < 8
    · obtain ⟨x, hx, hck, hst⟩ := HCE.out k hlt
      have hb := mid_lt (valB X) (8 * len) 0 (8 * k)
      have hb2 : 2 ^ (8 * k - 0) ≤ 2 ^ 56 := Nat.pow_le_pow_right (by omega) (by omega)
      obtain ⟨M, hM⟩ : ∃ M, M = mid (valB X) (8 * len) 0 (8 * k) := ⟨_, rfl⟩
      rw [← hM] at hst hb ⊢
      have hM56 : M < 72057594037927936 := by omega
      have HST := Lib.hid hst
      clear hst hM hb hb2 h8
      go_wp2_with fail
      go_round
      case rel =>
        refine ⟨k + 1, by omega, by go_num, ?_⟩
        rw [HST.out]
        go_num
      case measure => simp [intOf]; omega
    · obtain rfl : k = 8 := by omega
      rw [show 8 * 8 = 64 from rfl, H0.out]
      by_cases hc9 : c = 9
      · have hx9 := HXB.out.cut 9 (some ⟨b, off, none⟩) (fun h => by have := HX.out; omega)
        subst hc9
        have hl9e : len - 9 = l9 := by have := HL9.out; omega
        go_wp2_with (go_at_call 12; go_loud (with_reducible refine (refBits_any (some ⟨b, off, none⟩) l9 _ (X.drop 9) _ HX9L.out hx9 (by omega)).mono ?_); rw [← HT9.out, ← HB9.out]; rintro e w1 ⟨A1, c1, rfl, ho1, hb1⟩)
        have hcp1 := ho1.caps
        have hx1 := ho1.bytes
        clear ho1
        go_loopw [10, 11, 12] (fun bs out i wr => ∃ (k L c' co : Nat) (A' Ao : Option Addr), k ≤ n ∧ i = .int .i64 k ∧ bs = .slice A' L c' ∧ out = .slice Ao k co ∧ Hid (L = T9 - k * W) ∧ L ≤ 8000000 ∧ BytesAt w1 A' (bl L B9) ∧ L ≤ c' ∧ c' ≤ maxLen ∧ (A' = none → L = 0 ∧ c' = 0) ∧ OwnN wr w1.heap.size (.slice Ao k co) (ns.take k) ∧ Below w1.heap.size w1 wr) (fun _ _ i _ => n - (intOf i).toNat)
        case atStart => exact ⟨0, T9, c1, 0, A1, none, by omega, rfl, rfl, rfl, Lib.hid (by omega), by have := HT9.out; have := HL9.out; omega, hx1, hcp1.2.1, hcp1.2.2.1, hcp1.2.2.2, OwnV.nil _ _ _, Below.refl _ _⟩
        case round =>
          obtain ⟨k, L, c', co, A', Ao, hkn, rfl, rfl, rfl, HL, hL8, hby, hLc, hcm', hnn, ho, hb⟩ := hrel
          by_cases hlt2 : k < n
          · have hkl : k < ns.length := by rw [HNS.out]; exact hlt2
            obtain ⟨hWL, hv0⟩ := HNUM.out k L hkl HL.out
            obtain ⟨M, hM⟩ : ∃ M, M = mid B9 L 0 W := ⟨_, rfl⟩
            rw [← hM] at hv0
            obtain ⟨v, hv⟩ : ∃ v, v = ns[k] := ⟨_, rfl⟩
            have hM64 : M < 18446744073709551616 := by
              have h1 := mid_lt B9 L 0 W
              have h2 : 2 ^ (W - 0) ≤ 2 ^ 64 := Nat.pow_le_pow_right (by omega) (by omega)
              omega
            rw [← hv] at hv0
            have hm640 : m < 18446744073709551616 := by
              have h1 := mid_lt (valB X) (8 * len) 0 64
              rw [H0.out] at h1
              exact h1
            have hadd : IntKind.u64.wrap ((m : Int) + (M : Int)) = (v : Int) := by rw [IntKind.wrap_u64]; omega
            have hadd2 : ((m : Int) + (M : Int)) % 18446744073709551616 = (v : Int) := by omega
            have htk : (ns.take k).map uv ++ [uv v] = (ns.take (k + 1)).map uv := by
              rw [List.take_add_one, List.getElem?_eq_getElem hkl, ← hv, List.map_append]
              rfl
            have htl : ((ns.take (k + 1)).map uv).length = k + 1 := by rw [List.length_map, List.length_take]; omega
            have hl1 : (((ns.take k).map uv).length + 1) * 8 ≤ 140737488355328 := by rw [List.length_map, List.length_take]; omega
            have hl2 : ((ns.take k).map uv).length + 1 ≤ maxLen := by rw [List.length_map, List.length_take]; unfold maxLen; omega
            have hL2 : L - W = T9 - (k + 1) * W := by rw [Nat.add_mul, Nat.one_mul, HL.out]; omega
            have hwl : wi (W : Int) ≤ L := by rw [← HWI.out]; exact hWL
            have HM := Lib.hid hM.symm
            have HADD := Lib.hid hadd
            have HTK := Lib.hid htk
            have HTL := Lib.hid htl
            have HL2 := Lib.hid hL2
            have HWL := Lib.hid hwl
            clear hv0 hv hM htk htl hL2 hwl hadd
            go_wp2_with (first
              | (go_at_call 13; go_loud (with_reducible refine (refTake_y A' L c' B9 (W : Int) _ (hby.below hb) (by omega) hLc hcm' hnn HWL.out).mono ?_); rw [← HWI.out, HM.out]; rintro e w2 ⟨A2, rfl, hby2, hb2, hnn2⟩; have ho2 : OwnN w2 w1.heap.size (.slice Ao k co) (ns.take k) := OwnV.below ho hb2; have hbb2 := hb.trans (hb2.mono hb.size))
              | (at_builtin; refine wpList_append_vz rfl (.tmp 64) (.tmp 68) 23 rfl Try.underlying23 _ 8 infoU64 rfl rfl (OwnV.alloc ho2 _) _ _ 1 [uv v] ((ns.take (k + 1)).map uv) rfl rfl (cellsAt_one _ _ _ _ (by simp only [uv]; first | rfl | rw [HADD.out] | (congr 1))) (uv_one [v]) HTK.out hl1 hl2 (by have := hbb2.size; simp; omega) ?_; rw [HTL.out]; intro A3 c3 w3 ho3 hg3))
            go_roundw
            case rel =>
              have hb3 := (OwnV.alloc ho2 _).belowGrown (Nat.le_refl _) (by have := hbb2.size; simp; omega) (below_alloc (Nat.le_refl _) hbb2 _) hg3
              exact ⟨k + 1, L - W, c' - W, c3, A2, A3, by omega, by go_num, rfl, rfl, HL2, by omega, hby2 _ hby, by omega, by omega, hnn2, ho3, hb3⟩
            case measure => simp [intOf]; omega
          · obtain rfl : k = n := by omega
            have htk : ns.take k = ns := by have := List.take_length (l := ns); rw [HNS.out] at this; exact this
            rw [htk] at ho
            have hnats := ho.nats
            obtain ⟨Z, hZ⟩ : ∃ Z, Z = pk ns := ⟨_, rfl⟩
            obtain ⟨pl, hpl⟩ : ∃ pl, pl = Z.length := ⟨_, rfl⟩
            obtain ⟨q, hq⟩ : ∃ q, q = min pl len := ⟨_, rfl⟩
            have hqi : min (pl : Int) (len : Int) = (q : Int) := by omega
            have hql : q ≤ len := by omega
            have hpl4 : pl ≤ 4000 := by have := HPL.out; rw [hpl, hZ]; exact this
            have HZ := Lib.hid hZ
            have HPLE := Lib.hid hpl
            have HQ := Lib.hid hq
            have hfin : ∃ Y, X.take q = Y ∧ ((pl ≤ len ∧ Z = Y ∧ ls = ns ∧ k0 = pl ∧ er = 0) ∨ ((Z == Y) = false ∧ ls = [] ∧ k0 = 0 ∧ er = 3)) := by
              refine ⟨_, rfl, ?_⟩
              have hu := HU.out
              by_cases he : pk ns = X.take sz
              · rw [if_pos he] at hu
                simp only [Prod.mk.injEq] at hu
                obtain ⟨rfl, rfl, rfl⟩ := hu
                have hzl := congrArg List.length he
                rw [List.length_take, HX.out] at hzl
                have hsp : sz = pl := by rw [hpl, hZ, hzl]; omega
                exact .inl ⟨by omega, by rw [hZ, he, show q = sz by omega], rfl, hsp, rfl⟩
              · rw [if_neg he] at hu
                simp only [Prod.mk.injEq] at hu
                obtain ⟨rfl, rfl, rfl⟩ := hu
                have h2 := HSAME.out he
                refine .inr ⟨?_, rfl, rfl, rfl⟩
                rw [beq_eq_false_iff_ne, hZ, hq, hpl, hZ, ← HX.out]
                exact h2
            obtain ⟨Y, hY, hfin⟩ := hfin
            have hxq := (HXB.out.take q)
            rw [hY] at hxq
            have hYl : Y.length = q := by rw [← hY, List.length_take, HX.out]; omega
            have HYL := Lib.hid hYl
            have HXQ := Lib.hid hxq
            clear hZ hpl hq hY hYl hxq
            go_wp2_with (go_at_call 14; with_reducible refine (refPackPut_any Ao k co ns _ HNS.out hnats hn2 HM64.out).mono ?_; rw [← HZ.out, ← HPLE.out]; rintro e w2 ⟨A2, c2, rfl, hx2, hb2⟩)
            have hbw : Below w.heap.size w w2 := (hb1.trans (hb.mono hb1.size)).trans (hb2.mono (by have := hb1.size; have := hb.size; omega))
            have hcA : ∀ y : SubW w2.heap.size w2, (convert 22 9 (.slice A2 pl c2)).run Try.prog y.at_ = .ok (.string ⟨Z.toArray⟩) y.at_ := fun y => text_n A2 pl c2 Z HPLE.out.symm (hx2.below y.ok_)
            have hcB : ∀ y : SubW w2.heap.size w2, (convert 22 9 (.slice (some ⟨b, off, none⟩) q 9)).run Try.prog y.at_ = .ok (.string ⟨Y.toArray⟩) y.at_ := fun y => text_n _ q _ Y HYL.out ((HXQ.out.below hbw).below y.ok_)
            rcases hfin with ⟨hpln, rfl, rfl, rfl, rfl⟩ | ⟨hne, rfl, rfl, rfl⟩
            · have hgt : decide ((len : Int) < (k0 : Int)) = false := by rw [decide_eq_false_iff_not]; omega
              refine region_over [] [0, 1, 2, 3, 4, 5, 6, 7, 8, 9, 10, 11, 12, 13, 14, 15, 16, 17] (by kernel_rfl) (by kernel_rfl) ?_
              rintro wd hbd
              rw [wpBl_nil]
              simp only [List.map_cons, List.map_nil, opAt, List.getElem?_toArray, List.getElem?_cons_zero, List.getElem?_cons_succ, Option.getD_some]
              repeat (go_big_quiet_step (fail))
              refine wpQuiet_nil ?_
              go_wp2_with fail
              go_ret3
              exact ⟨Ao, co, by rw [HNS.out]; rfl, ((hnats.below hb2).below hbd), hbw.trans (hbd.mono hbw.size)⟩
            · refine region_over [] [0, 1, 2, 3, 4, 5, 6, 7, 8, 9, 10, 11, 12, 13, 14, 15, 16, 17] (by kernel_rfl) (by kernel_rfl) ?_
              rintro wd hbd
              rw [wpBl_nil]
              simp only [List.map_cons, List.map_nil, opAt, List.getElem?_toArray, List.getElem?_cons_zero, List.getElem?_cons_succ, Option.getD_some]
              repeat (go_big_quiet_step (fail))
              refine wpQuiet_nil ?_
              go_wp2_with fail
              go_ret3
              exact ⟨none, 0, rfl, fun h => absurd rfl h, hbw.trans (hbd.mono hbw.size)⟩
      · have hx9 := HXB.out.cut 9 (some ⟨b, off + 9, none⟩) (fun _ => by rw [Option.map_some, Addr.add_lit])
        have hl9e : len - 9 = l9 := by have := HL9.out; omega
        go_wp2_with (go_at_call 12; with_reducible refine (refBits_any (some ⟨b, off + 9, none⟩) l9 _ (X.drop 9) _ HX9L.out hx9 (by omega)).mono ?_; rw [← HT9.out, ← HB9.out]; rintro e w1 ⟨A1, c1, rfl, ho1, hb1⟩)
        have hcp1 := ho1.caps
        have hx1 := ho1.bytes
        clear ho1
        go_loopw [10, 11, 12] (fun bs out i wr => ∃ (k L c' co : Nat) (A' Ao : Option Addr), k ≤ n ∧ i = .int .i64 k ∧ bs = .slice A' L c' ∧ out = .slice Ao k co ∧ Hid (L = T9 - k * W) ∧ L ≤ 8000000 ∧ BytesAt w1 A' (bl L B9) ∧ L ≤ c' ∧ c' ≤ maxLen ∧ (A' = none → L = 0 ∧ c' = 0) ∧ OwnN wr w1.heap.size (.slice Ao k co) (ns.take k) ∧ Below w1.heap.size w1 wr) (fun _ _ i _ => n - (intOf i).toNat)
        case atStart => exact ⟨0, T9, c1, 0, A1, none, by omega, rfl, rfl, rfl, Lib.hid (by omega), by have := HT9.out; have := HL9.out; omega, hx1, hcp1.2.1, hcp1.2.2.1, hcp1.2.2.2, OwnV.nil _ _ _, Below.refl _ _⟩
        case round =>
          obtain ⟨k, L, c', co, A', Ao, hkn, rfl, rfl, rfl, HL, hL8, hby, hLc, hcm', hnn, ho, hb⟩ := hrel
          by_cases hlt2 : k < n
          · have hkl : k < ns.length := by rw [HNS.out]; exact hlt2
            obtain ⟨hWL, hv0⟩ := HNUM.out k L hkl HL.out
            obtain ⟨M, hM⟩ : ∃ M, M = mid B9 L 0 W := ⟨_, rfl⟩
            rw [← hM] at hv0
            obtain ⟨v, hv⟩ : ∃ v, v = ns[k] := ⟨_, rfl⟩
            have hM64 : M < 18446744073709551616 := by
              have h1 := mid_lt B9 L 0 W
              have h2 : 2 ^ (W - 0) ≤ 2 ^ 64 := Nat.pow_le_pow_right (by omega) (by omega)
              omega
            rw [← hv] at hv0
            have hm640 : m < 18446744073709551616 := by
              have h1 := mid_lt (valB X) (8 * len) 0 64
              rw [H0.out] at h1
              exact h1
            have hadd : IntKind.u64.wrap ((m : Int) + (M : Int)) = (v : Int) := by rw [IntKind.wrap_u64]; omega
            have hadd2 : ((m : Int) + (M : Int)) % 18446744073709551616 = (v : Int) := by omega
            have htk : (ns.take k).map uv ++ [uv v] = (ns.take (k + 1)).map uv := by
              rw [List.take_add_one, List.getElem?_eq_getElem hkl, ← hv, List.map_append]
              rfl
            have htl : ((ns.take (k + 1)).map uv).length = k + 1 := by rw [List.length_map, List.length_take]; omega
            have hl1 : (((ns.take k).map uv).length + 1) * 8 ≤ 140737488355328 := by rw [List.length_map, List.length_take]; omega
            have hl2 : ((ns.take k).map uv).length + 1 ≤ maxLen := by rw [List.length_map, List.length_take]; unfold maxLen; omega
            have hL2 : L - W = T9 - (k + 1) * W := by rw [Nat.add_mul, Nat.one_mul, HL.out]; omega
            have hwl : wi (W : Int) ≤ L := by rw [← HWI.out]; exact hWL
            have HM := Lib.hid hM.symm
            have HADD := Lib.hid hadd
            have HTK := Lib.hid htk
            have HTL := Lib.hid htl
            have HL2 := Lib.hid hL2
            have HWL := Lib.hid hwl
            clear hv0 hv hM htk htl hL2 hwl hadd
            go_wp2_with (first
              | (go_at_call 13; go_loud (with_reducible refine (refTake_y A' L c' B9 (W : Int) _ (hby.below hb) (by omega) hLc hcm' hnn HWL.out).mono ?_); rw [← HWI.out, HM.out]; rintro e w2 ⟨A2, rfl, hby2, hb2, hnn2⟩; have ho2 : OwnN w2 w1.heap.size (.slice Ao k co) (ns.take k) := OwnV.below ho hb2; have hbb2 := hb.trans (hb2.mono hb.size))
              | (at_builtin; refine wpList_append_vz rfl (.tmp 64) (.tmp 68) 23 rfl Try.underlying23 _ 8 infoU64 rfl rfl (OwnV.alloc ho2 _) _ _ 1 [uv v] ((ns.take (k + 1)).map uv) rfl rfl (cellsAt_one _ _ _ _ (by simp only [uv]; first | rfl | rw [HADD.out] | (congr 1))) (uv_one [v]) HTK.out hl1 hl2 (by have := hbb2.size; simp; omega) ?_; rw [HTL.out]; intro A3 c3 w3 ho3 hg3))
            go_roundw
            case rel =>
              have hb3 := (OwnV.alloc ho2 _).belowGrown (Nat.le_refl _) (by have := hbb2.size; simp; omega) (below_alloc (Nat.le_refl _) hbb2 _) hg3
              exact ⟨k + 1, L - W, c' - W, c3, A2, A3, by omega, by go_num, rfl, rfl, HL2, by omega, hby2 _ hby, by omega, by omega, hnn2, ho3, hb3⟩
            case measure => simp [intOf]; omega
          · obtain rfl : k = n := by omega
            have htk : ns.take k = ns := by have := List.take_length (l := ns); rw [HNS.out] at this; exact this
            rw [htk] at ho
            have hnats := ho.nats
            obtain ⟨Z, hZ⟩ : ∃ Z, Z = pk ns := ⟨_, rfl⟩
            obtain ⟨pl, hpl⟩ : ∃ pl, pl = Z.length := ⟨_, rfl⟩
            obtain ⟨q, hq⟩ : ∃ q, q = min pl len := ⟨_, rfl⟩
            have hqi : min (pl : Int) (len : Int) = (q : Int) := by omega
            have hql : q ≤ len := by omega
            have hpl4 : pl ≤ 4000 := by have := HPL.out; rw [hpl, hZ]; exact this
            have HZ := Lib.hid hZ
            have HPLE := Lib.hid hpl
            have HQ := Lib.hid hq
            have hfin : ∃ Y, X.take q = Y ∧ ((pl ≤ len ∧ Z = Y ∧ ls = ns ∧ k0 = pl ∧ er = 0) ∨ ((Z == Y) = false ∧ ls = [] ∧ k0 = 0 ∧ er = 3)) := by
              refine ⟨_, rfl, ?_⟩
              have hu := HU.out
              by_cases he : pk ns = X.take sz
              · rw [if_pos he] at hu
                simp only [Prod.mk.injEq] at hu
                obtain ⟨rfl, rfl, rfl⟩ := hu
                have hzl := congrArg List.length he
                rw [List.length_take, HX.out] at hzl
                have hsp : sz = pl := by rw [hpl, hZ, hzl]; omega
                exact .inl ⟨by omega, by rw [hZ, he, show q = sz by omega], rfl, hsp, rfl⟩
              · rw [if_neg he] at hu
                simp only [Prod.mk.injEq] at hu
                obtain ⟨rfl, rfl, rfl⟩ := hu
                have h2 := HSAME.out he
                refine .inr ⟨?_, rfl, rfl, rfl⟩
                rw [beq_eq_false_iff_ne, hZ, hq, hpl, hZ, ← HX.out]
                exact h2
            obtain ⟨Y, hY, hfin⟩ := hfin
            have hxq := (HXB.out.take q)
            rw [hY] at hxq
            have hYl : Y.length = q := by rw [← hY, List.length_take, HX.out]; omega
            have HYL := Lib.hid hYl
            have HXQ := Lib.hid hxq
            clear hZ hpl hq hY hYl hxq
            go_wp2_with (go_at_call 14; with_reducible refine (refPackPut_any Ao k co ns _ HNS.out hnats hn2 HM64.out).mono ?_; rw [← HZ.out, ← HPLE.out]; rintro e w2 ⟨A2, c2, rfl, hx2, hb2⟩)
            have hbw : Below w.heap.size w w2 := (hb1.trans (hb.mono hb1.size)).trans (hb2.mono (by have := hb1.size; have := hb.size; omega))
            have hcA : ∀ y : SubW w2.heap.size w2, (convert 22 9 (.slice A2 pl c2)).run Try.prog y.at_ = .ok (.string ⟨Z.toArray⟩) y.at_ := fun y => text_n A2 pl c2 Z HPLE.out.symm (hx2.below y.ok_)
            have hcB : ∀ y : SubW w2.heap.size w2, (convert 22 9 (.slice (some ⟨b, off, none⟩) q c)).run Try.prog y.at_ = .ok (.string ⟨Y.toArray⟩) y.at_ := fun y => text_n _ q _ Y HYL.out ((HXQ.out.below hbw).below y.ok_)
            rcases hfin with ⟨hpln, rfl, rfl, rfl, rfl⟩ | ⟨hne, rfl, rfl, rfl⟩
            · have hgt : decide ((len : Int) < (k0 : Int)) = false := by rw [decide_eq_false_iff_not]; omega
              refine region_over [] [0, 1, 2, 3, 4, 5, 6, 7, 8, 9, 10, 11, 12, 13, 14, 15, 16, 17] (by kernel_rfl) (by kernel_rfl) ?_
              rintro wd hbd
              rw [wpBl_nil]
              simp only [List.map_cons, List.map_nil, opAt, List.getElem?_toArray, List.getElem?_cons_zero, List.getElem?_cons_succ, Option.getD_some]
              repeat (go_big_quiet_step (fail))
              refine wpQuiet_nil ?_
              go_wp2_with fail
              go_ret3
              exact ⟨Ao, co, by rw [HNS.out]; rfl, ((hnats.below hb2).below hbd), hbw.trans (hbd.mono hbw.size)⟩
            · refine region_over [] [0, 1, 2, 3, 4, 5, 6, 7, 8, 9, 10, 11, 12, 13, 14, 15, 16, 17] (by kernel_rfl) (by kernel_rfl) ?_
              rintro wd hbd
              rw [wpBl_nil]
              simp only [List.map_cons, List.map_nil, opAt, List.getElem?_toArray, List.getElem?_cons_zero, List.getElem?_cons_succ, Option.getD_some]
              repeat (go_big_quiet_step (fail))
              refine wpQuiet_nil ?_
              go_wp2_with fail
              go_ret3
              exact ⟨none, 0, rfl, fun h => absurd rfl h, hbw.trans (hbd.mono hbw.size)⟩

/-- The reference's Get of whatever bytes and count up to 200. -/
theorem refGet_any (A : Option Addr) (len c n : Nat) (X : List UInt8) (w : World) (hX : BytesAt w A X) (hlen : X.length = len) (hl : len ≤ 1000000) (hc : len ≤ c) (hcm : c ≤ maxLen) (hn2 : n ≤ 200) (ns : List Nat) (k er : Nat) (hu : unpk X n = (ns, k, er)) :
    Calls Try.prog 6 #[.slice A len c, .int .i64 (n : Int)] w fun e w' => ∃ A' c', e = .returned (.tuple #[.slice A' ns.length c', .int .i64 (k : Int), .int .i64 (er : Int)]) ∧ NatsAt w' A' ns ∧ Below w.heap.size w w' := by
  subst hlen
  have hnone : ∀ w' : World, NatsAt w' none [] := fun _ h => absurd rfl h
  unfold unpk at hu
  by_cases h0 : n = 0
  · subst h0
    simp only [if_true, Prod.mk.injEq] at hu
    obtain ⟨rfl, rfl, rfl⟩ := hu
    refine (refGet_zero A _ c w).mono ?_
    rintro e w' ⟨rfl, rfl⟩
    exact ⟨none, 0, rfl, hnone _, Below.refl _ _⟩
  rw [if_neg h0] at hu
  by_cases h9 : X.length < 9
  · rw [if_pos h9] at hu
    simp only [Prod.mk.injEq] at hu
    obtain ⟨rfl, rfl, rfl⟩ := hu
    refine (refGet_few A _ c n w (by omega) h9).mono ?_
    rintro e w' ⟨rfl, rfl⟩
    exact ⟨none, 0, rfl, hnone _, Below.refl _ _⟩
  rw [if_neg h9] at hu
  obtain ⟨m, hm⟩ : ∃ m, mid (valB X) (8 * X.length) 0 64 = m := ⟨_, rfl⟩
  obtain ⟨W, hW⟩ : ∃ W, mid (valB X) (8 * X.length) 64 72 = W := ⟨_, rfl⟩
  have hW2 : W < 256 := by rw [← hW]; exact mid_lt _ _ _ _
  simp only [hm, hW] at hu
  by_cases h64 : 64 < W
  · rw [if_pos h64] at hu
    simp only [Prod.mk.injEq] at hu
    obtain ⟨rfl, rfl, rfl⟩ := hu
    refine (refGet_wide A _ c n X W w hX rfl hl (by omega) (by omega) hn2 hW h64 hW2).mono ?_
    rintro e w' ⟨rfl, rfl⟩
    exact ⟨none, 0, rfl, hnone _, Below.refl _ _⟩
  rw [if_neg h64] at hu
  by_cases hs : X.length < 9 + (n * W + 7) / 8
  · rw [if_pos hs] at hu
    simp only [Prod.mk.injEq] at hu
    obtain ⟨rfl, rfl, rfl⟩ := hu
    refine (refGet_short A _ c n X W w hX rfl hl (by omega) (by omega) hn2 hW (by omega) hs).mono ?_
    rintro e w' ⟨rfl, rfl⟩
    exact ⟨none, 0, rfl, hnone _, Below.refl _ _⟩
  rw [if_neg hs] at hu
  have hk : ∀ k (h : k < (numsAt X m W n).length), (m + mid (valB X) (8 * X.length) (72 + k * W) (72 + k * W + W)) % 18446744073709551616 = (numsAt X m W n)[k] := fun k h => by rw [numsAt_get]; rfl
  exact refGet_main A _ c n X _ m W _ w hX rfl hl (by omega) hc hcm (by omega) hn2 hm hW (by omega) rfl (by omega) (numsAt_length _ _ _ _) (numsAt_lt _ _ _ _) hk ns k er hu
end Go.Proofs.Ytanljjpjhihgcaa
