/- The walk of PackSame. -/
import Derived.Test.YtnpomochhbkefaaPkLaws
import Derived.Test.YtnpomochhbkefaaBitPl
import Derived.Laws.BitsAllLaws
namespace BitM
theorem low_or (v p : Nat) (hp : p < 64) (low : Nat) (hl : low = v &&& (18446744073709551615 - 2 ^ p)) : low ||| 2 ^ p = low + 2 ^ p ∧ low + 2 ^ p < 18446744073709551616 := by
  have hp2 : (2 : Nat) ^ p ≤ 2 ^ 63 := Nat.pow_le_pow_right (by omega) (by omega)
  have h64 : (18446744073709551616 : Nat) = 2 ^ 64 := by decide
  have hlow : low ≤ 18446744073709551615 - 2 ^ p := by rw [hl]; exact Nat.and_le_right
  have hbit : low.testBit p = false := by
    rw [hl, Nat.testBit_and]
    have e : 18446744073709551615 - 2 ^ p = 2 ^ 64 - (2 ^ p + 1) := by omega
    rw [e, Nat.testBit_two_pow_sub_succ (by omega), Nat.testBit_two_pow_self]
    simp
  have hpos : 0 < (2 : Nat) ^ p := Nat.pow_pos (by omega)
  refine ⟨?_, by omega⟩
  have hx : BitVec.ofNat 64 low &&& BitVec.ofNat 64 (2 ^ p) = 0#64 := by
    apply BitVec.eq_of_getLsbD_eq
    intro i hi
    simp only [BitVec.getLsbD_and, BitVec.getLsbD_ofNat, Nat.testBit_two_pow]
    by_cases h : p = i
    · subst h; simp [hbit]
    · simp [h]
  have h := BitVec.add_eq_or_of_and_eq_zero _ _ hx
  have h2 := congrArg BitVec.toNat h
  simp only [BitVec.toNat_add, BitVec.toNat_or, BitVec.toNat_ofNat] at h2
  rw [Nat.mod_eq_of_lt (show low < 2 ^ 64 by omega), Nat.mod_eq_of_lt (show 2 ^ p < 2 ^ 64 by omega), Nat.mod_eq_of_lt (by omega)] at h2
  exact h2.symm
theorem lenB_pow (p : Nat) : lenB (2 ^ p) = p + 1 := lenB_eq _ _ (Nat.pow_lt_pow_right (by omega) (by omega)) (.inr (by simp))
theorem pk8 {l : List Nat} (hne : l ≠ []) : ∃ rest, pk l = beN (lmin l) 8 ++ (UInt8.ofNat (wid l) :: rest) := by
  refine ⟨bytesW (tot (pks l)).1 (tot (pks l)).2, ?_⟩
  unfold pk
  have e : beN (wid l) 1 = [UInt8.ofNat (wid l)] := by simp [beN]
  rw [if_neg hne, List.append_assoc, e]
  rfl
theorem foldl_same (f : Nat → Nat → Nat) (v : Nat) (h : f v v = v) : ∀ k, (List.replicate k v).foldl f v = v
  | 0 => rfl
  | k + 1 => by rw [List.replicate_succ, List.foldl_cons, h, foldl_same f v h k]
theorem lmin_same (v k : Nat) (h : 0 < k) : lmin (List.replicate k v) = v := by
  obtain ⟨j, rfl⟩ : ∃ j, k = j + 1 := ⟨k - 1, by omega⟩
  exact foldl_same min v (by omega) j
theorem lmax_same (v k : Nat) (h : 0 < k) : lmax (List.replicate k v) = v := by
  obtain ⟨j, rfl⟩ : ∃ j, k = j + 1 := ⟨k - 1, by omega⟩
  exact foldl_same max v (by omega) j
theorem wid_same (v k : Nat) (h : 0 < k) : wid (List.replicate k v) = 0 := by
  unfold wid
  rw [lmin_same v k h, lmax_same v k h, Nat.sub_self]
  rfl
theorem wid_two (a p : Nat) : wid [a, a + 2 ^ p] = p + 1 := by
  have e1 : lmin [a, a + 2 ^ p] = a := by simp [lmin]
  have e2 : lmax [a, a + 2 ^ p] = a + 2 ^ p := by simp [lmax]
  unfold wid
  rw [e1, e2, Nat.add_sub_cancel_left, lenB_pow]
end BitM
namespace Go.Proofs.Ytnpomochhbkefaa
open Go.RowKit BitM RunM
set_option linter.unusedVariables false

theorem at8 {w : World} {A : Option Addr} {x : Nat} {c : UInt8} {r : List UInt8} (h : BytesAt w A (beN x 8 ++ (c :: r))) : ∃ b off, A = some ⟨b, off, none⟩ ∧ w.cell? ⟨b, off + 8, none⟩ = some (.int .u8 (c.toNat : Int)) := by
  obtain ⟨b, off, rfl, hc⟩ := h (by simp)
  refine ⟨b, off, rfl, ?_⟩
  rw [hc 8 (by simp [length_beN])]
  congr 3

set_option maxHeartbeats 1000000 in
set_option maxRecDepth 100000 in
theorem packSame_walk (v0 : Int) (hv0 : (Lit.int .u64 v0).wf = true) (a : Int) (ha : (Lit.int .i64 a).wf = true) (b : Int) (hb : (Lit.int .i64 b).wf = true) {w : World} :
    Calls Try.prog 12 #[.int .u64 v0, .int .i64 a, .int .i64 b] w fun e w' => e = .returned (.bool true) ∧ Below w.heap.size w w' := by
  obtain ⟨m1, m2⟩ : 0 ≤ v0 ∧ v0 < 18446744073709551616 := by have := bounds_u64 hv0; omega
  obtain ⟨v, rfl⟩ := Int.eq_ofNat_of_zero_le m1
  have hv : v < 18446744073709551616 := by omega
  clear hv0 m1 m2
  obtain ⟨k, hk1, hk2, hk⟩ := count200 a
  obtain ⟨p, hp, hpe⟩ := modn b 64 (by omega) (by omega)
  obtain ⟨iu, hiu, hz0, hz1, hz2⟩ := info_parts infoU64
  have hz3 : iu.bytes * k ≤ 281474976710656 := by rw [hz2]; omega
  clear hz2 ha hb
  go_enter Try.func12, Try.ntmps12
  go_upto_region 2 with (fail)
  rw [hk]
  clear hk
  go_wp2_with (at_make; refine wpList_make_full _ rfl (.tmp 21) (.tmp 21) 57 rfl w.heap.size 28 iu (.int .u64 0) 1 Try.underlying57 hiu hz0 hz1 .i64 .i64 k k k rfl rfl rfl rfl hz3 (by unfold maxLen; omega) (by exact Nat.le_refl _) ?_; intro w1 ho1 hg1)
  have hb1 := below_grown (Nat.le_refl _) (Below.refl _ _) hg1
  have ho1' := own_made ho1
  rw [← part_zero (fun _ => v)] at ho1'
  clear hg1 ho1
  go_loopw [9] (fun i wr => ∃ m : Nat, m ≤ k ∧ i = .int .i64 m ∧ OwnN wr w.heap.size (.slice (some ⟨w.heap.size, 0, none⟩) k k) (part (fun _ => v) k m) ∧ Below w.heap.size w wr) (fun i _ => k - (intOf i).toNat)
  case atStart => exact ⟨0, by omega, rfl, ho1', hb1⟩
  case round =>
    obtain ⟨m, hm, rfl, hoa, hb⟩ := hrel
    by_cases hlt : m < k
    · obtain ⟨ra1, ra2, ra3, ra4, ra5, ra6, ra7⟩ := OwnV.row hoa
      have ca := ra6 m (by rw [ra2]; exact hlt)
      have fa := ra7 m
      clear ra6 ra7
      go_wp2_with fail
      go_roundw
      case rel =>
        have ea : OwnN (wr.setCell ⟨w.heap.size, m, none⟩ (uv v)) w.heap.size (.slice (some ⟨w.heap.size, 0, none⟩) k k) (part (fun _ => v) k (m + 1)) := by
          have := OwnV.stored hoa m (uv v)
          rw [part_set (fun _ => v) k m hlt] at this
          exact this
        exact ⟨m + 1, by omega, by go_num, ea, hb.setCell ra1 _⟩
      case measure => simp [intOf]; omega
    · obtain rfl : m = k := by omega
      have el : part (fun _ => v) m m = List.replicate m v := by
        rw [part_all]
        apply List.ext_getElem <;> simp
      rw [el] at hoa
      have hnats := OwnN.nats hoa
      have hm1 : ∀ x ∈ List.replicate m v, x < 18446744073709551616 := fun x hx => by rw [(List.mem_replicate.1 hx).2]; exact hv
      have hne1 : List.replicate m v ≠ [] := by intro h; have := congrArg List.length h; simp at this; omega
      have hl1 : (pk (List.replicate m v)).length = 9 := by rw [pk_len hne1 hm1, wid_same v m hk1]; omega
      obtain ⟨r1, hr1⟩ := pk8 hne1
      rw [wid_same v m hk1] at hr1
      obtain ⟨low, hlow⟩ : ∃ low, low = v &&& (18446744073709551615 - 2 ^ p) := ⟨_, rfl⟩
      obtain ⟨lo1, lo2⟩ := low_or v p (by omega) low hlow
      obtain ⟨P2, hP2⟩ : ∃ P2, P2 = 2 ^ p := ⟨_, rfl⟩
      have hP64 : P2 < 18446744073709551616 := by omega
      have hlow64 : low < 18446744073709551616 := by omega
      have hm2 : ∀ x ∈ [low, low + P2], x < 18446744073709551616 := fun x hx => by simp at hx; rcases hx with rfl | rfl <;> omega
      have hl2 : (pk [low, low + P2]).length = 9 + (2 * (p + 1) + 7) / 8 := by rw [pk_len (by simp) hm2, hP2, wid_two]; rfl
      obtain ⟨r2, hr2⟩ := pk8 (l := [low, low + P2]) (by simp)
      rw [hP2, wid_two] at hr2
      rw [← hP2] at hr2 lo1 lo2 hlow
      have hand : bits BinOp.andNot IntKind.u64 (v : Int) (P2 : Int) = (low : Int) := by rw [u64_andNot_nat _ _ hv hP64, hlow]
      have hor : bits BinOp.or IntKind.u64 (low : Int) (P2 : Int) = ((low + P2 : Nat) : Int) := by rw [u64_or_nat _ _ hlow64 hP64, lo1]
      obtain ⟨hi, hhi⟩ : ∃ hi, hi = low + P2 := ⟨_, rfl⟩
      rw [← hhi] at hor hr2 hl2 hm2
      obtain ⟨q, hq⟩ : ∃ q, q = 9 + (2 * (p + 1) + 7) / 8 := ⟨_, rfl⟩
      rw [← hq] at hl2
      have HM1 := Lib.hid hm1
      have HL1 := Lib.hid hl1
      have HR1 := Lib.hid hr1
      have HM2 := Lib.hid hm2
      have HL2 := Lib.hid hl2
      have HR2 := Lib.hid hr2
      have HP2 := Lib.hid hP2
      have HQ := Lib.hid hq
      have HPE := Lib.hid hpe
      clear el hoa hm1 hne1 hl1 hr1 hlow lo1 lo2 hP2 hm2 hl2 hr2 hhi hq hpe
      go_upto_region 9 with (go_at_call 34; with_reducible refine (packPut_any (some ⟨w.heap.size, 0, none⟩) m m (List.replicate m v) _ (by simp) hnats hk2 HM1.out).mono ?_; rw [HL1.out]; rintro e w8 ⟨A8, c8, rfl, hx8, hb8, _, _⟩)
      rw [HPE.out]
      have e2 : (2 : Int) ^ p = (P2 : Int) := by rw [HP2.out]; push_cast; rfl
      have hs1 : IntKind.u64.wrap ((2 : Int) ^ p) = (P2 : Int) := by rw [e2, IntKind.wrap_u64]; omega
      rw [HR1.out] at hx8
      obtain ⟨b8, o8, rfl, hc8⟩ := at8 hx8
      have hq1 : ((q : Int) == 9 + (2 * ((p : Int) + 1) + 7) / 8) = true := by
        have := HQ.out
        rw [beq_iff_eq]
        omega
      have hq2 : ((9 : Int) + (2 * ((p : Int) + 1) + 7) / 8) = (q : Int) := by have := HQ.out; omega
      have hbw8 := hb.trans (hb8.mono hb.size)
      have hba : Below w8.heap.size w8 (w8.alloc (.cells #[.int .u64 (low : Int), .int .u64 (hi : Int)] 28)) := (Below.refl _ _).alloc (Nat.le_refl _) _
      have hn9 := nats_two w8 low hi low hi 28 rfl rfl
      clear hx8
      go_wp2_with (first
        | (go_at_call 34; with_reducible refine (packPut_any (some ⟨w8.heap.size, 0, none⟩) 2 2 [low, hi] _ rfl hn9 (by omega) HM2.out).mono ?_; rw [HL2.out]; rintro e w9 ⟨A9, c9, rfl, hx9, hb9, _, _⟩))
      rw [HR2.out] at hx9
      obtain ⟨b9, o9, rfl, hc9⟩ := at8 hx9
      have hu0 : ((UInt8.ofNat 0).toNat : Int) = 0 := rfl
      have hu1 : ((UInt8.ofNat (p + 1)).toNat : Int) = (p : Int) + 1 := by rw [UInt8.toNat_ofNat']; omega
      rw [hu0] at hc8
      rw [hu1] at hc9
      have hb89 : Below w8.heap.size w8 w9 := hba.trans (hb9.mono hba.size)
      have hbw9 := hbw8.trans (hb89.mono hbw8.size)
      have hc89 := (hb89.cell (p := ⟨b8, o8 + 8, none⟩) (World.block_lt_of_cell? _ _ hc8)).trans hc8
      clear hc8 hx9 hn9 hba hb9
      go_wp2_with (go_at_call 36; refine (pkputs_any _).mono ?_; rintro e w10 ⟨rfl, hb10⟩; have hd8 := (hb10.cell (p := ⟨b8, o8 + 8, none⟩) (World.block_lt_of_cell? _ _ hc89)).trans hc89; have hd9 := (hb10.cell (p := ⟨b9, o9 + 8, none⟩) (World.block_lt_of_cell? _ _ hc9)).trans hc9)
      go_ret
      exact ⟨rfl, hbw9.trans (hb10.mono hbw9.size)⟩
end Go.Proofs.Ytnpomochhbkefaa
