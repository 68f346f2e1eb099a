/- Take and Bytes of layer 4's reference: their contracts. -/
import Derived.Test.YtanljjpjhihgcaaDoorBitRef
import Derived.Test.YtanljjpjhihgcaaDoorTail
namespace Go.Proofs.YtanljjpjhihgcaaDoor
open Go.RowKit BitM
set_option linter.unusedVariables false

theorem mid_bit (V L i : Nat) (hi : i < L) : mid V L 0 (i + 1) = mid V L 0 i * 2 + V / 2 ^ (L - 1 - i) % 2 := by
  rw [mid_more V L 0 i 1 (by omega) (by omega), Nat.pow_one]
  unfold mid
  rw [show i + 1 - i = 1 by omega, Nat.pow_one, show L - (i + 1) = L - 1 - i by omega]

theorem replicate_bv (k : Nat) : (madeCells (Value.int .u8 0).cells (k * 1)).toList = (List.replicate k (0 : UInt8)).map bv := by
  have e : madeCells (Value.int .u8 0).cells (k * 1) = Array.replicate k (.int .u8 0) := by
    apply Array.ext
    · simp [madeCells]
    · intro i h1 h2
      simp [madeCells, Value.cells, Nat.mod_one]
  rw [e]
  simp [bv]
theorem own_made8 {w : World} {base k : Nat} {v : Value} (h : w.ownsRow base 5 1 v k (madeCells (Value.int .u8 0).cells (k * 1)).toList) : OwnS w base v 5 (List.replicate k 0) := by
  rw [replicate_bv] at h
  unfold OwnS
  rw [List.length_replicate]
  exact h
theorem OwnS.stored {w : World} {base g n cap : Nat} {E : TypeId} {xs : List UInt8} (h : OwnS w base (.slice (some ⟨g, 0, none⟩) n cap) E xs) (j : Nat) (hj : j < xs.length) (c : UInt8) :
    OwnS (w.setCell ⟨g, j, none⟩ (.int .u8 (c.toNat : Int))) base (.slice (some ⟨g, 0, none⟩) n cap) E (xs.set j c) := by
  have hn := h.caps.1
  subst hn
  have := OwnB.stored (h : OwnB w base g cap E xs) j hj c
  unfold OwnS
  unfold OwnB at this
  rw [List.length_set] at *
  exact this
theorem OwnS.cellAt {w : World} {base g n cap : Nat} {E : TypeId} {xs : List UInt8} (h : OwnS w base (.slice (some ⟨g, 0, none⟩) n cap) E xs) (j : Nat) (hj : j < xs.length) :
    w.cell? ⟨g, j, none⟩ = some (.int .u8 ((xs.getD j 0).toNat : Int)) ∧ w.frozen? ⟨g, j, none⟩ = false := by
  have hn := h.caps.1
  subst hn
  exact ⟨OwnB.cellAt (h : OwnB w base g cap E xs) j hj, OwnB.frozenAt (h : OwnB w base g cap E xs) j⟩

theorem or_byte (a b s : Nat) (hs : s ≤ 7) (ha : a % 2 ^ (s + 1) = 0) (hb : b < 2) (h : a + b * 2 ^ s < 256) :
    bits BinOp.or IntKind.u8 (a : Int) (IntKind.u8.wrap ((b : Int) * 2 ^ s)) = ((a + b * 2 ^ s : Nat) : Int) := by
  have e1 : (b : Int) * 2 ^ s = ((b * 2 ^ s : Nat) : Int) := by simp
  have e2 : IntKind.u8.wrap ((b * 2 ^ s : Nat) : Int) = ((b * 2 ^ s : Nat) : Int) := by rw [IntKind.wrap_u8]; omega
  rw [e1, e2, u8_or_nat _ _ (by omega) (by omega)]
  congr 1
  have h1 : a = a / 2 ^ (s + 1) * 2 ^ (s + 1) := by have := Nat.div_add_mod' a (2 ^ (s + 1)); omega
  have h2 : b * 2 ^ s < 2 ^ (s + 1) := by
    rw [Nat.pow_succ]
    have : b * 2 ^ s ≤ 1 * 2 ^ s := Nat.mul_le_mul_right _ (by omega)
    have : 0 < 2 ^ s := Nat.pow_pos (by omega)
    omega
  generalize a / 2 ^ (s + 1) = q at h1
  rw [h1, ← Nat.shiftLeft_eq q, ← Nat.shiftLeft_add_eq_or_of_lt h2]

set_option maxHeartbeats 400000 in
set_option maxRecDepth 100000 in
theorem refBytes_any (A : Option Addr) (L c V : Nat) (w : World) (hx : BytesAt w A (bl L V)) (hl : L ≤ 100000000) (hV : V < 2 ^ L) :
    Calls Tryd.prog 39 #[.slice A L c] w fun e w' => ∃ A' c', e = .returned (.slice A' ((L + 7) / 8) c') ∧ OwnS w' w.heap.size (.slice A' ((L + 7) / 8) c') 5 (bytesW L V) ∧ Below w.heap.size w w' := by
  obtain ⟨nb, hnb⟩ : ∃ nb, nb = (L + 7) / 8 := ⟨_, rfl⟩
  have hnbi : ((L : Int) + 7) / 8 = (nb : Int) := by omega
  obtain ⟨iu, hiu, hz0, hz1, hz2⟩ := info_parts infoU8
  have hz3 : iu.bytes * nb ≤ 281474976710656 := by rw [hz2]; omega
  rw [← hnb]
  have HNB := Lib.hid hnb
  have hnl : nb ≤ 100000000 := by omega
  clear hnb hz2
  go_enter Tryd.func39, Tryd.ntmps39
  go_wp2_with (at_make; refine wpList_make_full _ rfl (.tmp 8) (.tmp 8) 24 rfl w.heap.size 5 iu (.int .u8 0) 1 Tryd.underlying24 hiu hz0 hz1 .i64 .i64 (((L : Int) + 7) / 8) (((L : Int) + 7) / 8) nb rfl rfl hnbi hnbi hz3 (by unfold maxLen; omega) (Nat.le_refl _) ?_; intro w1 ho1 hg1)
  have ho := own_made8 ho1
  have hb := grown_below hg1
  have hz := laid_zero L V hV
  rw [← HNB.out] at hz
  rw [← hz] at ho
  have hV0 := Lib.hid hV
  clear hz ho1 hg1 hnbi hV
  go_loopw [4] (fun i wr => ∃ k : Nat, k ≤ L ∧ i = .int .i64 k ∧ OwnS wr w.heap.size (.slice (some ⟨w.heap.size, 0, none⟩) nb nb) 5 (laid L V k) ∧ Below w.heap.size w wr) (fun i _ => L - (intOf i).toNat)
  case atStart => exact ⟨0, by omega, rfl, ho, hb⟩
  case round =>
    obtain ⟨k, hk, rfl, hol, hb⟩ := hrel
    by_cases hlt : k < L
    · have hNB := HNB.out
      obtain ⟨b, hbv, hmod, h256, hstep⟩ := laid_step L V k hlt
      have hq : k / 8 < (laid L V k).length := by rw [length_laid]; omega
      obtain ⟨oc, of⟩ := hol.cellAt (k / 8) hq
      obtain ⟨bb, off, rfl, hcc⟩ := (hx.below hb) (by intro h0; have := congrArg List.length h0; simp [length_bl] at this; omega)
      have hck := hcc k (by rw [length_bl]; exact hlt)
      clear hcc
      rw [bl_get, ← hbv] at hck
      have hb2 : b < 2 := by omega
      have htt : (UInt8.ofNat b).toNat = b := by rw [UInt8.toNat_ofNat']; omega
      rw [htt] at hck
      obtain ⟨a, hav⟩ : ∃ a, a = ((laid L V k).getD (k / 8) 0).toNat := ⟨_, rfl⟩
      rw [← hav] at oc hmod h256 hstep
      obtain ⟨q, hqv⟩ : ∃ q, q = k / 8 := ⟨_, rfl⟩
      obtain ⟨s, hsv⟩ : ∃ s, s = 7 - k % 8 := ⟨_, rfl⟩
      rw [← hqv] at oc of hstep hq
      rw [← hsv] at hmod h256 hstep
      have hqi : (k : Int) / 8 = (q : Int) := by omega
      have hqt : (k : Int).tdiv 8 = (q : Int) := by rw [Int.tdiv_eq_ediv_of_nonneg (by omega)]; exact hqi
      have hqw : IntKind.i64.wrap (q : Int) = (q : Int) := IntWalk.i64_in _ (by omega)
      have hst : (k : Int).tmod 8 = (k : Int) % 8 := Int.tmod_eq_emod_of_nonneg (by omega)
      have hsi : (7 : Int) - (k : Int) % 8 = (s : Int) := by omega
      have hsw : IntKind.i64.wrap ((7 : Int) - (k : Int) % 8) = (s : Int) := by rw [IntWalk.i64_in _ (by omega)]; exact hsi
      have hor := or_byte a b s (by omega) hmod hb2 h256
      rw [IntKind.wrap_u8] at hor
      have hqn : q < nb := by rw [length_laid] at hq; omega
      have hs7 : s ≤ 7 := by omega
      have HOR := Lib.hid hor
      have HSTEP := Lib.hid hstep
      have HQ := Lib.hid hq
      clear hor hstep hq hqv hsv hav hbv hmod hNB htt
      go_wp2_with fail
      have hlo : w.heap.size < wr.heap.size := (hol.block _ rfl).2
      have hlb := World.block_lt_of_cell? wr _ hck
      have k0 : ∀ y : SubW wr.heap.size wr, y.at_.cell? ⟨w.heap.size, q, none⟩ = some (.int .u8 (a : Int)) := fun y => (World.cell?_of_block (a := ⟨w.heap.size, q, none⟩) (y.ok_.block _ hlo)).trans oc
      have k1 : ∀ y : SubW wr.heap.size wr, y.at_.cell? ⟨bb, off + k, none⟩ = some (.int .u8 (b : Int)) := fun y => (World.cell?_of_block (a := ⟨bb, off + k, none⟩) (y.ok_.block _ hlb)).trans hck
      have hs0 : (0 : Int) ≤ (s : Int) := by omega
      refine region_below_tail 18 wr.heap.size wr (Below.refl _ _) (by kernel_rfl) (by kernel_rfl) ?_
      simp only [List.take_succ_cons, List.take_zero, List.drop_succ_cons, List.drop_zero]
      repeat (go_big_quiet_step (fail))
      refine wpQuiet_nil ?_
      rintro w' ⟨y, rfl⟩
      have hoy := hol.below y.ok_
      obtain ⟨oc2, of2⟩ := hoy.cellAt q HQ.out
      clear oc of
      go_wp2_with fail
      rw [HOR.out]
      go_roundw
      case rel =>
        have h1 := hoy.stored q HQ.out (UInt8.ofNat (a + b * 2 ^ s))
        rw [← HSTEP.out, UInt8.toNat_ofNat', Nat.mod_eq_of_lt h256] at h1
        exact ⟨k + 1, by omega, by go_num, h1, (hb.trans (y.ok_.mono hb.size)).setCell (Nat.le_refl _) _⟩
      case measure => simp [intOf]; omega
    · obtain rfl : k = L := by omega
      rw [laid_all] at hol
      go_wp2_with fail
      go_ret
      exact ⟨_, nb, rfl, hol, hb⟩
end Go.Proofs.YtanljjpjhihgcaaDoor
