/- New disks; the statements' full sectors, and their small test of a torn write: it is true in every world. -/
import Derived.Test.YtemnafnbpndldaaDkC
namespace Go.Proofs.Ytemnafnbpndldaa
open Go.RowKit
set_option linter.unusedVariables false

theorem made8 {w : World} {base k : Nat} {v : Value} (h : w.ownsRow base 5 1 v k (madeCells (Value.int .u8 0).cells (k * 1)).toList) : OwnS w base v 5 (List.replicate k 0) := by
  have e : (madeCells (Value.int .u8 0).cells (k * 1)).toList = (List.replicate k (0 : UInt8)).map bv := by
    have h0 : (Value.int .u8 0).cells = #[.int .u8 0] := rfl
    rw [h0, Nat.mul_one]
    simp only [madeCells, List.map_replicate, bv]
    simp [Nat.mod_one, List.map_const']
  rw [e] at h
  unfold OwnS
  rw [List.length_replicate]
  exact h

set_option maxRecDepth 100000 in
theorem new_ok (p : Nat) (h1 : 8 ≤ p) (h2 : p ≤ 512) (w : World) :
    Calls Try.prog 20 #[.int .i64 (p : Int)] w fun e w' => ∃ g gs gn cs cn, e = .returned (.tuple #[.pointer (some ⟨g, 0, none⟩), .int .i64 0]) ∧ Dk w' w.heap.size w'.heap.size g gs gn (.slice none 0 0) (p * 256) cs cn (List.replicate (p * 256) 0) (List.replicate (p * 256) 0) [] true (-1) ∧ Below w.heap.size w w' := by
  obtain ⟨iu, hiu, hz0, hz1, hz2⟩ := info_parts infoU8
  obtain ⟨n, hn⟩ : ∃ n, n = p * 256 := ⟨_, rfl⟩
  have hz3 : iu.bytes * n ≤ 281474976710656 := by rw [hz2]; omega
  have hni : ((p : Int) * 256) = (n : Int) := by omega
  have hL := Lib.hid hni
  have hN := Lib.hid hn
  clear hni
  rw [← hn]
  clear hn
  go_enter Try.func20, Try.ntmps20
  go_wp2_with (first
    | (at_make; refine wpList_make_full _ rfl (.tmp 11) (.tmp 11) 27 rfl w.heap.size 5 iu (.int .u8 0) 1 Try.underlying27 hiu hz0 hz1 .i64 .i64 ((p : Int) * 256) ((p : Int) * 256) n rfl rfl hL.out hL.out hz3 (by have := hN.out; unfold maxLen; omega) (Nat.le_refl _) ?_; intro w1 ho1 hg1; have ho2 := made8 ho1; have hb1 : Below w.heap.size w w1 := (Below.refl _ _).grown hg1 (Nat.le_refl _) (fun k hk => by cases hk))
    | (go_at_call 28; (refine (load_ok _ n n (List.replicate n 0) w1 ho2.bytes (by simp) (by have := hN.out; omega) (by have := hN.out; omega) (by have := hN.out; omega) (fun h => by cases h)).mono ?_); rintro e w2 ⟨g, gs, gn, cs, cn, rfl, hD, hb2⟩))
  go_ret2
  exact ⟨g, gs, gn, cs, cn, rfl, { hD with stay := OwnS.mono hD.stay hb1.size, now := OwnS.mono hD.now hb1.size, gB := Nat.le_trans hb1.size hD.gB, wait := World.ownsRow_nil _ _ _ _ }, hb1.trans (hb2.mono hb1.size)⟩

theorem below_setC'' {w wr : World} {i : Nat} {v : Value} (h : Below w.heap.size w wr) : Below w.heap.size w (wr.setCell ⟨w.heap.size, i, none⟩ v) :=
  h.trans ⟨rfl, rfl, rfl, by simp, fun k hk => Below.heap_setCell wr ⟨w.heap.size, i, none⟩ v k (fun e => by simp at e; omega)⟩

set_option maxRecDepth 100000 in
theorem full_any (b : Nat) (hb : b < 256) (w : World) :
    Calls Try.prog 54 #[.int .u8 (b : Int)] w fun e w' => ∃ q, e = .returned (.slice (some ⟨q, 0, none⟩) 64 64) ∧ OwnB w' w.heap.size q 64 5 (List.replicate 64 (UInt8.ofNat b)) ∧ Below w.heap.size w w' := by
  obtain ⟨iu, hiu, hz0, hz1, hz2⟩ := info_parts infoU8
  have hz3 : iu.bytes * 64 ≤ 281474976710656 := by rw [hz2]; omega
  have hbv : Hid ((UInt8.ofNat b).toNat = b) := Lib.hid (by rw [UInt8.toNat_ofNat']; omega)
  go_enter Try.func54, Try.ntmps54
  go_wp2_with (at_make; refine wpList_make_full _ rfl (.const (.int .i64 64)) (.const (.int .i64 64)) 27 rfl w.heap.size 5 iu (.int .u8 0) 1 Try.underlying27 hiu hz0 hz1 .i64 .i64 64 64 64 rfl rfl rfl rfl hz3 (by unfold maxLen; omega) (Nat.le_refl _) ?_; intro w1 ho1 hg1; have ho2 := made8 ho1; have hb1 : Below w.heap.size w w1 := (Below.refl _ _).grown hg1 (Nat.le_refl _) (fun k hk => by cases hk))
  obtain ⟨q, hq, hob, _⟩ := ho2.ownB (by omega)
  injection hq with hq
  injection hq with hq
  subst hq
  go_loopw [4] (fun i wr => ∃ k : Nat, k ≤ 64 ∧ i = .int .i64 k ∧ Hid (OwnB wr w.heap.size w.heap.size 64 5 (List.replicate k (UInt8.ofNat b) ++ List.replicate (64 - k) 0)) ∧ Hid (Below w.heap.size w wr)) (fun i _ => 64 - (intOf i).toNat)
  case atStart => exact ⟨0, by omega, rfl, Lib.hid hob, Lib.hid hb1⟩
  case round =>
    obtain ⟨k, hk, rfl, ho, hB⟩ := hrel
    by_cases hlt : k < 64
    · have hq : k < (List.replicate k (UInt8.ofNat b) ++ List.replicate (64 - k) (0 : UInt8)).length := by simp; omega
      have hcell := ho.out.cellAt k hq
      have hfr := ho.out.frozenAt k
      have HQ := Lib.hid hq
      clear hq
      go_wp2_with fail
      go_roundw
      case rel =>
        refine ⟨k + 1, by omega, by go_num, Lib.hid ?_, Lib.hid (below_setC'' hB.out)⟩
        have hst := ho.out.stored k HQ.out (UInt8.ofNat b)
        rw [hbv.out] at hst
        have e : (List.replicate k (UInt8.ofNat b) ++ List.replicate (64 - k) (0 : UInt8)).set k (UInt8.ofNat b) = List.replicate (k + 1) (UInt8.ofNat b) ++ List.replicate (64 - (k + 1)) 0 := by
          rw [show 64 - k = (64 - (k + 1)) + 1 by omega, List.replicate_succ, List.set_append_right _ _ (by simp)]
          simp [List.replicate_succ']
        rw [e] at hst
        exact hst
      case measure => simp [intOf]; omega
    · obtain rfl : k = 64 := by omega
      go_wp2_with fail
      go_ret
      exact ⟨w.heap.size, rfl, by simpa using ho.out, hB.out⟩
end Go.Proofs.Ytemnafnbpndldaa
