/- Package page's calls on a disk: ready, within, ReadRaw. -/
import Derived.Test.YtmmkmpjhmbocfaaDkX
namespace Go.Proofs.Ytmmkmpjhmbocfaa
open Go.RowKit
set_option linter.unusedVariables false
section
variable {w w' : World} {B N g gs gn L cs cn : Nat} {rw : Value} {st nw : List UInt8} {ws : List (Nat × List UInt8)} {on : Bool} {left : Int}

theorem ready_on (h : Dk w B N g gs gn rw L cs cn st nw ws true left) :
    Calls Try.prog 60 #[.pointer (some ⟨g, 0, none⟩)] w fun e w' => e = .returned (.int .i64 0) ∧ w = w' := by
  have H := Lib.hid h
  clear h
  go_enter Try.func60, Try.ntmps60
  go_wp2_with (go_at_call 16; refine (on_any H.out).mono ?_; rintro e w1 ⟨rfl, rfl⟩)
  go_ret
  exact ⟨rfl, rfl⟩

theorem within_yes (h : Dk w B N g gs gn rw L cs cn st nw ws on left) (za zn : Int) (a n : Nat) (hza : za = (a : Int)) (hzn : zn = (n : Int)) (hin : n = 0 ∨ 256 * a + n ≤ L ∧ 256 * a < L) :
    Calls Try.prog 63 #[.pointer (some ⟨g, 0, none⟩), .int .i64 za, .int .i64 zn] w fun e w' => e = .returned (.bool true) ∧ w = w' := by
  subst hza hzn
  have hlo := h.lo
  have hhi := h.hi
  have hpg := h.pg
  have H := Lib.hid h
  clear h
  obtain ⟨p, hp⟩ : ∃ p, p = L / 256 := ⟨_, rfl⟩
  have hLp : L = 256 * p := by omega
  have HP := Lib.hid hp
  by_cases hn : n = 0
  · subst hn
    go_enter Try.func63, Try.ntmps63
    go_wp2_with fail
    go_ret
    exact ⟨rfl, rfl⟩
  · have hn0 : ((n : Int) == 0) = false := by simp; omega
    have ha : a < p := by omega
    have hap : n ≤ (p - a) * 256 := by omega
    have hd1 : decide ((a : Int) < (p : Int)) = true := by simp; omega
    have hd2 : decide ((n : Int) ≤ ((p : Int) - (a : Int)) * 256) = true := by simp; omega
    have hp5 : p ≤ 512 := by omega
    clear hin hp hLp
    go_enter Try.func63, Try.ntmps63
    go_wp2_with (go_at_call 17; refine (pages_any H.out).mono ?_; rintro e w1 ⟨rfl, rfl⟩; rw [← HP.out])
    all_goals go_ret
    all_goals exact ⟨rfl, rfl⟩

set_option maxHeartbeats 1000000 in
set_option maxRecDepth 100000 in
theorem readRaw_ok (h : Dk w B N g gs gn rw L cs cn st nw ws true left) (za zn : Int) (a n : Nat) (hza : za = (a : Int)) (hzn : zn = (n : Int)) (hin : n = 0 ∨ 256 * a + n ≤ L ∧ 256 * a < L) (han : a ≤ 1000) (hnn : n ≤ 131072) :
    Calls Try.prog 36 #[.pointer (some ⟨g, 0, none⟩), .int .i64 za, .int .i64 zn] w fun e w' => ∃ A c, e = .returned (.tuple #[.slice A n c, .int .i64 0]) ∧ BytesAt w' A ((nw.drop (256 * a)).take n) ∧ n ≤ c ∧ c ≤ maxLen ∧ Below w.heap.size w w' := by
  subst hza hzn
  have hpg := h.pg
  have H := Lib.hid h
  have HIN := Lib.hid hin
  clear h hin
  go_enter Try.func36, Try.ntmps36
  go_wp2_with (first
    | (go_at_call 60; refine (ready_on H.out).mono ?_; rintro e w1 ⟨rfl, rfl⟩)
    | (go_at_call 63; refine (within_yes H.out _ _ a n rfl rfl HIN.out).mono ?_; rintro e w1 ⟨rfl, rfl⟩))
  go_loopw [9, 10] (fun v i wr => ∃ (k len : Nat) (A1 : Option Addr) (c1 : Nat), Hid (len = 64 * k) ∧ k ≤ 2048 ∧ len < n + 64 ∧ i = .int .i64 k ∧ v = .slice A1 len c1 ∧ Hid (OwnS wr w.heap.size (.slice A1 len c1) 5 ((nw.drop (256 * a)).take len)) ∧ Hid (Below w.heap.size w wr)) (fun v i _ => n + 2048 - (intOf i).toNat)
  case atStart => exact ⟨0, 0, none, 0, Lib.hid rfl, by omega, by omega, rfl, rfl, Lib.hid (by rw [List.take_zero]; exact OwnS.nil _ _ _), Lib.hid (Below.refl _ _)⟩
  case round =>
    obtain ⟨k, len, A1, c1, hlen, hk, hln, rfl, rfl, ho, hB⟩ := hrel
    have D1 := Lib.hid (H.out.below hB.out)
    by_cases hlt : len < n
    · have hfi : 64 * (4 * a + k) + 64 ≤ L := by have := hlen.out; have := HIN.out; omega
      have hk2 : k < 2048 := by have := hlen.out; omega
      obtain ⟨j, hj⟩ : ∃ j, j = 4 * a + k := ⟨_, rfl⟩
      have hji : ((a : Int) * 4 + (k : Int)) = (j : Int) := by omega
      have HJ := Lib.hid hj
      have HJI := Lib.hid hji
      have HFI := Lib.hid hfi
      clear hj hji hfi
      have hm : ((nw.drop (64 * j)).take 64).length = 64 := by rw [List.length_take, List.length_drop, H.out.lnw]; have := HJ.out; have := HFI.out; omega
      have HM := Lib.hid hm
      have hlx : Hid (((nw.drop (256 * a)).take len).length = len) := Lib.hid ho.out.caps.1
      have hcat : (nw.drop (256 * a)).take len ++ (nw.drop (64 * j)).take 64 = (nw.drop (256 * a)).take (len + 64) := by
        have e1 := HJ.out
        have e2 := hlen.out
        rw [show 64 * j = 256 * a + len by omega, ← List.drop_drop, ← List.take_add]
      have HCAT := Lib.hid hcat
      have hdl : Hid (((nw.drop (256 * a)).take len).length + 64 ≤ 140737488355328) := Lib.hid (by rw [hlx.out]; omega)
      clear hm hcat
      go_wp2_with (first
        | (go_at_call 12; rw [HJI.out]; (refine (read_ok D1.out _ j rfl (by rw [HJ.out]; exact HFI.out)).mono ?_); rintro e w2 ⟨A2, c2, rfl, ho2, hb2⟩; have ho3 := ho.out.below hb2)
        | (at_builtin; refine wpList_append_s rfl (.tmp 45) (.tmp 46) 27 rfl Try.underlying27 infoU8 rfl ho3 A2 c2 64 _ rfl HM.out ho2.bytes hdl.out (by have := hB.out.size; have := hb2.size; omega) ?_; rw [HCAT.out]; intro A4 c4 w4 ho4 hg4))
      go_roundw
      case rel =>
        have hl4 : ((nw.drop (256 * a)).take (len + 64)).length = len + 64 := by rw [← HCAT.out, List.length_append, hlx.out, HM.out]
        have hl5 : min (len + 64) (nw.length - 256 * a) = len + 64 := by simpa using hl4
        rw [hl4] at ho4
        refine ⟨k + 1, len + 64, A4, c4, Lib.hid (by have := hlen.out; omega), by omega, by omega, by go_num, by rw [hl5], Lib.hid ho4, Lib.hid ?_⟩
        exact ho3.belowGrown (Nat.le_refl _) (by have := hB.out.size; have := hb2.size; omega) (hB.out.trans (hb2.mono hB.out.size)) hg4
      case measure => simp [intOf]; omega
    · obtain ⟨hc1, hc2, hc3, hc4⟩ := ho.out.caps
      unfold maxLen at hc3
      go_wp2_with fail
      go_ret2
      refine ⟨A1, c1, rfl, ?_, by omega, by unfold maxLen; omega, hB.out⟩
      have hb := ho.out.bytes.take n
      rw [List.take_take, Nat.min_eq_left (by omega)] at hb
      exact hb
end
end Go.Proofs.Ytmmkmpjhmbocfaa
