/- DiskFails: its walk. -/
import Derived.Test.YtcjdmlhkomgkcaaDkX
import Derived.Test.YtcjdmlhkomgkcaaBoolRow
namespace Go.Proofs.Ytcjdmlhkomgkcaa
open Go.ChangeShapes Go.WideShapes Go.ChangeAt Go.RowKit
set_option linter.unusedVariables false

/-- A disk of eight pages, whatever stands on it. -/
def Dk8 (w : World) (B g gs gn cs cn n : Nat) (on : Bool) (left : Int) : Prop := ∃ N rw st nw ws, Dk w B N g gs gn rw 2048 cs cn st nw ws on left ∧ ws.length ≤ n

section
variable {w : World} {B N g gs gn cs cn n : Nat} {on : Bool} {left : Int}
theorem Dk8.below {w' : World} (h : Dk8 w B g gs gn cs cn n on left) (hb : Below w.heap.size w w') : Dk8 w' B g gs gn cs cn n on left := by
  obtain ⟨N, rw, st, nw, ws, h, hl⟩ := h
  exact ⟨N, rw, st, nw, ws, h.below hb, hl⟩
theorem Dk8.mono {m : Nat} (h : Dk8 w B g gs gn cs cn n on left) (hm : n ≤ m) : Dk8 w B g gs gn cs cn m on left := by
  obtain ⟨N, rw, st, nw, ws, h, hl⟩ := h
  exact ⟨N, rw, st, nw, ws, h, by omega⟩
theorem below_one {w' : World} {N : Nat} {rw : Value} {st nw : List UInt8} {ws : List (Nat × List UInt8)} (h : Dk w B N g gs gn rw 2048 cs cn st nw ws on left) (hg : w.grownBy w' (some g)) : Below B w w' :=
  (Below.refl B w).grown hg (by have := h.NN; have := h.gB; have := h.gN; omega) (fun k hk => by injection hk with hk; have := h.gB; omega)

theorem write8_arg (h : Dk8 w B g gs gn cs cn n true left) (A : Option Addr) (m c : Nat) :
    Calls Try.prog 19 #[.pointer (some ⟨g, 0, none⟩), .int .i64 99, .slice A m c] w fun e w' => e = .returned (.int .i64 1) ∧ w = w' := by
  obtain ⟨N, rw, st, nw, ws, h, hl⟩ := h
  exact write_arg h 99 (.inr (by decide)) A m c
theorem write8_off (h : Dk8 w B g gs gn cs cn n false left) (z : Int) (A : Option Addr) (m c : Nat) :
    Calls Try.prog 19 #[.pointer (some ⟨g, 0, none⟩), .int .i64 z, .slice A m c] w fun e w' => e = .returned (.int .i64 2) ∧ w = w' := by
  obtain ⟨N, rw, st, nw, ws, h, hl⟩ := h
  exact write_off h z A m c
theorem flush8_off (h : Dk8 w B g gs gn cs cn n false left) :
    Calls Try.prog 20 #[.pointer (some ⟨g, 0, none⟩)] w fun e w' => e = .returned (.int .i64 2) ∧ w = w' := by
  obtain ⟨N, rw, st, nw, ws, h, hl⟩ := h
  exact flush_off h
theorem write8_stop (h : Dk8 w B g gs gn cs cn n true 0) (z : Int) (i : Nat) (hz : z = (i : Int)) (hi : i < 32) (A : Option Addr) (c : Nat) :
    Calls Try.prog 19 #[.pointer (some ⟨g, 0, none⟩), .int .i64 z, .slice A 64 c] w fun e w' => e = .returned (.int .i64 2) ∧ Dk8 w' B g gs gn cs cn n false 0 ∧ Below B w w' := by
  obtain ⟨N, rw, st, nw, ws, h, hl⟩ := h
  exact (write_stop h z i hz (by omega) A c).mono fun e w' ⟨h1, h2, h3⟩ => ⟨h1, ⟨N, rw, st, nw, ws, h2, hl⟩, below_one h h3⟩
theorem flush8_stop (h : Dk8 w B g gs gn cs cn n true 0) :
    Calls Try.prog 20 #[.pointer (some ⟨g, 0, none⟩)] w fun e w' => e = .returned (.int .i64 2) ∧ Dk8 w' B g gs gn cs cn n false 0 ∧ Below B w w' := by
  obtain ⟨N, rw, st, nw, ws, h, hl⟩ := h
  exact (flush_stop h).mono fun e w' ⟨h1, h2, h3⟩ => ⟨h1, ⟨N, rw, st, nw, ws, h2, hl⟩, below_one h h3⟩
theorem flush8_ok (j : Nat) (h : Dk8 w B g gs gn cs cn n true ((j + 1 : Nat) : Int)) (hj : j ≤ 1000) (hn : n ≤ 1000) :
    Calls Try.prog 20 #[.pointer (some ⟨g, 0, none⟩)] w fun e w' => e = .returned (.int .i64 0) ∧ Dk8 w' B g gs gn cs cn n true (j : Int) ∧ Below B w w' := by
  obtain ⟨N, rw, st, nw, ws, h, hl⟩ := h
  refine (flush_ok h (by omega) (by omega) (by omega) (j : Int) (by unfold stepped; rw [if_pos (by omega)]; omega) (by omega)).mono ?_
  rintro e w' ⟨h1, h2, h3⟩
  exact ⟨h1, ⟨_, _, _, _, [], h2, by simp⟩, h3.below (by have := h.NN; have := h.gB; have := h.gN; omega)⟩
theorem write8_ok (j : Nat) (hj : j ≤ 1000) (hn : n ≤ 1000) (z : Int) (i : Nat) (hz : z = (i : Int)) (hi : i < 32) (q B' cap : Nat) (bs : List UInt8) (ho : OwnB w B' q cap 5 bs) (hl : bs.length = 64) (w0 : World) (h0 : Dk8 w0 B g gs gn cs cn n true ((j + 1 : Nat) : Int)) (hw : Below w0.heap.size w0 w) (hq : w0.heap.size ≤ q) :
    Calls Try.prog 19 #[.pointer (some ⟨g, 0, none⟩), .int .i64 z, .slice (some ⟨q, 0, none⟩) 64 64] w fun e w' => e = .returned (.int .i64 0) ∧ Dk8 w' B g gs gn cs cn (n + 1) true (j : Int) ∧ Below B w w' := by
  subst hz
  obtain ⟨N, rw, st, nw, ws, h, hln⟩ := h0
  have hNN := h.NN
  have h2 := h.below hw
  refine (write_ok h2 (by omega) (by omega) (by omega) i (by omega) (some ⟨q, 0, none⟩) 64 bs ho.bytes hl (fun a ha => by injection ha with ha; subst ha; exact .inr (by show N ≤ q; omega)) (j : Int) (by unfold stepped; rw [if_pos (by omega)]; omega) (by omega)).mono ?_
  rintro e w' ⟨h1, ⟨rw', h3⟩, h4, _⟩
  exact ⟨h1, ⟨_, _, _, _, _, h3, by simp; omega⟩, h4⟩
theorem on8 (h : Dk8 w B g gs gn cs cn n on left) :
    Calls Try.prog 21 #[.pointer (some ⟨g, 0, none⟩)] w fun e w' => e = .returned (.bool on) ∧ w = w' := by
  obtain ⟨N, rw, st, nw, ws, h, hl⟩ := h
  exact on_any h
theorem fail8 (h : Dk8 w B g gs gn cs cn n true left) (k : Nat) (hk : k ≤ 1000) :
    Calls Try.prog 15 #[.pointer (some ⟨g, 0, none⟩), .int .i64 (k : Int)] w fun e w' => e = .returned (.tuple #[]) ∧ Dk8 w' B g gs gn cs cn n true (k : Int) ∧ Below B w w' := by
  obtain ⟨N, rw, st, nw, ws, h, hl⟩ := h
  exact (fail_ok h k hk).mono fun e w' ⟨h1, h2, h3⟩ => ⟨h1, ⟨N, rw, st, nw, ws, h2, hl⟩, below_one h h3⟩
end

set_option maxHeartbeats 2000000 in
set_option maxRecDepth 100000 in
theorem diskFails_walk (s : Int) (hs : (Lit.int .i64 s).wf = true) (A : Option Addr) (cap : Nat) (bs : List Bool) {w : World} (hz : BoolsAt w A bs) (lc : bs.length ≤ cap) (cm : cap ≤ maxLen) :
    Calls Try.prog 6 #[.int .i64 s, .slice A bs.length cap] w fun e w' => e = .returned (.bool true) ∧ Below w.heap.size w w' := by
  unfold maxLen at cm
  obtain ⟨K, hK, hke⟩ := modN s 50 (by omega) (by omega)
  have HKE : Hid (wrap64 ((IntKind.u64.wrap s).tmod 50) = (K : Int)) := Lib.hid hke
  have HZ := Lib.hid hz
  clear hke hz hs
  go_enter Try.func6, Try.ntmps6
  go_upto_region 3 with (go_at_call 25; (refine (new8 _).mono ?_); rintro e w1 ⟨g, gs, gn, cs, cn, rfl, d1, hb1⟩; have D1 : Hid (Dk8 w1 w.heap.size g gs gn cs cn 0 true (-1)) := Lib.hid ⟨_, _, _, _, [], d1, Nat.le_refl _⟩; clear d1)
  rw [HKE.out]
  go_wp2_with (go_at_call 15; (refine (fail8 D1.out K (by omega)).mono ?_); rintro e w2 ⟨rfl, d2, hb2⟩; have D2 := Lib.hid d2; clear d2)
  go_loopw [8] (fun i wr => ∃ k : Nat, k ≤ 60 ∧ k ≤ bs.length ∧ i = .int .i64 k ∧ Hid ((k ≤ K ∧ Dk8 wr w.heap.size g gs gn cs cn k true ((K - k : Nat) : Int)) ∨ (K < k ∧ ∃ l, Dk8 wr w.heap.size g gs gn cs cn k false l)) ∧ Hid (Below w.heap.size w wr)) (fun i _ => 60 - (intOf i).toNat)
  case atStart => exact ⟨0, by omega, by omega, rfl, Lib.hid (.inl ⟨by omega, D2.out⟩), Lib.hid (hb1.trans hb2)⟩
  case round =>
    obtain ⟨k, hk, hkb, rfl, hd, hB⟩ := hrel
    clear D1 D2 hb1 hb2
    by_cases hlt : k < bs.length ∧ k < 60
    · obtain ⟨hlt1, hlt2⟩ := hlt
      obtain ⟨bz, off, rfl, hcell⟩ := HZ.out (by intro e; subst e; simp at hlt1)
      have hck := hcell k hlt1
      have hckr := (hB.out.cell (p := ⟨bz, off + k, none⟩) (World.block_lt_of_cell? _ _ hck)).trans hck
      obtain ⟨fl, hfl⟩ : ∃ z, z = bs[k] := ⟨_, rfl⟩
      rw [← hfl] at hckr
      have hblr := World.block_lt_of_cell? _ _ hckr
      clear hcell hck hfl
      rcases hd.out with ⟨hkK, d⟩ | ⟨hkK, l, d⟩
      · by_cases hke : k = K
        · subst hke
          rw [Nat.sub_self] at d
          have D : Hid (Dk8 wr w.heap.size g gs gn cs cn k true 0) := Lib.hid d
          clear d hd
          cases fl
          · go_wp2_with (first
        | (go_at_call 34; (refine (fullF _ (k % 256) (by omega) (by omega) w2).mono ?_); rintro e w4 ⟨q4, rfl, ho4, hb4⟩; have D4 := Lib.hid (D3.out.below hb4))
        | (go_at_call 34; (refine (fullF _ 1 rfl (by omega) wr).mono ?_); rintro e w2 ⟨q, rfl, ho2, hb2⟩; have D3 := Lib.hid (D.out.below hb2); have hck2 := (hb2.cell (p := ⟨bz, off + k, none⟩) hblr).trans hckr)
        | (go_at_call 19; (refine (write8_stop D4.out _ (k % 32) (by omega) (by omega) _ _).mono ?_); rintro e w5 ⟨rfl, d5, hb5⟩; have D5 := Lib.hid d5; clear d5)
        | (go_at_call 19; (refine (write8_arg D3.out _ _ _).mono ?_); rintro e w3 ⟨rfl, rfl⟩)
        | (go_at_call 21; (refine (on8 D5.out).mono ?_); rintro e w6 ⟨rfl, rfl⟩))
            go_roundw
            case rel => exact ⟨k + 1, by omega, by omega, by go_num, Lib.hid (.inr ⟨by omega, 0, D5.out.mono (by omega)⟩), Lib.hid (((hB.out.trans (hb2.mono hB.out.size)).trans (hb4.mono (hB.out.trans (hb2.mono hB.out.size)).size)).trans hb5)⟩
            case measure => simp [intOf]; omega
          · go_wp2_with (first
        | (go_at_call 34; (refine (fullF _ 1 rfl (by omega) wr).mono ?_); rintro e w2 ⟨q, rfl, ho2, hb2⟩; have D3 := Lib.hid (D.out.below hb2); have hck2 := (hb2.cell (p := ⟨bz, off + k, none⟩) hblr).trans hckr)
        | (go_at_call 20; (refine (flush8_stop D3.out).mono ?_); rintro e w5 ⟨rfl, d5, hb5⟩; have D5 := Lib.hid d5; clear d5)
        | (go_at_call 19; (refine (write8_arg D3.out _ _ _).mono ?_); rintro e w3 ⟨rfl, rfl⟩)
        | (go_at_call 21; (refine (on8 D5.out).mono ?_); rintro e w6 ⟨rfl, rfl⟩))
            go_roundw
            case rel => exact ⟨k + 1, by omega, by omega, by go_num, Lib.hid (.inr ⟨by omega, 0, D5.out.mono (by omega)⟩), Lib.hid ((hB.out.trans (hb2.mono hB.out.size)).trans hb5)⟩
            case measure => simp [intOf]; omega
        · obtain ⟨j, hj⟩ : ∃ j, K - k = j + 1 := ⟨K - k - 1, by omega⟩
          rw [hj] at d
          have D := Lib.hid d
          have hlK : decide ((k : Int) < (K : Int)) = true := by simp; omega
          clear d hd
          cases fl
          · go_wp2_with (first
        | (go_at_call 34; (refine (fullF _ (k % 256) (by omega) (by omega) w2).mono ?_); rintro e w4 ⟨q4, rfl, ho4, hb4⟩; have D4 := Lib.hid (D3.out.below hb4))
        | (go_at_call 34; (refine (fullF _ 1 rfl (by omega) wr).mono ?_); rintro e w2 ⟨q, rfl, ho2, hb2⟩; have D3 := Lib.hid (D.out.below hb2); have hck2 := (hb2.cell (p := ⟨bz, off + k, none⟩) hblr).trans hckr)
        | (go_at_call 19; (refine (write8_ok j (by omega) (by omega) _ (k % 32) (by omega) (by omega) q4 _ _ _ ho4 (by simp) w2 D3.out hb4 ho4.parts.1).mono ?_); rintro e w5 ⟨rfl, d5, hb5⟩; have D5 := Lib.hid d5; clear d5)
        | (go_at_call 19; (refine (write8_arg D3.out _ _ _).mono ?_); rintro e w3 ⟨rfl, rfl⟩)
        | (go_at_call 21; (refine (on8 D5.out).mono ?_); rintro e w6 ⟨rfl, rfl⟩))
            go_roundw
            case rel => exact ⟨k + 1, by omega, by omega, by go_num, Lib.hid (.inl ⟨by omega, by rw [show K - (k + 1) = j by omega]; exact D5.out.mono (by omega)⟩), Lib.hid (((hB.out.trans (hb2.mono hB.out.size)).trans (hb4.mono (hB.out.trans (hb2.mono hB.out.size)).size)).trans hb5)⟩
            case measure => simp [intOf]; omega
          · go_wp2_with (first
        | (go_at_call 34; (refine (fullF _ 1 rfl (by omega) wr).mono ?_); rintro e w2 ⟨q, rfl, ho2, hb2⟩; have D3 := Lib.hid (D.out.below hb2); have hck2 := (hb2.cell (p := ⟨bz, off + k, none⟩) hblr).trans hckr)
        | (go_at_call 20; (refine (flush8_ok j D3.out (by omega) (by omega)).mono ?_); rintro e w5 ⟨rfl, d5, hb5⟩; have D5 := Lib.hid d5; clear d5)
        | (go_at_call 19; (refine (write8_arg D3.out _ _ _).mono ?_); rintro e w3 ⟨rfl, rfl⟩)
        | (go_at_call 21; (refine (on8 D5.out).mono ?_); rintro e w6 ⟨rfl, rfl⟩))
            go_roundw
            case rel => exact ⟨k + 1, by omega, by omega, by go_num, Lib.hid (.inl ⟨by omega, by rw [show K - (k + 1) = j by omega]; exact D5.out.mono (by omega)⟩), Lib.hid ((hB.out.trans (hb2.mono hB.out.size)).trans hb5)⟩
            case measure => simp [intOf]; omega
      · have D := Lib.hid d
        have hlK : decide ((k : Int) < (K : Int)) = false := by simp; omega
        clear d hd
        cases fl
        · go_wp2_with (first
        | (go_at_call 34; (refine (fullF _ (k % 256) (by omega) (by omega) w2).mono ?_); rintro e w4 ⟨q4, rfl, ho4, hb4⟩; have D4 := Lib.hid (D3.out.below hb4))
        | (go_at_call 34; (refine (fullF _ 1 rfl (by omega) wr).mono ?_); rintro e w2 ⟨q, rfl, ho2, hb2⟩; have D3 := Lib.hid (D.out.below hb2); have hck2 := (hb2.cell (p := ⟨bz, off + k, none⟩) hblr).trans hckr)
        | (go_at_call 19; (refine (write8_off D4.out _ _ _ _).mono ?_); rintro e w6 ⟨rfl, rfl⟩)
        | (go_at_call 19; (refine (write8_off D3.out _ _ _ _).mono ?_); rintro e w6 ⟨rfl, rfl⟩)
        | (go_at_call 21; (refine (on8 D4.out).mono ?_); rintro e w6 ⟨rfl, rfl⟩))
          go_roundw
          case rel => exact ⟨k + 1, by omega, by omega, by go_num, Lib.hid (.inr ⟨by omega, l, D4.out.mono (by omega)⟩), Lib.hid ((hB.out.trans (hb2.mono hB.out.size)).trans (hb4.mono (hB.out.trans (hb2.mono hB.out.size)).size))⟩
          case measure => simp [intOf]; omega
        · go_wp2_with (first
        | (go_at_call 34; (refine (fullF _ 1 rfl (by omega) wr).mono ?_); rintro e w2 ⟨q, rfl, ho2, hb2⟩; have D3 := Lib.hid (D.out.below hb2); have hck2 := (hb2.cell (p := ⟨bz, off + k, none⟩) hblr).trans hckr)
        | (go_at_call 19; (refine (write8_off D3.out _ _ _ _).mono ?_); rintro e w6 ⟨rfl, rfl⟩)
        | (go_at_call 20; (refine (flush8_off D3.out).mono ?_); rintro e w6 ⟨rfl, rfl⟩)
        | (go_at_call 21; (refine (on8 D3.out).mono ?_); rintro e w6 ⟨rfl, rfl⟩))
          go_roundw
          case rel => exact ⟨k + 1, by omega, by omega, by go_num, Lib.hid (.inr ⟨by omega, l, D3.out.mono (by omega)⟩), Lib.hid (hB.out.trans (hb2.mono hB.out.size))⟩
          case measure => simp [intOf]; omega
    · have hge : ¬ (k < bs.length ∧ k < 60) := hlt
      have hend : k = bs.length ∨ k = 60 := by omega
      rcases hend with hend | hend
      · have hlt1 : decide ((k : Int) < (bs.length : Int)) = false := by simp; omega
        go_wp2_with (go_at_call 18; (refine (tears_any _).mono ?_); rintro e w3 ⟨rfl, hb3⟩)
        all_goals go_ret
        all_goals exact ⟨rfl, hB.out.trans (hb3.mono hB.out.size)⟩
      · have hlt2 : decide ((k : Int) < 60) = false := by simp; omega
        go_wp2_with (go_at_call 18; (refine (tears_any _).mono ?_); rintro e w3 ⟨rfl, hb3⟩)
        all_goals go_ret
        all_goals exact ⟨rfl, hB.out.trans (hb3.mono hB.out.size)⟩
end Go.Proofs.Ytcjdmlhkomgkcaa
