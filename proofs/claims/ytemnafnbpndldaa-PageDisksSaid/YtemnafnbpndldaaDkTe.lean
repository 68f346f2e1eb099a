/- The statements' small test of a torn write: it is true in every world. -/
import Derived.Test.YtemnafnbpndldaaDkT
namespace Go.Proofs.Ytemnafnbpndldaa
open Go.RowKit
set_option linter.unusedVariables false

def tornB : List UInt8 := crashN (List.replicate 2048 0) [(3, List.replicate 64 255)] [(true, 1)] 1
theorem torn7 : ((tornB.drop 192).take 64).getD 7 0 = 255 := by decide +kernel
theorem torn8 : ((tornB.drop 192).take 64).getD 8 0 = 0 := by decide +kernel
theorem torn_len : ((tornB.drop 192).take 64).length = 64 := by decide +kernel
theorem torn_cells {w : World} {B r c : Nat} (h : OwnB w B r c 5 ((tornB.drop 192).take 64)) : w.cell? ⟨r, 7, none⟩ = some (.int .u8 255) ∧ w.cell? ⟨r, 8, none⟩ = some (.int .u8 0) := by
  have h7 := h.cellAt 7 (by rw [torn_len]; omega)
  have h8 := h.cellAt 8 (by rw [torn_len]; omega)
  rw [torn7] at h7
  rw [torn8] at h8
  exact ⟨h7, h8⟩

section
variable {w : World} {B N g gs gn L cs cn : Nat} {rw : Value} {st nw : List UInt8} {ws : List (Nat × List UInt8)} {on : Bool} {left : Int}
theorem read3 (h : Dk w B N g gs gn rw L cs cn st nw ws true left) :
    Calls Try.prog 12 #[.pointer (some ⟨g, 0, none⟩), .int .i64 3] w fun e w' => ∃ r c, e = .returned (.tuple #[.slice (some ⟨r, 0, none⟩) 64 c, .int .i64 0]) ∧ OwnB w' w.heap.size r c 5 ((nw.drop 192).take 64) ∧ Below w.heap.size w w' := by
  refine (read_ok h 3 3 rfl (by have := h.lo; omega)).mono ?_
  rintro e w' ⟨A, c, rfl, ho, hb⟩
  obtain ⟨r, rfl, hob, _⟩ := ho.ownB (by omega)
  exact ⟨r, c, rfl, hob, hb⟩
theorem write3 (h : Dk w B N g gs gn rw L cs cn st nw [] true (-1)) (q : Nat) (hq : N ≤ q) (B' cap : Nat) (bs : List UInt8) (ho : OwnB w B' q cap 5 bs) (hl : bs.length = 64) :
    Calls Try.prog 14 #[.pointer (some ⟨g, 0, none⟩), .int .i64 3, .slice (some ⟨q, 0, none⟩) 64 64] w fun e w' => e = .returned (.int .i64 0) ∧
      (∃ rw', Dk w' B w'.heap.size g gs gn rw' L cs cn st (putAt nw 3 bs) [(3, bs)] true (-1)) ∧ Below B w w' :=
  (write_ok h (by decide) (by decide) (by decide) 3 (by have := h.lo; omega) (some ⟨q, 0, none⟩) 64 bs ho.bytes hl (fun a ha => by injection ha with ha; subst ha; exact .inr hq) (-1) (by decide) (by simp)).mono fun e w' ⟨h1, h2, h3, _⟩ => ⟨h1, h2, h3⟩
theorem crash3 (h : Dk w B N g gs gn rw L cs cn st nw [(3, List.replicate 64 255)] on left) (f : Nat) (hf : w.heap[f]? = some (.cells #[.bool true, .int .u8 1] 95 (0, 0))) (hN : N ≤ f) :
    Calls Try.prog 11 #[.pointer (some ⟨g, 0, none⟩), .slice (some ⟨f, 0, none⟩) 1 1] w fun e w' => e = .returned (.tuple #[]) ∧
      Dk w' B w'.heap.size g gs gn (.slice none 0 0) L cs cn (crashN st [(3, List.replicate 64 255)] [(true, 1)] 1) (crashN st [(3, List.replicate 64 255)] [(true, 1)] 1) [] true (-1) ∧ Below B w w' :=
  (crash_any h (by simp) (some ⟨f, 0, none⟩) 1 1 [(true, 1)] rfl (by omega) (by omega) (by unfold maxLen; omega) (fun j p hj => by
    match j, hj with
    | 0, hj =>
      simp at hj
      subst hj
      exact ⟨f, 0, rfl, blk_cell hf 0 _ rfl, blk_cell hf 1 _ rfl, by omega⟩) (fun a ha => by injection ha with ha; subst ha; exact .inr hN)).mono fun e w' ⟨h1, h2, h3⟩ => ⟨h1, h2, h3.below (by have := h.NN; have := h.gB; have := h.gN; omega)⟩
end

theorem new8 (w : World) :
    Calls Try.prog 20 #[.int .i64 8] w fun e w' => ∃ g gs gn cs cn, e = .returned (.tuple #[.pointer (some ⟨g, 0, none⟩), .int .i64 0]) ∧ Dk w' w.heap.size w'.heap.size g gs gn (.slice none 0 0) 2048 cs cn (List.replicate 2048 0) (List.replicate 2048 0) [] true (-1) ∧ Below w.heap.size w w' :=
  new_ok 8 (by omega) (by omega) w
theorem full255 (w : World) :
    Calls Try.prog 54 #[.int .u8 255] w fun e w' => ∃ q, e = .returned (.slice (some ⟨q, 0, none⟩) 64 64) ∧ OwnB w' w.heap.size q 64 5 (List.replicate 64 255) ∧ Below w.heap.size w w' :=
  full_any 255 (by omega) w

set_option maxHeartbeats 1000000 in
set_option maxRecDepth 100000 in
theorem tears_any (w : World) : Calls Try.prog 13 #[] w fun e w' => e = .returned (.bool true) ∧ Below w.heap.size w w' := by
  go_enter Try.func13, Try.ntmps13
  go_wp2_with (first
    | (go_at_call 20; (refine (new8 _).mono ?_); rintro e w1 ⟨g, gs, gn, cs, cn, rfl, d1, hb1⟩; have D1 := Lib.hid d1; clear d1)
    | (go_at_call 54; (refine (full255 _).mono ?_); rintro e w2 ⟨q, rfl, ho2, hb2⟩; have D2 := Lib.hid (D1.out.below hb2); have hq2 := ho2.parts.1)
    | (go_at_call 14; (refine (write3 D2.out q hq2 _ _ _ ho2 (by simp)).mono ?_); rintro e w3 ⟨rfl, ⟨rw3, d3⟩, hb3⟩; have D3 := Lib.hid (d3.below ((Below.refl w3.heap.size w3).alloc (Nat.le_refl _) (.cells #[.bool true, .int .u8 1] 95))); clear d3)
    | (go_at_call 11; (refine (crash3 D3.out w3.heap.size (heap_alloc_new _ _) (Nat.le_refl _)).mono ?_); rintro e w5 ⟨rfl, d5, hb5⟩; have D5 := Lib.hid d5; clear d5)
    | (go_at_call 12; (refine (read3 D5.out).mono ?_); rintro e w6 ⟨r, c6, rfl, ho6, hb6⟩; have D6 := Lib.hid (D5.out.below hb6); obtain ⟨k7, k8⟩ := torn_cells ho6)
    | (go_at_call 18; (refine (waiting_any D6.out 0 rfl).mono ?_); rintro e w7 ⟨rfl, rfl⟩)
    | (go_at_call 19; (refine (image_any D6.out).mono ?_); rintro e w8 ⟨A8, c8, rfl, ho8, hb8⟩))
  go_ret
  have s1 := hb1.size
  have s2 := hb2.size
  have s3 := hb3.size
  have s5 := hb5.size
  have s6 := hb6.size
  simp at s5
  have h3 : Below w.heap.size w w3 := (hb1.trans (hb2.mono s1)).trans hb3
  have h4 : Below w.heap.size w (w3.alloc (.cells #[.bool true, .int .u8 1] 95)) := h3.alloc h3.size _
  exact ⟨rfl, (h4.trans hb5).trans ((hb6.mono (by omega)).trans (hb8.mono (by omega)))⟩
end Go.Proofs.Ytemnafnbpndldaa
