/- The statements' small test of Put and Get of nodes: it is true in every world. -/
import Derived.Test.YtgkddhncfaeidaaNdGet
namespace Go.Proofs.Ytgkddhncfaeidaa
open Go.RowKit CrcM PageM
set_option linter.unusedVariables false

theorem text_nd {w : World} (A : Option Addr) (n c : Nat) (xs : List UInt8) (hn : xs.length = n) (hA : BytesAt w A xs) :
    (convert 27 9 (.slice A n c)).run Try.prog w = .ok (.string ⟨xs.toArray⟩) w := by
  subst hn
  exact run_text (P := Try.prog) 27 9 Try.underlying27 Try.underlying5 Try.underlying9 A c hA

theorem put_ex2 (gk gd : Nat) (w : World) (h : NdAt w gk gd) :
    Calls Try.prog 9 #[.agg #[.bool false, .slice none 0 0, .slice (some ⟨gk, 0, none⟩) 1 1, .slice (some ⟨gd, 0, none⟩) 1 1]] w fun r w' => ∃ gb c, r = .returned (.tuple #[.slice (some ⟨gb, 0, none⟩) 15 c, .int .i64 0]) ∧ BytesAt w' (some ⟨gb, 0, none⟩) ndB ∧ 15 ≤ c ∧ c ≤ maxLen ∧ Below w.heap.size w w' := by
  refine (put_ex gk 1 gd 1 w h (by decide) (by decide)).mono ?_
  rintro e w2 ⟨A, c, rfl, ho2, hb2⟩
  have hcaps := ho2.caps
  rcases ho2.cases with ⟨hno, hn2⟩ | ⟨gb, cap, hv, hob⟩
  · exact absurd hn2 (by decide)
  · injection hv with hv1 hv2 hv3
    subst hv1 hv3
    exact ⟨gb, c, rfl, hob.bytes, hcaps.2.1, hcaps.2.2.1, hb2⟩

set_option maxHeartbeats 1000000 in
set_option maxRecDepth 100000 in
theorem ndputs_any (w : World) : Calls Try.prog 12 #[] w fun e w' => e = .returned (.bool true) ∧ Below w.heap.size w w' := by
  have hbW : Below w.heap.size w (((w.alloc (.cells #[.int .i64 1, .int .i64 2] 46)).alloc (.cells #[.int .i64 5] 3)).alloc (.cells #[.bool false, .slice none 0 0, .slice (some ⟨w.heap.size, 0, none⟩) 1 1, .slice (some ⟨w.heap.size + 1, 0, none⟩) 1 1] 34)) := (((Below.refl _ _).alloc (Nat.le_refl _) _).alloc (by simp) _).alloc (by simp; omega) _
  have hnd : NdAt (((w.alloc (.cells #[.int .i64 1, .int .i64 2] 46)).alloc (.cells #[.int .i64 5] 3)).alloc (.cells #[.bool false, .slice none 0 0, .slice (some ⟨w.heap.size, 0, none⟩) 1 1, .slice (some ⟨w.heap.size + 1, 0, none⟩) 1 1] 34)) w.heap.size (w.heap.size + 1) := by
    have h1 := (Below.heap_alloc _ (.cells #[.bool false, .slice none 0 0, .slice (some ⟨w.heap.size, 0, none⟩) 1 1, .slice (some ⟨w.heap.size + 1, 0, none⟩) 1 1] 34) w.heap.size (by simp; omega)).trans (heap_alloc2_old w (.cells #[.int .i64 1, .int .i64 2] 46) (.cells #[.int .i64 5] 3))
    have h2 := (Below.heap_alloc _ (.cells #[.bool false, .slice none 0 0, .slice (some ⟨w.heap.size, 0, none⟩) 1 1, .slice (some ⟨w.heap.size + 1, 0, none⟩) 1 1] 34) (w.heap.size + 1) (by simp)).trans (heap_alloc2_new w (.cells #[.int .i64 1, .int .i64 2] 46) (.cells #[.int .i64 5] 3))
    exact ⟨nd_cell h1 0 _ rfl, nd_cell h1 1 _ rfl, nd_cell h2 0 _ rfl⟩
  have HND := Lib.hid hnd
  clear hnd
  go_enter Try.func12, Try.ntmps12
  go_wp2_with (first
    | (go_at_call 9; refine (put_ex2 w.heap.size (w.heap.size + 1) _ HND.out).mono ?_; rintro e w2 ⟨gb, c, rfl, hx2, hc2, hcm2, hb2⟩)
    | (go_at_call 17; refine (get_ex gb c _ hx2 hc2 hcm2).mono ?_; rintro e w3 ⟨gk, ck, gd, cd, rfl, hn3, hb3⟩; have hA : Below w3.heap.size w3 (w3.alloc (.cells #[.bool false, .slice none 0 0, .slice (some ⟨gk, 0, none⟩) 1 ck, .slice (some ⟨gd, 0, none⟩) 1 cd] 34)) := (Below.refl _ _).alloc (Nat.le_refl _) _; have hcv := text_nd (some ⟨gb, 0, none⟩) 15 c ndB rfl ((hx2.below hb3).below hA); have hd := (hn3.below hA).2.2))
  go_ret
  exact ⟨rfl, hbW.trans ((hb2.trans (hb3.mono hb2.size)).mono hbW.size |>.trans (hA.mono (by have := hbW.size; have := hb2.size; have := hb3.size; omega)))⟩
end Go.Proofs.Ytgkddhncfaeidaa
