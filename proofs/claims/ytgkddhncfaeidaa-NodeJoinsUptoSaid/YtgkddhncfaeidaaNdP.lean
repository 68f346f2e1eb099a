/- Package node's Put at the example. -/
import Derived.Test.YtgkddhncfaeidaaNdR
namespace Go.Proofs.Ytgkddhncfaeidaa
open Go.RowKit CrcM PageM
set_option linter.unusedVariables false

def ndB : List UInt8 := [1, 0, 0, 0, 1, 0, 0, 0, 0, 0, 0, 0, 2, 0, 5]

set_option maxRecDepth 100000 in
theorem put_ex (gk ck gd cd : Nat) (w : World) (h : NdAt w gk gd) (hc : cd ≤ maxLen) (hc1 : 1 ≤ cd) :
    Calls Try.prog 9 #[.agg #[.bool false, .slice none 0 0, .slice (some ⟨gk, 0, none⟩) 1 ck, .slice (some ⟨gd, 0, none⟩) 1 cd]] w fun r w' => ∃ A c, r = .returned (.tuple #[.slice A 15 c, .int .i64 0]) ∧ OwnS w' w.heap.size (.slice A 15 c) 5 ndB ∧ Below w.heap.size w w' := by
  have hb0 : Below w.heap.size w (w.alloc (.cells #[.bool false, .slice none 0 0, .slice (some ⟨gk, 0, none⟩) 1 ck, .slice (some ⟨gd, 0, none⟩) 1 cd] 34)) := (Below.refl _ _).alloc (Nat.le_refl _) _
  have h1 := Lib.hid (h.below hb0)
  have HC := Lib.hid hc
  have HC1 := Lib.hid hc1
  clear hc hc1 h
  go_enter Try.func9, Try.ntmps9
  go_wp2_with (first
    | (refine wpList_load_row rfl 34 (.tmp 1) rfl w.heap.size rfl 34 _ (0, 0) _ (heap_alloc_new _ _) Try.underlying34 rfl (by kernel_rfl) ?_)
    | (go_at_call 13; refine (right_ex none gk ck gd cd _ h1.out HC.out HC1.out).mono ?_; rintro e w1 ⟨rfl, hb1⟩; have hk1 := (hb1.block w.heap.size (by simp)).trans (heap_alloc_new w _))
    | (refine wpList_load_row rfl 34 (.tmp 1) rfl w.heap.size rfl 34 _ (0, 0) _ hk1 Try.underlying34 rfl (by kernel_rfl) ?_)
    | (go_at_call 15; refine (size_nd _ _ _ _ 1 _ _).mono ?_; rintro e w2 ⟨rfl, hb2⟩; have hk2 := (hb2.block w.heap.size (by have := hb1.size; simp at this; omega)).trans hk1; have hk3 := (Below.heap_alloc w2 (.cells #[.int .u8 1] 5) w.heap.size (Array.getElem?_eq_some_iff.1 hk2).1).trans hk2; have kc1 := nd_cell hk3 1 _ rfl; have kc3 := nd_cell hk3 3 _ rfl))
  have hbA : Below w.heap.size w (w2.alloc (.cells #[.int .u8 1] 5)) := (hb0.trans ((hb1.trans (hb2.mono hb1.size)).mono (by simp))).alloc (by have := hb1.size; have := hb2.size; simp at *; omega) _
  have hsz : w.heap.size + 1 ≤ w1.heap.size ∧ w1.heap.size ≤ w2.heap.size := ⟨by have := hb1.size; simpa using this, hb2.size⟩
  have hown : OwnS (w2.alloc (.cells #[.int .u8 1] 5)) w.heap.size (.slice (some ⟨w2.heap.size, 0, none⟩) 1 1) 5 [1] := OwnS.new w2 5 [1] w.heap.size (by omega) (by simp [maxLen])
  have h3 := Lib.hid (((h1.out.below hb1).below hb2).below ((Below.refl _ _).alloc (Nat.le_refl _) (.cells #[.int .u8 1] 5)))
  generalize eW : w2.alloc (.cells #[.int .u8 1] 5) = W at *
  have hWs : w2.heap.size + 1 = W.heap.size := by rw [← eW]; simp
  have EW := Lib.hid eW
  clear eW
  go_loopw [4, 19] (fun b i wr => i = .int .i64 0 ∧ b = .slice (some ⟨w2.heap.size, 0, none⟩) 1 1 ∧ wr = W) (fun _ i _ => 0)
  case atStart => exact ⟨rfl, rfl, rfl⟩
  case round =>
    obtain ⟨rfl, rfl, rfl⟩ := hrel
    go_wp2_with fail
    go_loopw [4, 30] (fun b i wx => (i = .int .i64 0 ∧ b = .slice (some ⟨w2.heap.size, 0, none⟩) 1 1 ∧ wx = wr) ∨ (i = .int .i64 1 ∧ ∃ A c, b = .slice A 15 c ∧ OwnS wx w.heap.size (.slice A 15 c) 5 ndB ∧ Below w.heap.size w wx)) (fun _ i _ => 1 - (intOf i).toNat)
    case atStart => exact .inl ⟨rfl, rfl, rfl⟩
    case round =>
      rcases hrel with ⟨rfl, rfl, rfl⟩ | ⟨rfl, A, c, rfl, ho, hb⟩
      · have d0 := h3.out.1
        have d1 := h3.out.2.1
        have d2 := h3.out.2.2
        have kc2 := nd_cell hk3 2 _ rfl
        have hr : wr.rangeAt gk 0 [.int .i64 1, .int .i64 2] := by
          intro j x hx
          match j, hx with
          | 0, hx => simp at hx; subst hx; exact d0
          | 1, hx => simp at hx; subst hx; exact d1
        go_wp2_with (first
          | (refine wpList_load_mid rfl 46 _ rfl gk 0 rfl _ _ hr Try.underlying46 rfl (by kernel_rfl) ?_)
          | (go_at_call 34; refine (putKey_nd w.heap.size 1 _ _ [1] _ rfl hown (by omega) 1 2 1 2 rfl rfl (by omega) (by omega) (by omega)).mono ?_; rintro e w4 ⟨A4, c4, rfl, ho4, hg4, hm4⟩)
          | (go_at_call 35; refine (putHigh_nd w.heap.size 13 A4 c4 _ _ rfl ho4 (by have := hg4.size; omega) 2 2 rfl (by omega) 5 (by omega) (by omega)).mono ?_; rintro e w5 ⟨A5, c5, rfl, ho5, hg5, hm5⟩))
        go_roundw
        case rel =>
          have hb4 : Below w.heap.size w w4 := hbA.grown hg4 hbA.size (fun k hk => (hown.block k hk).1)
          have hb5 : Below w.heap.size w w5 := hb4.grown hg5 hb4.size (fun k hk => (ho4.block k hk).1)
          exact .inr ⟨rfl, A5, c5, rfl, ho5, hb5⟩
        case measure => simp [intOf]
      · go_wp2_with fail
        go_ret2
        exact ⟨A, c, rfl, ho, hb⟩
end Go.Proofs.Ytgkddhncfaeidaa
