/- The cursor of package node's Get over whatever bytes: high, key, entry. -/
import Derived.Test.YtgkddhncfaeidaaNdTo
import Derived.Test.YtgkddhncfaeidaaNdG
namespace Go.Proofs.Ytgkddhncfaeidaa
open Go.ChangeShapes Go.WideShapes Go.ChangeAt Go.RowKit CrcM PageM
set_option linter.unusedVariables false

/-- A cursor: the bytes that are left. -/
def CurAt (w : World) (r : Nat) (xs : List UInt8) : Prop := ∃ A cap, w.heap[r]? = some (.cells #[.slice A xs.length cap] 95 (0, 0)) ∧ xs.length ≤ cap ∧ cap ≤ maxLen ∧ BytesAt w A xs ∧ (xs ≠ [] → ∀ a, A = some a → a.block < r)
theorem CurAt.below {w w' : World} {r : Nat} {xs : List UInt8} (h : CurAt w r xs) (hb : Below w.heap.size w w') : CurAt w' r xs := by
  obtain ⟨A, cap, h1, h2, h3, h4, h5⟩ := h
  exact ⟨A, cap, (hb.block r (Array.getElem?_eq_some_iff.1 h1).1).trans h1, h2, h3, h4.below hb, h5⟩
theorem CurAt.lt {w : World} {r : Nat} {xs : List UInt8} (h : CurAt w r xs) : r < w.heap.size := by
  obtain ⟨A, cap, h1, _⟩ := h
  exact (Array.getElem?_eq_some_iff.1 h1).1
theorem high_cur (w : World) (r : Nat) (xs : List UInt8) (h : CurAt w r xs) (z : Int) (s : Nat) (hz : z = (s : Int)) (h1 : 1 ≤ s) (hs : s ≤ xs.length) (hs8 : s ≤ 8) :
    Calls Try.prog 46 #[.pointer (some ⟨r, 0, none⟩), .int .i64 z] w fun e w' => e = .returned (.int .u64 (val (xs.take s))) ∧ CurAt w' r (xs.drop s) ∧ w.grownBy w' (some r) ∧ w'.heap.size = w.heap.size := by
  obtain ⟨A, cap, k1, k2, k3, k4, k5⟩ := h
  obtain ⟨g, o, rfl, hc⟩ := k4 (by intro e; rw [e] at hs; simp at hs; omega)
  refine (high_nd r g o xs.length cap xs w k1 (fun _ => ⟨g, o, rfl, hc⟩) rfl k2 k3 z s hz hs hs8).mono ?_
  rintro e w' ⟨rfl, A', rfl, hA⟩
  have hg : w.grownBy (w.setCell ⟨r, 0, none⟩ (.slice A' (xs.length - s) (cap - s))) (some r) := World.grownBy.setCell_own (World.grownBy.refl w _) 0 _
  have hlt0 : g < r := k5 (by intro e; rw [e] at hs; simp at hs; omega) _ rfl
  have hne : g ≠ r := by omega
  refine ⟨rfl, ⟨A', cap - s, ?_, by rw [List.length_drop]; omega, by omega, ?_, ?_⟩, hg, by simp⟩
  · rw [heap_setCell_same w r 0 _ _ _ k1, List.length_drop]
    rfl
  · intro hne'
    have hlt : s < xs.length := by
      rcases Nat.lt_or_ge s xs.length with h | h
      · exact h
      · exact absurd (List.drop_eq_nil_of_le h) hne'
    obtain rfl := hA hlt
    have hb := bytes_grown (fun _ => ⟨g, o, rfl, hc⟩ : BytesAt w (some ⟨g, o, none⟩) xs) hg hne
    exact hb.cut s (some ⟨g, o + s, none⟩) (fun _ => by rw [Option.map_some]; congr 1; unfold Addr.add; split <;> simp_all) hne'
  · intro hne' a ha
    have hlt : s < xs.length := by
      rcases Nat.lt_or_ge s xs.length with h | h
      · exact h
      · exact absurd (List.drop_eq_nil_of_le h) hne'
    obtain rfl := hA hlt
    injection ha with ha
    rw [← ha]
    exact hlt0
/-- Another block is written whole: the cursor stays where its bytes lie elsewhere. -/
theorem CurAt.setRow {w : World} {r g : Nat} {xs : List UInt8} {cs cs' : Array Value} {T : TypeId} (h : CurAt w r xs) (hg : w.heap[g]? = some (.cells cs T (0, 0))) (hne : g ≠ r) (hcs : ∀ (i : Nat) (z : Int), cs[i]? ≠ some (.int .u8 z)) : CurAt (w.setRow g cs') r xs := by
  obtain ⟨A, cap, h1, h2, h3, h4, h5⟩ := h
  refine ⟨A, cap, (setRow_other w g r cs' (Ne.symm hne)).trans h1, h2, h3, fun hx => ?_, h5⟩
  obtain ⟨b, off, hA, hc⟩ := h4 hx
  refine ⟨b, off, hA, fun k hk => ?_⟩
  have hb : b ≠ g := fun e => by
    subst e
    have h6 := hc k hk
    rw [cell_of_row w b (off + k) _ _ _ hg] at h6
    exact hcs _ _ h6
  exact (World.cell?_of_block (a := ⟨b, off + k, none⟩) (setRow_other w g b cs' hb)).trans (hc k hk)
/-- What eight bytes are as a number with a sign. -/
def s64 (n : Nat) : Int := wrap64 (n : Int)
def keyP (b : List UInt8) : KeyD := ⟨s64 (val (b.take 4)), s64 (val ((b.drop 4).take 8))⟩

set_option maxRecDepth 100000 in
theorem key_cur (w : World) (r : Nat) (xs : List UInt8) (h : CurAt w r xs) (hl : 12 ≤ xs.length) :
    Calls Try.prog 45 #[.pointer (some ⟨r, 0, none⟩)] w fun e w' => e = .returned (.agg #[.int .i64 (keyP xs).se, .int .i64 (keyP xs).st]) ∧ CurAt w' r (xs.drop 12) ∧ w.grownBy w' (some r) := by
  have hlt := h.lt
  have hra := h.below ((Below.refl w.heap.size w).alloc (Nat.le_refl _) (.cells #[.int .i64 0, .int .i64 0] 46))
  have hkr : (w.alloc (.cells #[.int .i64 0, .int .i64 0] 46)).heap[w.heap.size]? = _ := heap_alloc_new w _
  have HRA := Lib.hid hra
  have HKR := Lib.hid hkr
  obtain ⟨n4, h4⟩ : ∃ n, val (xs.take 4) = n := ⟨_, rfl⟩
  obtain ⟨n8, h8⟩ : ∃ n, val ((xs.drop 4).take 8) = n := ⟨_, rfl⟩
  obtain ⟨z4, hz4⟩ : ∃ z, wrap64 (n4 : Int) = z := ⟨_, rfl⟩
  obtain ⟨z8, hz8⟩ : ∃ z, wrap64 (n8 : Int) = z := ⟨_, rfl⟩
  have hk : keyP xs = ⟨z4, z8⟩ := by unfold keyP s64; rw [h4, h8, hz4, hz8]
  rw [hk]
  dsimp only
  have H4 := Lib.hid h4
  have H8 := Lib.hid h8
  have H84 : Hid ((xs.drop 4).drop 8 = xs.drop 12) := Lib.hid (by rw [List.drop_drop])
  have q1 : 4 ≤ xs.length := by omega
  have q2 : 8 ≤ (xs.drop 4).length := by rw [List.length_drop]; omega
  have Q1 := Lib.hid q1
  have Q2 := Lib.hid q2
  have HHI4 : Hid (∀ W, CurAt W r xs → Calls Try.prog 46 #[.pointer (some ⟨r, 0, none⟩), .int .i64 4] W fun e w' => e = .returned (.int .u64 n4) ∧ CurAt w' r (xs.drop 4) ∧ W.grownBy w' (some r)) := Lib.hid (fun W hW => (high_cur W r xs hW 4 4 (by decide) (by decide) q1 (by decide)).mono (fun e w' ⟨a, b, c, _⟩ => ⟨h4 ▸ a, b, c⟩))
  have HHI8 : Hid (∀ W, CurAt W r (xs.drop 4) → Calls Try.prog 46 #[.pointer (some ⟨r, 0, none⟩), .int .i64 8] W fun e w' => e = .returned (.int .u64 n8) ∧ CurAt w' r (xs.drop 12) ∧ W.grownBy w' (some r)) := Lib.hid (fun W hW => (high_cur W r (xs.drop 4) hW 8 8 (by decide) (by decide) q2 (by decide)).mono (fun e w' ⟨a, b, c, _⟩ => ⟨h8 ▸ a, by rw [List.drop_drop] at b; exact b, c⟩))
  clear h hra hkr h4 h8 hk q1 q2 H4 H8 H84
  go_enter Try.func45, Try.ntmps45
  go_wp2_with (first
    | (go_at_call 46; (with_reducible refine (HHI4.out _ HRA.out).mono ?_); rintro e w1 ⟨rfl, hc1, hg1⟩; have HC1 := Lib.hid hc1; clear hc1)
    | (go_at_call 46; (with_reducible refine (HHI8.out _ HC1.out).mono ?_); rintro e w2 ⟨rfl, hc2, hg2⟩; have HC2 := Lib.hid hc2; clear hc2; have hk2 := (hg2.block w.heap.size (by have := hg1.size; simp at this; omega) (by intro e; injection e; omega)).trans ((hg1.block w.heap.size (by simp) (by intro e; injection e; omega)).trans HKR.out))
    | (refine wpList_store_row rfl 46 (.tmp 2) (.tmp 9) rfl w.heap.size _ rfl rfl 46 _ hk2 (by kernel_rfl) (by kernel_rfl) (by kernel_rfl) ?_))
  have hlt1 : w.heap.size < w1.heap.size := by have := hg1.size; simp at this; omega
  have hlt2 : w.heap.size < w2.heap.size := Nat.lt_of_lt_of_le hlt1 hg2.size
  have hg : w.grownBy w2 (some r) := (grown_alloc w _ _).trans' (hg1.trans' hg2)
  refine bodyPost_ret (v := .agg #[.int .i64 z4, .int .i64 z8]) (results_cell_row (p := 2) (ty := 46) rfl _ _ w.heap.size 46 #[.int .i64 z4, .int .i64 z8] (0, 0) _ rfl (setRow_heap _ _ _ _ _ _ hk2) Try.underlying46 rfl (by kernel_rfl)) rfl ⟨rfl, ?_, ?_⟩
  · exact HC2.out.setRow hk2 (by omega) (fun i z => by match i with | 0 => simp | 1 => simp | i + 2 => simp)
  · exact ⟨hg.os, hg.tape, hg.output, by simpa using hg.size, fun k hk hne => (setRow_other _ _ _ _ (by omega)).trans (hg.block k hk hne)⟩
end Go.Proofs.Ytgkddhncfaeidaa
