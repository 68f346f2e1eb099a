/- A disk in memory: what stands where; the calls that only look at it. -/
import Derived.Test.YtehmkegbmbkkbaaGrow
import Derived.Test.YtehmkegbmbkkbaaPartE
import Derived.Test.YtehmkegbmbkkbaaCopy
import Derived.Test.YtehmkegbmbkkbaaPiTree
import Derived.Deep.MidRow
namespace Go.Proofs.Ytehmkegbmbkkbaa
open Go.RowKit
set_option linter.unusedVariables false

/-- The cells of a write that waits. -/
def wrC (p : Nat × List UInt8) : List Value := .int .i64 (p.1 : Int) :: p.2.map bv

/-- A disk at block g: its blocks lie from B on, below N; it has L bytes: those to stay, those that are read, the writes that wait. -/
structure Dk (w : World) (B N g gs gn : Nat) (rw : Value) (L cs cn : Nat) (st nw : List UInt8) (ws : List (Nat × List UInt8)) (on : Bool) (left : Int) : Prop where
  head : w.heap[g]? = some (.cells #[.slice (some ⟨gs, 0, none⟩) L cs, .slice (some ⟨gn, 0, none⟩) L cn, rw, .bool on, .int .i64 left] 103 (0, 0))
  stay : OwnB w B gs cs 5 st
  now : OwnB w B gn cn 5 nw
  wait : w.ownsRow B 106 65 rw ws.length (ws.flatMap wrC)
  lst : st.length = L
  lnw : nw.length = L
  gB : B ≤ g
  ne : gs ≠ gn
  gN : g < N
  sN : gs < N
  nN : gn < N
  wN : ∀ k, rw.ownBlock = some k → k < N
  NN : N ≤ w.heap.size
  fit : ∀ p ∈ ws, p.2.length = 64 ∧ 64 * p.1 + 64 ≤ L
  lo : 2048 ≤ L
  hi : L ≤ 131072
  pg : L % 256 = 0

theorem grown_setC {w w' : World} {g : Nat} (h : w.grownBy w' (some g)) (i : Nat) (v : Value) : w.grownBy (w'.setCell ⟨g, i, none⟩ v) (some g) :=
  ⟨h.os, h.tape, h.output, by simpa using h.size, fun k hk hne => (Below.heap_setCell w' ⟨g, i, none⟩ v k (fun e => hne (by rw [e]))).trans (h.block k hk hne)⟩
theorem nd_row' {w w1 : World} {cs : Array Value} {t : TypeId} (hb : Below (w.alloc (.cells cs t)).heap.size (w.alloc (.cells cs t)) w1) : w1.heap[w.heap.size]? = some (.cells cs t (0, 0)) := (hb.block _ (by simp)).trans (heap_alloc_new _ _)
theorem blk_cell {w1 : World} {g : Nat} {cs : Array Value} {t : TypeId} (h : w1.heap[g]? = some (.cells cs t (0, 0))) (i : Nat) (v : Value) (hv : cs[i]? = some v) : w1.cell? ⟨g, i, none⟩ = some v := (cell_of_row w1 g i cs t _ h).trans hv

section
variable {w w' : World} {B N g gs gn L cs cn : Nat} {rw : Value} {st nw : List UInt8} {ws : List (Nat × List UInt8)} {on : Bool} {left : Int}

/-- What leaves the disk's blocks alone leaves the disk. -/
theorem Dk.keep (h : Dk w B N g gs gn rw L cs cn st nw ws on left) (hs : w.heap.size ≤ w'.heap.size) (hk : ∀ k, B ≤ k → k < N → w'.heap[k]? = w.heap[k]?) : Dk w' B N g gs gn rw L cs cn st nw ws on left :=
  { h with
    head := (hk g h.gB h.gN).trans h.head
    stay := h.stay.keep (hk gs h.stay.parts.1 h.sN)
    now := h.now.keep (hk gn h.now.parts.1 h.nN)
    wait := by
      rcases h.wait.2 with ⟨h0, h1⟩ | ⟨g', cap', cur, hv, hb, hh, hr⟩
      · exact ⟨h.wait.1, .inl ⟨h0, h1⟩⟩
      · exact ⟨h.wait.1, .inr ⟨g', cap', cur, hv, hb, (hk g' hb (h.wN g' (by rw [hv]; rfl))).trans hh, hr⟩⟩
    NN := Nat.le_trans h.NN hs }
theorem Dk.below (h : Dk w B N g gs gn rw L cs cn st nw ws on left) (hb : Below w.heap.size w w') : Dk w' B N g gs gn rw L cs cn st nw ws on left :=
  h.keep hb.size fun k _ hk => hb.block k (Nat.lt_of_lt_of_le hk h.NN)

theorem refused_on (h : Dk w B N g gs gn rw L cs cn st nw ws true left) :
    Calls Try.prog 49 #[.pointer (some ⟨g, 0, none⟩)] w fun e w' => e = .returned (.int .i64 0) ∧ w = w' := by
  have c3 := blk_cell h.head 3 _ rfl
  go_enter Try.func49, Try.ntmps49
  go_wp2_with fail
  go_ret
  exact ⟨rfl, rfl⟩
theorem refused_off (h : Dk w B N g gs gn rw L cs cn st nw ws false left) :
    Calls Try.prog 49 #[.pointer (some ⟨g, 0, none⟩)] w fun e w' => e = .returned (.int .i64 2) ∧ w = w' := by
  have c3 := blk_cell h.head 3 _ rfl
  go_enter Try.func49, Try.ntmps49
  go_wp2_with fail
  go_ret
  exact ⟨rfl, rfl⟩

theorem has_yes (h : Dk w B N g gs gn rw L cs cn st nw ws on left) (z : Int) (i : Nat) (hz : z = (i : Int)) (hi : 64 * i + 64 ≤ L) :
    Calls Try.prog 52 #[.pointer (some ⟨g, 0, none⟩), .int .i64 z] w fun e w' => e = .returned (.bool true) ∧ w = w' := by
  subst hz
  have c0 := blk_cell h.head 0 _ rfl
  have hl := h.hi
  have hd : decide ((i : Int) < (L : Int) / 64) = true := by simp; omega
  go_enter Try.func52, Try.ntmps52
  go_wp2_with fail
  all_goals go_ret
  all_goals exact ⟨rfl, rfl⟩
theorem has_no (h : Dk w B N g gs gn rw L cs cn st nw ws on left) (z : Int) (hi : z < 0 ∨ (L : Int) < 64 * z + 64) :
    Calls Try.prog 52 #[.pointer (some ⟨g, 0, none⟩), .int .i64 z] w fun e w' => e = .returned (.bool false) ∧ w = w' := by
  have c0 := blk_cell h.head 0 _ rfl
  have hl := h.hi
  by_cases hz : z < 0
  · go_enter Try.func52, Try.ntmps52
    go_wp2_with fail
    all_goals go_ret
    all_goals exact ⟨rfl, rfl⟩
  · have hd : decide (z < (L : Int) / 64) = false := by simp; omega
    go_enter Try.func52, Try.ntmps52
    go_wp2_with fail
    all_goals go_ret
    all_goals exact ⟨rfl, rfl⟩

theorem on_any (h : Dk w B N g gs gn rw L cs cn st nw ws on left) :
    Calls Try.prog 16 #[.pointer (some ⟨g, 0, none⟩)] w fun e w' => e = .returned (.bool on) ∧ w = w' := by
  have c3 := blk_cell h.head 3 _ rfl
  go_enter Try.func16, Try.ntmps16
  go_wp2_with fail
  go_ret
  exact ⟨rfl, rfl⟩

theorem pages_any (h : Dk w B N g gs gn rw L cs cn st nw ws on left) :
    Calls Try.prog 17 #[.pointer (some ⟨g, 0, none⟩)] w fun e w' => e = .returned (.int .i64 ((L / 256 : Nat) : Int)) ∧ w = w' := by
  have c0 := blk_cell h.head 0 _ rfl
  have hl := h.hi
  go_enter Try.func17, Try.ntmps17
  go_wp2_with fail
  go_ret
  exact ⟨rfl, rfl⟩

/-- A row of writes, as a slice value. -/
theorem Dk.rows (h : Dk w B N g gs gn rw L cs cn st nw ws on left) : ∃ A c, rw = .slice A ws.length c := by
  rcases h.wait.2 with ⟨h0, h1⟩ | ⟨g', cap', cur, hv, _⟩
  · exact ⟨none, 0, by rw [h0, h1]⟩
  · exact ⟨_, _, hv⟩

theorem waiting_any (h : Dk w B N g gs gn rw L cs cn st nw ws on left) (n : Nat) (hn : ws.length = n) :
    Calls Try.prog 18 #[.pointer (some ⟨g, 0, none⟩)] w fun e w' => e = .returned (.int .i64 (n : Int)) ∧ w = w' := by
  obtain ⟨A, c, hr⟩ := h.rows
  rw [hn] at hr
  subst hr
  have c2 := blk_cell h.head 2 _ rfl
  go_enter Try.func18, Try.ntmps18
  go_wp2_with fail
  go_ret
  exact ⟨rfl, rfl⟩

theorem sector_any (b c i : Nat) (hi : 64 * i + 64 ≤ L) (hL : L ≤ 131072) (hc : L ≤ c) (hcm : c ≤ maxLen) (z : Int) (hz : z = (i : Int)) :
    Calls Try.prog 51 #[.slice (some ⟨b, 0, none⟩) L c, .int .i64 z] w fun e w' => e = .returned (.slice (some ⟨b, 64 * i, none⟩) 64 (c - 64 * i)) ∧ w = w' := by
  subst hz
  unfold maxLen at hcm
  have hne : ¬ c = 64 * i := by omega
  go_enter Try.func51, Try.ntmps51
  go_wp2_with fail
  go_ret
  refine ⟨congrArg Ending.returned (?_ : Value.slice (some ⟨b, i * 64, none⟩) ((i + 1) * 64 - i * 64) (c - i * 64) = _), rfl⟩
  rw [show (i + 1) * 64 - i * 64 = 64 by omega, Nat.mul_comm i 64]
end
end Go.Proofs.Ytehmkegbmbkkbaa
