/- Several texts in one: A disk in memory: what stands where; the calls that only look at it. Disks that are new, or loaded. Read and Image of a disk. Write of a disk. -/
import Derived.Test.YtmmkmpjhmbocfaaGrow
import Derived.Test.YtmmkmpjhmbocfaaPartE
import Derived.Test.YtmmkmpjhmbocfaaCopy
import Derived.Test.YtmmkmpjhmbocfaaPiTree
import Derived.Deep.MidRow
namespace Go.Proofs.Ytmmkmpjhmbocfaa
open Go.RowKit
set_option linter.unusedVariables false

/-- The cells of a write that waits. -/
def wrC (p : Nat × List UInt8) : List Value := .int .i64 (p.1 : Int) :: p.2.map bv

/-- A disk at block g: its blocks lie from B on, below N; it has L bytes: those to stay, those that are read, the writes that wait. -/
structure Dk (w : World) (B N g gs gn : Nat) (rw : Value) (L cs cn : Nat) (st nw : List UInt8) (ws : List (Nat × List UInt8)) (on : Bool) (left : Int) : Prop where
  head : w.heap[g]? = some (.cells #[.slice (some ⟨gs, 0, none⟩) L cs, .slice (some ⟨gn, 0, none⟩) L cn, rw, .bool on, .int .i64 left] 103 (0, 0))
  stay : OwnB w B gs cs 5 st
  now : OwnB w B gn cn 5 nw
  wait : w.ownsRow B 106 65 rw ws.length (ws.flatMap wrC)
  lst : st.length = L
  lnw : nw.length = L
  gB : B ≤ g
  ne : gs ≠ gn
  gN : g < N
  sN : gs < N
  nN : gn < N
  wN : ∀ k, rw.ownBlock = some k → k < N
  NN : N ≤ w.heap.size
  fit : ∀ p ∈ ws, p.2.length = 64 ∧ 64 * p.1 + 64 ≤ L
  lo : 2048 ≤ L
  hi : L ≤ 131072
  pg : L % 256 = 0

theorem grown_setC {w w' : World} {g : Nat} (h : w.grownBy w' (some g)) (i : Nat) (v : Value) : w.grownBy (w'.setCell ⟨g, i, none⟩ v) (some g) :=
  ⟨h.os, h.tape, h.output, by simpa using h.size, fun k hk hne => (Below.heap_setCell w' ⟨g, i, none⟩ v k (fun e => hne (by rw [e]))).trans (h.block k hk hne)⟩
theorem nd_row' {w w1 : World} {cs : Array Value} {t : TypeId} (hb : Below (w.alloc (.cells cs t)).heap.size (w.alloc (.cells cs t)) w1) : w1.heap[w.heap.size]? = some (.cells cs t (0, 0)) := (hb.block _ (by simp)).trans (heap_alloc_new _ _)
theorem blk_cell {w1 : World} {g : Nat} {cs : Array Value} {t : TypeId} (h : w1.heap[g]? = some (.cells cs t (0, 0))) (i : Nat) (v : Value) (hv : cs[i]? = some v) : w1.cell? ⟨g, i, none⟩ = some v := (cell_of_row w1 g i cs t _ h).trans hv

section
variable {w w' : World} {B N g gs gn L cs cn : Nat} {rw : Value} {st nw : List UInt8} {ws : List (Nat × List UInt8)} {on : Bool} {left : Int}

/-- What leaves the disk's blocks alone leaves the disk. -/
theorem Dk.keep (h : Dk w B N g gs gn rw L cs cn st nw ws on left) (hs : w.heap.size ≤ w'.heap.size) (hk : ∀ k, B ≤ k → k < N → w'.heap[k]? = w.heap[k]?) : Dk w' B N g gs gn rw L cs cn st nw ws on left :=
  { h with
    head := (hk g h.gB h.gN).trans h.head
    stay := h.stay.keep (hk gs h.stay.parts.1 h.sN)
    now := h.now.keep (hk gn h.now.parts.1 h.nN)
    wait := by
      rcases h.wait.2 with ⟨h0, h1⟩ | ⟨g', cap', cur, hv, hb, hh, hr⟩
      · exact ⟨h.wait.1, .inl ⟨h0, h1⟩⟩
      · exact ⟨h.wait.1, .inr ⟨g', cap', cur, hv, hb, (hk g' hb (h.wN g' (by rw [hv]; rfl))).trans hh, hr⟩⟩
    NN := Nat.le_trans h.NN hs }
theorem Dk.below (h : Dk w B N g gs gn rw L cs cn st nw ws on left) (hb : Below w.heap.size w w') : Dk w' B N g gs gn rw L cs cn st nw ws on left :=
  h.keep hb.size fun k _ hk => hb.block k (Nat.lt_of_lt_of_le hk h.NN)

theorem refused_on (h : Dk w B N g gs gn rw L cs cn st nw ws true left) :
    Calls Try.prog 49 #[.pointer (some ⟨g, 0, none⟩)] w fun e w' => e = .returned (.int .i64 0) ∧ w = w' := by
  have c3 := blk_cell h.head 3 _ rfl
  go_enter Try.func49, Try.ntmps49
  go_wp2_with fail
  go_ret
  exact ⟨rfl, rfl⟩
theorem refused_off (h : Dk w B N g gs gn rw L cs cn st nw ws false left) :
    Calls Try.prog 49 #[.pointer (some ⟨g, 0, none⟩)] w fun e w' => e = .returned (.int .i64 2) ∧ w = w' := by
  have c3 := blk_cell h.head 3 _ rfl
  go_enter Try.func49, Try.ntmps49
  go_wp2_with fail
  go_ret
  exact ⟨rfl, rfl⟩

theorem has_yes (h : Dk w B N g gs gn rw L cs cn st nw ws on left) (z : Int) (i : Nat) (hz : z = (i : Int)) (hi : 64 * i + 64 ≤ L) :
    Calls Try.prog 52 #[.pointer (some ⟨g, 0, none⟩), .int .i64 z] w fun e w' => e = .returned (.bool true) ∧ w = w' := by
  subst hz
  have c0 := blk_cell h.head 0 _ rfl
  have hl := h.hi
  have hd : decide ((i : Int) < (L : Int) / 64) = true := by simp; omega
  go_enter Try.func52, Try.ntmps52
  go_wp2_with fail
  all_goals go_ret
  all_goals exact ⟨rfl, rfl⟩
theorem has_no (h : Dk w B N g gs gn rw L cs cn st nw ws on left) (z : Int) (hi : z < 0 ∨ (L : Int) < 64 * z + 64) :
    Calls Try.prog 52 #[.pointer (some ⟨g, 0, none⟩), .int .i64 z] w fun e w' => e = .returned (.bool false) ∧ w = w' := by
  have c0 := blk_cell h.head 0 _ rfl
  have hl := h.hi
  by_cases hz : z < 0
  · go_enter Try.func52, Try.ntmps52
    go_wp2_with fail
    all_goals go_ret
    all_goals exact ⟨rfl, rfl⟩
  · have hd : decide (z < (L : Int) / 64) = false := by simp; omega
    go_enter Try.func52, Try.ntmps52
    go_wp2_with fail
    all_goals go_ret
    all_goals exact ⟨rfl, rfl⟩

theorem on_any (h : Dk w B N g gs gn rw L cs cn st nw ws on left) :
    Calls Try.prog 16 #[.pointer (some ⟨g, 0, none⟩)] w fun e w' => e = .returned (.bool on) ∧ w = w' := by
  have c3 := blk_cell h.head 3 _ rfl
  go_enter Try.func16, Try.ntmps16
  go_wp2_with fail
  go_ret
  exact ⟨rfl, rfl⟩

theorem pages_any (h : Dk w B N g gs gn rw L cs cn st nw ws on left) :
    Calls Try.prog 17 #[.pointer (some ⟨g, 0, none⟩)] w fun e w' => e = .returned (.int .i64 ((L / 256 : Nat) : Int)) ∧ w = w' := by
  have c0 := blk_cell h.head 0 _ rfl
  have hl := h.hi
  go_enter Try.func17, Try.ntmps17
  go_wp2_with fail
  go_ret
  exact ⟨rfl, rfl⟩

/-- A row of writes, as a slice value. -/
theorem Dk.rows (h : Dk w B N g gs gn rw L cs cn st nw ws on left) : ∃ A c, rw = .slice A ws.length c := by
  rcases h.wait.2 with ⟨h0, h1⟩ | ⟨g', cap', cur, hv, _⟩
  · exact ⟨none, 0, by rw [h0, h1]⟩
  · exact ⟨_, _, hv⟩

theorem waiting_any (h : Dk w B N g gs gn rw L cs cn st nw ws on left) (n : Nat) (hn : ws.length = n) :
    Calls Try.prog 18 #[.pointer (some ⟨g, 0, none⟩)] w fun e w' => e = .returned (.int .i64 (n : Int)) ∧ w = w' := by
  obtain ⟨A, c, hr⟩ := h.rows
  rw [hn] at hr
  subst hr
  have c2 := blk_cell h.head 2 _ rfl
  go_enter Try.func18, Try.ntmps18
  go_wp2_with fail
  go_ret
  exact ⟨rfl, rfl⟩

theorem sector_any (b c i : Nat) (hi : 64 * i + 64 ≤ L) (hL : L ≤ 131072) (hc : L ≤ c) (hcm : c ≤ maxLen) (z : Int) (hz : z = (i : Int)) :
    Calls Try.prog 51 #[.slice (some ⟨b, 0, none⟩) L c, .int .i64 z] w fun e w' => e = .returned (.slice (some ⟨b, 64 * i, none⟩) 64 (c - 64 * i)) ∧ w = w' := by
  subst hz
  unfold maxLen at hcm
  have hne : ¬ c = 64 * i := by omega
  go_enter Try.func51, Try.ntmps51
  go_wp2_with fail
  go_ret
  refine ⟨congrArg Ending.returned (?_ : Value.slice (some ⟨b, i * 64, none⟩) ((i + 1) * 64 - i * 64) (c - i * 64) = _), rfl⟩
  rw [show (i + 1) * 64 - i * 64 = 64 by omega, Nat.mul_comm i 64]
end
end Go.Proofs.Ytmmkmpjhmbocfaa

namespace Go.Proofs.Ytmmkmpjhmbocfaa
open Go.RowKit
set_option linter.unusedVariables false

theorem OwnS.ownB {w : World} {base n c : Nat} {A : Option Addr} {E : TypeId} {xs : List UInt8} (h : OwnS w base (.slice A n c) E xs) (hp : 0 < n) : ∃ g, A = some ⟨g, 0, none⟩ ∧ OwnB w base g c E xs ∧ xs.length = n := by
  have hc := h.caps
  rcases h.cases with ⟨h1, h2⟩ | ⟨g, cap, hv, hob⟩
  · subst h2
    have := hc.1
    simp at this
    omega
  · injection hv with hv1 hv2 hv3
    subst hv1 hv3
    exact ⟨g, rfl, hob, hc.1⟩

theorem load_bad (A : Option Addr) (n c : Nat) (w : World) (h : n % 256 ≠ 0 ∨ n < 2048 ∨ 131327 < n) (hn : n ≤ 1000000) :
    Calls Try.prog 28 #[.slice A n c] w fun e w' => e = .returned (.tuple #[.pointer none, .int .i64 1]) ∧ w = w' := by
  by_cases h1 : n % 256 = 0
  · by_cases h2 : n < 2048
    · go_enter Try.func28, Try.ntmps28
      go_wp2_with fail
      all_goals go_ret2
      all_goals exact ⟨rfl, rfl⟩
    · go_enter Try.func28, Try.ntmps28
      go_wp2_with fail
      all_goals go_ret2
      all_goals exact ⟨rfl, rfl⟩
  · go_enter Try.func28, Try.ntmps28
    go_wp2_with fail
    all_goals go_ret2
    all_goals exact ⟨rfl, rfl⟩

set_option maxRecDepth 100000 in
theorem load_ok (A : Option Addr) (n c : Nat) (xs : List UInt8) (w : World) (hx : BytesAt w A xs) (hl : xs.length = n) (hn : n % 256 = 0) (h1 : 2048 ≤ n) (h2 : n ≤ 131072) (hA : A = none → n = 0 ∧ c = 0) :
    Calls Try.prog 28 #[.slice A n c] w fun e w' => ∃ g gs gn cs cn, e = .returned (.tuple #[.pointer (some ⟨g, 0, none⟩), .int .i64 0]) ∧ Dk w' w.heap.size w'.heap.size g gs gn (.slice none 0 0) n cs cn xs xs [] true (-1) ∧ Below w.heap.size w w' := by
  have HX := Lib.hid hx
  have HL := Lib.hid hl
  have HA := Lib.hid hA
  clear hx hl hA
  go_enter Try.func28, Try.ntmps28
  go_wp2_with (first
    | (go_at_call 53; refine (clone_any A n c xs w HL.out HX.out (by omega) HA.out).mono ?_; rintro e w1 ⟨A1, c1, rfl, ho1, hb1⟩; obtain ⟨gs, rfl, hob1, _⟩ := ho1.ownB (by omega))
    | (go_at_call 53; refine (clone_any A n c xs w1 HL.out (HX.out.below hb1) (by omega) HA.out).mono ?_; rintro e w2 ⟨A2, c2, rfl, ho2, hb2⟩; obtain ⟨gn, rfl, hob2, _⟩ := ho2.ownB (by omega)))
  go_ret2
  have hs1 := hb1.size
  have hs2 := hb2.size
  have p1 := hob1.lt
  have p2 := hob2.lt
  have q2 := hob2.parts.1
  refine ⟨w2.heap.size, gs, gn, c1, c2, rfl, ?_, (hb1.trans (hb2.mono hs1)).alloc (by omega) _⟩
  exact {
    head := heap_alloc_new _ _
    stay := (hob1.below hb2 p1).alloc _
    now := by
      have := hob2.alloc (.cells #[.slice (some ⟨gs, 0, none⟩) n c1, .slice (some ⟨gn, 0, none⟩) n c2, .slice none 0 0, .bool true, .int .i64 (-1)] 103)
      exact OwnS.mono this hs1
    wait := World.ownsRow_nil _ _ _ _
    lst := HL.out
    lnw := HL.out
    gB := by omega
    ne := by omega
    gN := by simp
    sN := by simp; omega
    nN := by simp; omega
    wN := fun k hk => by cases hk
    NN := Nat.le_refl _
    fit := fun p hp => by cases hp
    lo := h1
    hi := h2
    pg := hn }
end Go.Proofs.Ytmmkmpjhmbocfaa

namespace Go.Proofs.Ytmmkmpjhmbocfaa
open Go.RowKit
set_option linter.unusedVariables false
section
variable {w w' : World} {B N g gs gn L cs cn : Nat} {rw : Value} {st nw : List UInt8} {ws : List (Nat × List UInt8)} {on : Bool} {left : Int}

theorem image_any (h : Dk w B N g gs gn rw L cs cn st nw ws on left) :
    Calls Try.prog 19 #[.pointer (some ⟨g, 0, none⟩)] w fun e w' => ∃ A c, e = .returned (.slice A L c) ∧ OwnS w' w.heap.size (.slice A L c) 5 st ∧ Below w.heap.size w w' := by
  have c0 := blk_cell h.head 0 _ rfl
  have hl := h.hi
  have hlo := h.lo
  have hby := Lib.hid h.stay.bytes
  have hst := Lib.hid h.lst
  go_enter Try.func19, Try.ntmps19
  go_wp2_with (go_at_call 53; refine (clone_any _ L cs st w hst.out hby.out (by omega) (fun h => by cases h)).mono ?_; rintro e w1 ⟨A1, c1, rfl, ho1, hb1⟩)
  go_ret
  exact ⟨A1, c1, rfl, ho1, hb1⟩

theorem BytesAt.mid {b : Nat} {xs : List UInt8} (h : BytesAt w (some ⟨b, 0, none⟩) xs) (o n : Nat) : BytesAt w (some ⟨b, o, none⟩) ((xs.drop o).take n) :=
  (h.cut o (some ⟨b, o, none⟩) (fun _ => by rw [Option.map_some]; congr 1; unfold Addr.add; split <;> simp_all)).take n

set_option maxRecDepth 100000 in
theorem read_ok (h : Dk w B N g gs gn rw L cs cn st nw ws true left) (z : Int) (i : Nat) (hz : z = (i : Int)) (hi : 64 * i + 64 ≤ L) :
    Calls Try.prog 12 #[.pointer (some ⟨g, 0, none⟩), .int .i64 z] w fun e w' => ∃ A c, e = .returned (.tuple #[.slice A 64 c, .int .i64 0]) ∧ OwnS w' w.heap.size (.slice A 64 c) 5 ((nw.drop (64 * i)).take 64) ∧ Below w.heap.size w w' := by
  subst hz
  have c1 := blk_cell h.head 1 _ rfl
  have hl := h.hi
  obtain ⟨_, hcn, hcm, _⟩ := h.now.parts
  rw [h.lnw] at hcn
  have H := Lib.hid h
  have hby := Lib.hid (BytesAt.mid h.now.bytes (64 * i) 64)
  have hln : Hid (((nw.drop (64 * i)).take 64).length = 64) := Lib.hid (by simp [h.lnw]; omega)
  clear h
  go_enter Try.func12, Try.ntmps12
  go_wp2_with (first
    | (go_at_call 49; refine (refused_on H.out).mono ?_; rintro e w1 ⟨rfl, rfl⟩)
    | (go_at_call 52; refine (has_yes H.out _ i rfl hi).mono ?_; rintro e w1 ⟨rfl, rfl⟩)
    | (go_at_call 51; refine (sector_any gn cn i hi hl hcn hcm _ rfl).mono ?_; rintro e w1 ⟨rfl, rfl⟩)
    | (go_at_call 53; refine (clone_any _ 64 _ _ _ hln.out hby.out (by omega) (fun h => by cases h)).mono ?_; rintro e w1 ⟨A1, c1, rfl, ho1, hb1⟩))
  go_ret2
  exact ⟨A1, c1, rfl, ho1, hb1⟩
end
end Go.Proofs.Ytmmkmpjhmbocfaa

namespace Go.Proofs.Ytmmkmpjhmbocfaa
open Go.RowKit
set_option linter.unusedVariables false
section
variable {w w' : World} {B N g gs gn L cs cn : Nat} {rw : Value} {st nw : List UInt8} {ws : List (Nat × List UInt8)} {on : Bool} {left : Int}

theorem Dk.with (h : Dk w B N g gs gn rw L cs cn st nw ws on left) (on' : Bool) (left' : Int) (hs : w.heap.size = w'.heap.size) (hk : ∀ k, k ≠ g → w'.heap[k]? = w.heap[k]?)
    (hg : w'.heap[g]? = some (.cells #[.slice (some ⟨gs, 0, none⟩) L cs, .slice (some ⟨gn, 0, none⟩) L cn, rw, .bool on', .int .i64 left'] 103 (0, 0))) :
    Dk w' B N g gs gn rw L cs cn st nw ws on' left' := by
  have hgs : gs ≠ g := by
    intro e
    obtain ⟨_, _, _, cur, hh, _⟩ := h.stay.parts
    rw [e, h.head] at hh
    simp at hh
  have hgn : gn ≠ g := by
    intro e
    obtain ⟨_, _, _, cur, hh, _⟩ := h.now.parts
    rw [e, h.head] at hh
    simp at hh
  exact { h with
    head := hg
    stay := h.stay.keep (hk gs hgs)
    now := h.now.keep (hk gn hgn)
    wait := by
      rcases h.wait.2 with ⟨h0, h1⟩ | ⟨g', cap', cur, hv, hb, hh, hr⟩
      · exact ⟨h.wait.1, .inl ⟨h0, h1⟩⟩
      · refine ⟨h.wait.1, .inr ⟨g', cap', cur, hv, hb, (hk g' ?_).trans hh, hr⟩⟩
        intro e
        rw [e, h.head] at hh
        simp at hh
    NN := by rw [← hs]; exact h.NN }

/-- Behind a step that may be done. -/
def stepped (left : Int) : Int := if 0 < left then left - 1 else left

theorem step_no (h : Dk w B N g gs gn rw L cs cn st nw ws true 0) :
    Calls Try.prog 55 #[.pointer (some ⟨g, 0, none⟩)] w fun e w' => e = .returned (.bool false) ∧ Dk w' B N g gs gn rw L cs cn st nw ws false 0 ∧ w.grownBy w' (some g) ∧ w'.heap.size = w.heap.size := by
  have c4 := blk_cell h.head 4 _ rfl
  have f3 : w.frozen? ⟨g, 3, none⟩ = false := by simp [World.frozen?, h.head]
  have c3 := blk_cell h.head 3 _ rfl
  go_enter Try.func55, Try.ntmps55
  go_wp2_with fail
  go_ret
  exact ⟨rfl, h.with false 0 (by simp) (fun k hk => Below.heap_setCell w ⟨g, 3, none⟩ _ k hk) ((heap_setCell_same w g 3 _ _ _ h.head).trans rfl), grown_setC (World.grownBy.refl w _) 3 _, by simp⟩

theorem step_yes (h : Dk w B N g gs gn rw L cs cn st nw ws true left) (hne : left ≠ 0) (hl : -1 ≤ left) (hm : left ≤ 9223372036854775807) (l' : Int) (hl' : stepped left = l') :
    Calls Try.prog 55 #[.pointer (some ⟨g, 0, none⟩)] w fun e w' => e = .returned (.bool true) ∧ Dk w' B N g gs gn rw L cs cn st nw ws true l' ∧ w.grownBy w' (some g) ∧ w'.heap.size = w.heap.size := by
  have c4 := blk_cell h.head 4 _ rfl
  have f4 : w.frozen? ⟨g, 4, none⟩ = false := by simp [World.frozen?, h.head]
  have hz : (left == 0) = false := by simp [hne]
  unfold stepped at hl'
  by_cases hp : 0 < left
  · rw [if_pos hp] at hl'
    subst hl'
    go_enter Try.func55, Try.ntmps55
    go_wp2_with fail
    go_ret
    exact ⟨rfl, h.with true (left - 1) (by simp) (fun k hk => Below.heap_setCell w ⟨g, 4, none⟩ _ k hk) ((heap_setCell_same w g 4 _ _ _ h.head).trans rfl), grown_setC (World.grownBy.refl w _) 4 _, by simp⟩
  · rw [if_neg hp] at hl'
    subst hl'
    go_enter Try.func55, Try.ntmps55
    go_wp2_with fail
    go_ret
    exact ⟨rfl, h, World.grownBy.refl w _, rfl⟩
end
end Go.Proofs.Ytmmkmpjhmbocfaa
