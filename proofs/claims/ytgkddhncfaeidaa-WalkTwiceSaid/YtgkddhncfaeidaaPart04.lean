/- Several texts in one: A disk in memory: what stands where; the calls that only look at it. Disks that are new, or loaded. Read and Image of a disk. Write of a disk. A region that draws its order, where one of two, or of three, may come next; composite values and checks for nil are soft, too. No program is named here. -/
import Derived.Test.YtgkddhncfaeidaaPart01
import Derived.Test.YtgkddhncfaeidaaPart03
import Derived.Deep.MidRow
set_option linter.unusedSimpArgs false
set_option linter.unusedVariables false
namespace Go.Proofs.Ytgkddhncfaeidaa
open Go.RowKit
set_option linter.unusedVariables false

/-- The cells of a write that waits. -/
def wrC (p : Nat × List UInt8) : List Value := .int .i64 (p.1 : Int) :: p.2.map bv

/-- A disk at block g: its blocks lie from B on, below N; it has L bytes: those to stay, those that are read, the writes that wait. -/
structure Dk (w : World) (B N g gs gn : Nat) (rw : Value) (L cs cn : Nat) (st nw : List UInt8) (ws : List (Nat × List UInt8)) (on : Bool) (left : Int) : Prop where
  head : w.heap[g]? = some (.cells #[.slice (some ⟨gs, 0, none⟩) L cs, .slice (some ⟨gn, 0, none⟩) L cn, rw, .bool on, .int .i64 left] 159 (0, 0))
  stay : OwnB w B gs cs 5 st
  now : OwnB w B gn cn 5 nw
  wait : w.ownsRow B 211 65 rw ws.length (ws.flatMap wrC)
  lst : st.length = L
  lnw : nw.length = L
  gB : B ≤ g
  ne : gs ≠ gn
  gN : g < N
  sN : gs < N
  nN : gn < N
  wN : ∀ k, rw.ownBlock = some k → k < N
  NN : N ≤ w.heap.size
  fit : ∀ p ∈ ws, p.2.length = 64 ∧ 64 * p.1 + 64 ≤ L
  lo : 2048 ≤ L
  hi : L ≤ 131072
  pg : L % 256 = 0

theorem grown_setC {w w' : World} {g : Nat} (h : w.grownBy w' (some g)) (i : Nat) (v : Value) : w.grownBy (w'.setCell ⟨g, i, none⟩ v) (some g) :=
  ⟨h.os, h.tape, h.output, by simpa using h.size, fun k hk hne => (Below.heap_setCell w' ⟨g, i, none⟩ v k (fun e => hne (by rw [e]))).trans (h.block k hk hne)⟩
theorem blk_cell {w1 : World} {g : Nat} {cs : Array Value} {t : TypeId} (h : w1.heap[g]? = some (.cells cs t (0, 0))) (i : Nat) (v : Value) (hv : cs[i]? = some v) : w1.cell? ⟨g, i, none⟩ = some v := (cell_of_row w1 g i cs t _ h).trans hv

section
variable {w w' : World} {B N g gs gn L cs cn : Nat} {rw : Value} {st nw : List UInt8} {ws : List (Nat × List UInt8)} {on : Bool} {left : Int}

/-- What leaves the disk's blocks alone leaves the disk. -/
theorem Dk.keep (h : Dk w B N g gs gn rw L cs cn st nw ws on left) (hs : w.heap.size ≤ w'.heap.size) (hk : ∀ k, B ≤ k → k < N → w'.heap[k]? = w.heap[k]?) : Dk w' B N g gs gn rw L cs cn st nw ws on left :=
  { h with
    head := (hk g h.gB h.gN).trans h.head
    stay := h.stay.keep (hk gs h.stay.parts.1 h.sN)
    now := h.now.keep (hk gn h.now.parts.1 h.nN)
    wait := by
      rcases h.wait.2 with ⟨h0, h1⟩ | ⟨g', cap', cur, hv, hb, hh, hr⟩
      · exact ⟨h.wait.1, .inl ⟨h0, h1⟩⟩
      · exact ⟨h.wait.1, .inr ⟨g', cap', cur, hv, hb, (hk g' hb (h.wN g' (by rw [hv]; rfl))).trans hh, hr⟩⟩
    NN := Nat.le_trans h.NN hs }
theorem Dk.below (h : Dk w B N g gs gn rw L cs cn st nw ws on left) (hb : Below w.heap.size w w') : Dk w' B N g gs gn rw L cs cn st nw ws on left :=
  h.keep hb.size fun k _ hk => hb.block k (Nat.lt_of_lt_of_le hk h.NN)

theorem refused_on (h : Dk w B N g gs gn rw L cs cn st nw ws true left) :
    Calls Try.prog 124 #[.pointer (some ⟨g, 0, none⟩)] w fun e w' => e = .returned (.int .i64 0) ∧ w = w' := by
  have c3 := blk_cell h.head 3 _ rfl
  go_enter Try.func124, Try.ntmps124
  go_wp2_with fail
  go_ret
  exact ⟨rfl, rfl⟩
theorem has_yes (h : Dk w B N g gs gn rw L cs cn st nw ws on left) (z : Int) (i : Nat) (hz : z = (i : Int)) (hi : 64 * i + 64 ≤ L) :
    Calls Try.prog 125 #[.pointer (some ⟨g, 0, none⟩), .int .i64 z] w fun e w' => e = .returned (.bool true) ∧ w = w' := by
  subst hz
  have c0 := blk_cell h.head 0 _ rfl
  have hl := h.hi
  have hd : decide ((i : Int) < (L : Int) / 64) = true := by simp; omega
  go_enter Try.func125, Try.ntmps125
  go_wp2_with fail
  all_goals go_ret
  all_goals exact ⟨rfl, rfl⟩
theorem on_any (h : Dk w B N g gs gn rw L cs cn st nw ws on left) :
    Calls Try.prog 112 #[.pointer (some ⟨g, 0, none⟩)] w fun e w' => e = .returned (.bool on) ∧ w = w' := by
  have c3 := blk_cell h.head 3 _ rfl
  go_enter Try.func112, Try.ntmps112
  go_wp2_with fail
  go_ret
  exact ⟨rfl, rfl⟩

theorem pages_any (h : Dk w B N g gs gn rw L cs cn st nw ws on left) :
    Calls Try.prog 88 #[.pointer (some ⟨g, 0, none⟩)] w fun e w' => e = .returned (.int .i64 ((L / 256 : Nat) : Int)) ∧ w = w' := by
  have c0 := blk_cell h.head 0 _ rfl
  have hl := h.hi
  go_enter Try.func88, Try.ntmps88
  go_wp2_with fail
  go_ret
  exact ⟨rfl, rfl⟩

theorem sector_any (b c i : Nat) (hi : 64 * i + 64 ≤ L) (hL : L ≤ 131072) (hc : L ≤ c) (hcm : c ≤ maxLen) (z : Int) (hz : z = (i : Int)) :
    Calls Try.prog 127 #[.slice (some ⟨b, 0, none⟩) L c, .int .i64 z] w fun e w' => e = .returned (.slice (some ⟨b, 64 * i, none⟩) 64 (c - 64 * i)) ∧ w = w' := by
  subst hz
  unfold maxLen at hcm
  have hne : ¬ c = 64 * i := by omega
  go_enter Try.func127, Try.ntmps127
  go_wp2_with fail
  go_ret
  refine ⟨congrArg Ending.returned (?_ : Value.slice (some ⟨b, i * 64, none⟩) ((i + 1) * 64 - i * 64) (c - i * 64) = _), rfl⟩
  rw [show (i + 1) * 64 - i * 64 = 64 by omega, Nat.mul_comm i 64]
end
end Go.Proofs.Ytgkddhncfaeidaa

namespace Go.Proofs.Ytgkddhncfaeidaa
open Go.RowKit
set_option linter.unusedVariables false

theorem OwnS.ownB {w : World} {base n c : Nat} {A : Option Addr} {E : TypeId} {xs : List UInt8} (h : OwnS w base (.slice A n c) E xs) (hp : 0 < n) : ∃ g, A = some ⟨g, 0, none⟩ ∧ OwnB w base g c E xs ∧ xs.length = n := by
  have hc := h.caps
  rcases h.cases with ⟨h1, h2⟩ | ⟨g, cap, hv, hob⟩
  · subst h2
    have := hc.1
    simp at this
    omega
  · injection hv with hv1 hv2 hv3
    subst hv1 hv3
    exact ⟨g, rfl, hob, hc.1⟩

theorem load_bad (A : Option Addr) (n c : Nat) (w : World) (h : n % 256 ≠ 0 ∨ n < 2048 ∨ 131327 < n) (hn : n ≤ 1000000) :
    Calls Try.prog 72 #[.slice A n c] w fun e w' => e = .returned (.tuple #[.pointer none, .int .i64 1]) ∧ w = w' := by
  by_cases h1 : n % 256 = 0
  · by_cases h2 : n < 2048
    · go_enter Try.func72, Try.ntmps72
      go_wp2_with fail
      all_goals go_ret2
      all_goals exact ⟨rfl, rfl⟩
    · go_enter Try.func72, Try.ntmps72
      go_wp2_with fail
      all_goals go_ret2
      all_goals exact ⟨rfl, rfl⟩
  · go_enter Try.func72, Try.ntmps72
    go_wp2_with fail
    all_goals go_ret2
    all_goals exact ⟨rfl, rfl⟩

set_option maxRecDepth 100000 in
theorem load_ok (A : Option Addr) (n c : Nat) (xs : List UInt8) (w : World) (hx : BytesAt w A xs) (hl : xs.length = n) (hn : n % 256 = 0) (h1 : 2048 ≤ n) (h2 : n ≤ 131072) (hA : A = none → n = 0 ∧ c = 0) :
    Calls Try.prog 72 #[.slice A n c] w fun e w' => ∃ g gs gn cs cn, e = .returned (.tuple #[.pointer (some ⟨g, 0, none⟩), .int .i64 0]) ∧ Dk w' w.heap.size w'.heap.size g gs gn (.slice none 0 0) n cs cn xs xs [] true (-1) ∧ Below w.heap.size w w' := by
  have HX := Lib.hid hx
  have HL := Lib.hid hl
  have HA := Lib.hid hA
  clear hx hl hA
  go_enter Try.func72, Try.ntmps72
  go_wp2_with (first
    | (go_at_call 86; refine (clone_any A n c xs w HL.out HX.out (by omega) HA.out).mono ?_; rintro e w1 ⟨A1, c1, rfl, ho1, hb1⟩; obtain ⟨gs, rfl, hob1, _⟩ := ho1.ownB (by omega))
    | (go_at_call 86; refine (clone_any A n c xs w1 HL.out (HX.out.below hb1) (by omega) HA.out).mono ?_; rintro e w2 ⟨A2, c2, rfl, ho2, hb2⟩; obtain ⟨gn, rfl, hob2, _⟩ := ho2.ownB (by omega)))
  go_ret2
  have hs1 := hb1.size
  have hs2 := hb2.size
  have p1 := hob1.lt
  have p2 := hob2.lt
  have q2 := hob2.parts.1
  refine ⟨w2.heap.size, gs, gn, c1, c2, rfl, ?_, (hb1.trans (hb2.mono hs1)).alloc (by omega) _⟩
  exact {
    head := heap_alloc_new _ _
    stay := (hob1.below hb2 p1).alloc _
    now := by
      have := hob2.alloc (.cells #[.slice (some ⟨gs, 0, none⟩) n c1, .slice (some ⟨gn, 0, none⟩) n c2, .slice none 0 0, .bool true, .int .i64 (-1)] 159)
      exact OwnS.mono this hs1
    wait := World.ownsRow_nil _ _ _ _
    lst := HL.out
    lnw := HL.out
    gB := by omega
    ne := by omega
    gN := by simp
    sN := by simp; omega
    nN := by simp; omega
    wN := fun k hk => by cases hk
    NN := Nat.le_refl _
    fit := fun p hp => by cases hp
    lo := h1
    hi := h2
    pg := hn }
end Go.Proofs.Ytgkddhncfaeidaa

namespace Go.Proofs.Ytgkddhncfaeidaa
open Go.RowKit
set_option linter.unusedVariables false
section
variable {w w' : World} {B N g gs gn L cs cn : Nat} {rw : Value} {st nw : List UInt8} {ws : List (Nat × List UInt8)} {on : Bool} {left : Int}

theorem BytesAt.mid {b : Nat} {xs : List UInt8} (h : BytesAt w (some ⟨b, 0, none⟩) xs) (o n : Nat) : BytesAt w (some ⟨b, o, none⟩) ((xs.drop o).take n) :=
  (h.cut o (some ⟨b, o, none⟩) (fun _ => by rw [Option.map_some]; congr 1; unfold Addr.add; split <;> simp_all)).take n

set_option maxRecDepth 100000 in
theorem read_ok (h : Dk w B N g gs gn rw L cs cn st nw ws true left) (z : Int) (i : Nat) (hz : z = (i : Int)) (hi : 64 * i + 64 ≤ L) :
    Calls Try.prog 120 #[.pointer (some ⟨g, 0, none⟩), .int .i64 z] w fun e w' => ∃ A c, e = .returned (.tuple #[.slice A 64 c, .int .i64 0]) ∧ OwnS w' w.heap.size (.slice A 64 c) 5 ((nw.drop (64 * i)).take 64) ∧ Below w.heap.size w w' := by
  subst hz
  have c1 := blk_cell h.head 1 _ rfl
  have hl := h.hi
  obtain ⟨_, hcn, hcm, _⟩ := h.now.parts
  rw [h.lnw] at hcn
  have H := Lib.hid h
  have hby := Lib.hid (BytesAt.mid h.now.bytes (64 * i) 64)
  have hln : Hid (((nw.drop (64 * i)).take 64).length = 64) := Lib.hid (by simp [h.lnw]; omega)
  clear h
  go_enter Try.func120, Try.ntmps120
  go_wp2_with (first
    | (go_at_call 124; refine (refused_on H.out).mono ?_; rintro e w1 ⟨rfl, rfl⟩)
    | (go_at_call 125; refine (has_yes H.out _ i rfl hi).mono ?_; rintro e w1 ⟨rfl, rfl⟩)
    | (go_at_call 127; refine (sector_any gn cn i hi hl hcn hcm _ rfl).mono ?_; rintro e w1 ⟨rfl, rfl⟩)
    | (go_at_call 86; refine (clone_any _ 64 _ _ _ hln.out hby.out (by omega) (fun h => by cases h)).mono ?_; rintro e w1 ⟨A1, c1, rfl, ho1, hb1⟩))
  go_ret2
  exact ⟨A1, c1, rfl, ho1, hb1⟩
end
end Go.Proofs.Ytgkddhncfaeidaa

namespace Go.Proofs.Ytgkddhncfaeidaa
open Go.RowKit
set_option linter.unusedVariables false
section
variable {w w' : World} {B N g gs gn L cs cn : Nat} {rw : Value} {st nw : List UInt8} {ws : List (Nat × List UInt8)} {on : Bool} {left : Int}

theorem Dk.with (h : Dk w B N g gs gn rw L cs cn st nw ws on left) (on' : Bool) (left' : Int) (hs : w.heap.size = w'.heap.size) (hk : ∀ k, k ≠ g → w'.heap[k]? = w.heap[k]?)
    (hg : w'.heap[g]? = some (.cells #[.slice (some ⟨gs, 0, none⟩) L cs, .slice (some ⟨gn, 0, none⟩) L cn, rw, .bool on', .int .i64 left'] 159 (0, 0))) :
    Dk w' B N g gs gn rw L cs cn st nw ws on' left' := by
  have hgs : gs ≠ g := by
    intro e
    obtain ⟨_, _, _, cur, hh, _⟩ := h.stay.parts
    rw [e, h.head] at hh
    simp at hh
  have hgn : gn ≠ g := by
    intro e
    obtain ⟨_, _, _, cur, hh, _⟩ := h.now.parts
    rw [e, h.head] at hh
    simp at hh
  exact { h with
    head := hg
    stay := h.stay.keep (hk gs hgs)
    now := h.now.keep (hk gn hgn)
    wait := by
      rcases h.wait.2 with ⟨h0, h1⟩ | ⟨g', cap', cur, hv, hb, hh, hr⟩
      · exact ⟨h.wait.1, .inl ⟨h0, h1⟩⟩
      · refine ⟨h.wait.1, .inr ⟨g', cap', cur, hv, hb, (hk g' ?_).trans hh, hr⟩⟩
        intro e
        rw [e, h.head] at hh
        simp at hh
    NN := by rw [← hs]; exact h.NN }

/-- Behind a step that may be done. -/
def stepped (left : Int) : Int := if 0 < left then left - 1 else left

theorem step_yes (h : Dk w B N g gs gn rw L cs cn st nw ws true left) (hne : left ≠ 0) (hl : -1 ≤ left) (hm : left ≤ 9223372036854775807) (l' : Int) (hl' : stepped left = l') :
    Calls Try.prog 126 #[.pointer (some ⟨g, 0, none⟩)] w fun e w' => e = .returned (.bool true) ∧ Dk w' B N g gs gn rw L cs cn st nw ws true l' ∧ w.grownBy w' (some g) ∧ w'.heap.size = w.heap.size := by
  have c4 := blk_cell h.head 4 _ rfl
  have f4 : w.frozen? ⟨g, 4, none⟩ = false := by simp [World.frozen?, h.head]
  have hz : (left == 0) = false := by simp [hne]
  unfold stepped at hl'
  by_cases hp : 0 < left
  · rw [if_pos hp] at hl'
    subst hl'
    go_enter Try.func126, Try.ntmps126
    go_wp2_with fail
    go_ret
    exact ⟨rfl, h.with true (left - 1) (by simp) (fun k hk => Below.heap_setCell w ⟨g, 4, none⟩ _ k hk) ((heap_setCell_same w g 4 _ _ _ h.head).trans rfl), grown_setC (World.grownBy.refl w _) 4 _, by simp⟩
  · rw [if_neg hp] at hl'
    subst hl'
    go_enter Try.func126, Try.ntmps126
    go_wp2_with fail
    go_ret
    exact ⟨rfl, h, World.grownBy.refl w _, rfl⟩
end
end Go.Proofs.Ytgkddhncfaeidaa

namespace Go.Proofs.Ytgkddhncfaeidaa
open Go.RowKit

/-- An operation that yields a value, or panics: no call of a Go function, no store. -/
def softB4 (o : Oper) : Bool := match o.op with
  | .move _ | .assign _ | .pick _ _ _ | .load _ _ | .binOp _ _ _ _ _ | .unOp _ _ _ | .convert _ _ _ | .slice _ _ _ _ _ | .fieldAddr _ _ _ | .field _ _ _ | .indexAddr _ _ _ | .index _ _ _ | .extract _ _ | .build _ _ | .nilCheck _ => true
  | .call c => match c.callee with
    | .builtin .len | .builtin .cap | .builtin .min | .builtin .max => true
    | _ => false
  | _ => false

theorem soft_value4 {P : Program} {o : Oper} (hs : softB4 o = true) {ρ : Operand → Value} {w w' : World} {n : Next} (h : (execOp ρ o).run P w = .ok n w') : ∃ u, n = .value u := by
  obtain ⟨dst, op, type, pos, after, guard⟩ := o
  cases op <;> simp only [softB4, Bool.false_eq_true] at hs <;> simp only [execOp, Sem.run_bind, Sem.run_pure] at h
  case move => exact ⟨_, by injection h with h1; exact h1.symm⟩
  case assign => exact ⟨_, by injection h with h1; exact h1.symm⟩
  case call c =>
    obtain ⟨callee, args, argTypes⟩ := c
    cases callee with
    | builtin b =>
      cases b <;> simp only [Bool.false_eq_true] at hs <;> simp only [resolve, invoke, builtin, Sem.run_bind, Sem.run_pure, Result.andThen_ok] at h <;> exact andThen_value h
    | _ => simp only [Bool.false_eq_true] at hs
  case pick c a b =>
    generalize (asBool _).run P w = m at h
    cases m with
    | ok v w2 => simp [Result.andThen] at h; exact ⟨_, h.1.symm⟩
    | halt x w2 => simp [Result.andThen] at h
  case nilCheck x =>
    split at h
    · simp [runtimePanic] at h
    · simp [runtimePanic] at h
    · simp [runtimePanic] at h
    · split at h
      · simp [runtimePanic] at h
      · simp only [Sem.run_bind] at h
        generalize Sem.run P program w = m1 at h
        cases m1 with
        | halt x w1 => simp [Result.andThen] at h
        | ok a1 w1 =>
          simp only [Result.andThen_ok] at h
          generalize Sem.run P (nilAhead _ _ _ _) w1 = m2 at h
          cases m2 with
          | halt x w2 => simp [Result.andThen] at h
          | ok a2 w2 =>
            simp only [Result.andThen_ok] at h
            split at h
            · simp [unsupported] at h
            · exact ⟨_, by injection h with h1; exact h1.symm⟩
      · exact ⟨_, by injection h with h1; exact h1.symm⟩
    · exact ⟨_, by injection h with h1; exact h1.symm⟩
  all_goals exact andThen_value h

section
variable {P : Program} {ops : Array Oper} {md : Region.Mode} {S : World → Prop}

/-- Soft ones, one behind the other: what is listed behind them. -/
def softs4 (md : Region.Mode) (ops : Array Oper) : List Nat → Array Bool → Option (Array Bool)
  | [], listed => some listed
  | i :: r, listed => if (decide (i < ops.size) && softB4 (opAt ops i) && Region.free md ops listed i && (Region.ready md ops listed).contains i) = true then softs4 md ops r (listed.setIfInBounds i true) else none

theorem softs_take4 {Q : Exit → Act → World → Prop} {K : Act → Prop} (hsel : Region.noSelect ops = true) {fuel : Nat} {l' : Array Bool} {w : World} (hS : S w) (hK : ∀ a, K a → wpAnyH P md ops (NoPanic Q) S fuel l' a w) :
    ∀ (qs : List Nat) (listed : Array Bool) (a : Act), softs4 md ops qs listed = some l' → wpQuiet P ops S K (qs.map (opAt ops)) a → wpAnyH P md ops (NoPanic Q) S (qs.length + fuel) listed a w
  | [], listed, a, h, hq => by
    simp only [softs4, Option.some.injEq] at h
    subst h
    rw [List.length_nil, Nat.zero_add]
    exact hK a hq
  | i :: r, listed, a, h, hq => by
    simp only [softs4] at h
    split at h
    · rename_i hc
      simp only [Bool.and_eq_true, decide_eq_true_eq] at hc
      obtain ⟨⟨⟨h1, h2⟩, h3⟩, h4⟩ := hc
      have ho := opAt_some h1
      rw [List.length_cons, show r.length + 1 + fuel = (r.length + fuel) + 1 by omega]
      simp only [List.map_cons, wpQuiet] at hq
      split at hq
      · rename_i hw
        obtain ⟨v, hv, hn⟩ := hq
        refine wpAnyH_take ho hsel h3 h4 (fun _ _ _ h => h) (v := v) (.inl ⟨hw, fun w2 hw2 => ?_⟩) hS (softs_take4 hsel hS hK r _ _ h hn)
        have hv2 := hv w2 hw2
        unfold Oper.quietAt at hv2
        generalize hr : (execOp a.eval (opAt ops i)).run P w2 = x at hv2
        cases x with
        | ok n w3 =>
          obtain ⟨u, rfl⟩ := soft_value4 h2 hr
          obtain ⟨rfl, rfl⟩ := hv2
          rfl
        | halt x w3 => exact hv2.elim
      · rename_i hw
        exact wpAnyH_take ho hsel h3 h4 (fun _ _ _ h => h) (v := undef) (.inr ⟨by simpa using hw, rfl⟩) hS (softs_take4 hsel hS hK r _ _ h hq)
    · cases h

/-- The ways through a region: soft ones, then one that touches memory, or one of two. -/
inductive Ways4 where
  | done (last : List Nat)
  | one (qs : List Nat) (h : Nat) (t : Ways4)
  | two (qs : List Nat) (h1 : Nat) (t1 : Ways4) (h2 : Nat) (t2 : Ways4)
  | three (qs : List Nat) (h1 : Nat) (t1 : Ways4) (h2 : Nat) (t2 : Ways4) (h3 : Nat) (t3 : Ways4)

section
variable {P : Program} {ops : Array Oper} {md : Region.Mode} {S : World → Prop}

def waysB4 (md : Region.Mode) (ops : Array Oper) : Ways4 → Array Bool → Bool
  | .done last, listed => match softs4 md ops last listed with
    | some l' => (Region.ready md ops l').isEmpty
    | none => false
  | .one qs h t, listed => match softs4 md ops qs listed with
    | some l' => decide (Region.ready md ops l' = [h]) && waysB4 md ops t (l'.setIfInBounds h true)
    | none => false
  | .two qs h1 t1 h2 t2, listed => match softs4 md ops qs listed with
    | some l' => decide (Region.ready md ops l' = [h1, h2]) && waysB4 md ops t1 (l'.setIfInBounds h1 true) && waysB4 md ops t2 (l'.setIfInBounds h2 true)
    | none => false
  | .three qs h1 t1 h2 t2 h3 t3, listed => match softs4 md ops qs listed with
    | some l' => decide (Region.ready md ops l' = [h1, h2, h3]) && waysB4 md ops t1 (l'.setIfInBounds h1 true) && waysB4 md ops t2 (l'.setIfInBounds h2 true) && waysB4 md ops t3 (l'.setIfInBounds h3 true)
    | none => false

/-- Each way has n operations. -/
def waysN4 : Ways4 → Nat → Bool
  | .done last, n => decide (last.length = n)
  | .one qs _ t, n => decide (qs.length + 1 ≤ n) && waysN4 t (n - qs.length - 1)
  | .two qs _ t1 _ t2, n => decide (qs.length + 1 ≤ n) && waysN4 t1 (n - qs.length - 1) && waysN4 t2 (n - qs.length - 1)
  | .three qs _ t1 _ t2 _ t3, n => decide (qs.length + 1 ≤ n) && waysN4 t1 (n - qs.length - 1) && waysN4 t2 (n - qs.length - 1) && waysN4 t3 (n - qs.length - 1)

def wpWays4 (P : Program) (ops : Array Oper) (Q : Exit → Act → World → Prop) (S : World → Prop) : Ways4 → Act → World → Prop
  | .done last, a, w => wpQuiet P ops S (fun a' => Q .normal a' w) (last.map (opAt ops)) a
  | .one qs h t, a, w => wpQuiet P ops S (fun a' => wpList P ops (Exit.then (fun a2 w2 => S w2 ∧ wpWays4 P ops Q S t a2 w2) (NoPanic Q)) [opAt ops h] a' w) (qs.map (opAt ops)) a
  | .two qs h1 t1 h2 t2, a, w => wpQuiet P ops S (fun a' => wpList P ops (Exit.then (fun a2 w2 => S w2 ∧ wpWays4 P ops Q S t1 a2 w2) (NoPanic Q)) [opAt ops h1] a' w ∧
      wpList P ops (Exit.then (fun a2 w2 => S w2 ∧ wpWays4 P ops Q S t2 a2 w2) (NoPanic Q)) [opAt ops h2] a' w) (qs.map (opAt ops)) a
  | .three qs h1 t1 h2 t2 h3 t3, a, w => wpQuiet P ops S (fun a' => wpList P ops (Exit.then (fun a2 w2 => S w2 ∧ wpWays4 P ops Q S t1 a2 w2) (NoPanic Q)) [opAt ops h1] a' w ∧
      wpList P ops (Exit.then (fun a2 w2 => S w2 ∧ wpWays4 P ops Q S t2 a2 w2) (NoPanic Q)) [opAt ops h2] a' w ∧
      wpList P ops (Exit.then (fun a2 w2 => S w2 ∧ wpWays4 P ops Q S t3 a2 w2) (NoPanic Q)) [opAt ops h3] a' w) (qs.map (opAt ops)) a

theorem wpWays_done4 {Q : Exit → Act → World → Prop} {last : List Nat} {a : Act} {w : World} : wpWays4 P ops Q S (.done last) a w = wpQuiet P ops S (fun a' => Q .normal a' w) (last.map (opAt ops)) a := rfl
theorem wpWays_one4 {Q : Exit → Act → World → Prop} {qs : List Nat} {h : Nat} {t : Ways4} {a : Act} {w : World} :
    wpWays4 P ops Q S (.one qs h t) a w = wpQuiet P ops S (fun a' => wpList P ops (Exit.then (fun a2 w2 => S w2 ∧ wpWays4 P ops Q S t a2 w2) (NoPanic Q)) [opAt ops h] a' w) (qs.map (opAt ops)) a := rfl
theorem wpWays_two4 {Q : Exit → Act → World → Prop} {qs : List Nat} {h1 h2 : Nat} {t1 t2 : Ways4} {a : Act} {w : World} :
    wpWays4 P ops Q S (.two qs h1 t1 h2 t2) a w = wpQuiet P ops S (fun a' => wpList P ops (Exit.then (fun a2 w2 => S w2 ∧ wpWays4 P ops Q S t1 a2 w2) (NoPanic Q)) [opAt ops h1] a' w ∧
      wpList P ops (Exit.then (fun a2 w2 => S w2 ∧ wpWays4 P ops Q S t2 a2 w2) (NoPanic Q)) [opAt ops h2] a' w) (qs.map (opAt ops)) a := rfl
theorem wpAnyH_of_ways4 {Q : Exit → Act → World → Prop} (hsel : Region.noSelect ops = true) :
    ∀ (t : Ways4) (n : Nat) (listed : Array Bool) (a : Act) (w : World), S w → waysN4 t n = true → waysB4 md ops t listed = true → wpWays4 P ops Q S t a w → wpAnyH P md ops (NoPanic Q) S n listed a w
  | .done last, n, listed, a, w, hS, hN, hB, h => by
    simp only [waysB4] at hB
    simp only [waysN4, decide_eq_true_eq] at hN
    subst hN
    split at hB
    · rename_i l' hl
      have hr : Region.ready md ops l' = [] := by simpa using hB
      have := softs_take4 (P := P) (Q := Q) (K := fun a' => Q .normal a' w) (fuel := 0) hsel hS (fun a' ha => wpAnyH_done hr (NoPanic.normal ha) 0) last listed a hl h
      simpa using this
    · cases hB
  | .one qs i t, n, listed, a, w, hS, hN, hB, h => by
    simp only [waysB4] at hB
    simp only [waysN4, Bool.and_eq_true, decide_eq_true_eq] at hN
    split at hB
    · rename_i l' hl
      simp only [Bool.and_eq_true, decide_eq_true_eq] at hB
      obtain ⟨hr, hB2⟩ := hB
      have e : n = qs.length + ((n - qs.length - 1) + 1) := by omega
      rw [e]
      refine softs_take4 (fuel := (n - qs.length - 1) + 1) hsel hS (fun a' ha => ?_) qs listed a hl h
      refine wpAnyH_all hr (by simp) fun j hj => ?_
      obtain rfl : j = i := by simpa using hj
      exact wpOp_of_one (ready_lt (md := md) (l := l') (by rw [hr]; simp)) (fun a2 w2 h2 => ⟨h2.1, wpAnyH_of_ways4 hsel t _ _ a2 w2 h2.1 hN.2 hB2 h2.2⟩) ha
    · cases hB
  | .two qs i t1 k t2, n, listed, a, w, hS, hN, hB, h => by
    simp only [waysB4] at hB
    simp only [waysN4, Bool.and_eq_true, decide_eq_true_eq] at hN
    split at hB
    · rename_i l' hl
      simp only [Bool.and_eq_true, decide_eq_true_eq] at hB
      obtain ⟨⟨hr, hB1⟩, hB2⟩ := hB
      have e : n = qs.length + ((n - qs.length - 1) + 1) := by omega
      rw [e]
      refine softs_take4 (fuel := (n - qs.length - 1) + 1) hsel hS (fun a' ha => ?_) qs listed a hl h
      refine wpAnyH_all hr (by simp) fun j hj => ?_
      have hj2 : j = i ∨ j = k := by simpa using hj
      have hlt : j < ops.size := ready_lt (md := md) (l := l') (by rw [hr]; exact hj)
      rcases hj2 with rfl | rfl
      · exact wpOp_of_one hlt (fun a2 w2 h2 => ⟨h2.1, wpAnyH_of_ways4 hsel t1 _ _ a2 w2 h2.1 hN.1.2 hB1 h2.2⟩) ha.1
      · exact wpOp_of_one hlt (fun a2 w2 h2 => ⟨h2.1, wpAnyH_of_ways4 hsel t2 _ _ a2 w2 h2.1 hN.2 hB2 h2.2⟩) ha.2
    · cases hB
  | .three qs i t1 k t2 m t3, n, listed, a, w, hS, hN, hB, h => by
    simp only [waysB4] at hB
    simp only [waysN4, Bool.and_eq_true, decide_eq_true_eq] at hN
    split at hB
    · rename_i l' hl
      simp only [Bool.and_eq_true, decide_eq_true_eq] at hB
      obtain ⟨⟨⟨hr, hB1⟩, hB2⟩, hB3⟩ := hB
      have e : n = qs.length + ((n - qs.length - 1) + 1) := by omega
      rw [e]
      refine softs_take4 (fuel := (n - qs.length - 1) + 1) hsel hS (fun a' ha => ?_) qs listed a hl h
      refine wpAnyH_all hr (by simp) fun j hj => ?_
      have hj2 : j = i ∨ j = k ∨ j = m := by simpa using hj
      have hlt : j < ops.size := ready_lt (md := md) (l := l') (by rw [hr]; exact hj)
      rcases hj2 with rfl | rfl | rfl
      · exact wpOp_of_one hlt (fun a2 w2 h2 => ⟨h2.1, wpAnyH_of_ways4 hsel t1 _ _ a2 w2 h2.1 hN.1.1.2 hB1 h2.2⟩) ha.1
      · exact wpOp_of_one hlt (fun a2 w2 h2 => ⟨h2.1, wpAnyH_of_ways4 hsel t2 _ _ a2 w2 h2.1 hN.1.2 hB2 h2.2⟩) ha.2.1
      · exact wpOp_of_one hlt (fun a2 w2 h2 => ⟨h2.1, wpAnyH_of_ways4 hsel t3 _ _ a2 w2 h2.1 hN.2 hB3 h2.2⟩) ha.2.2
    · cases hB

def waysOK4 (ops : Array Oper) (t : Ways4) : Bool := Region.noSelect ops && waysN4 t ops.size && waysB4 .any ops t (Array.replicate ops.size false)

/-- A region that draws its order, over the worlds that are as the one at hand below B. -/
theorem region_ways4 {id : Nat} {Q : Exit → Act → World → Prop} {a : Act} {w : World} (B : Nat) (hBw : B ≤ w.heap.size) (t : Ways4) (hm : P.follows .mixedOrders = true) (hB : waysOK4 ops t = true)
    (h : ∀ w', Below w.heap.size w w' → wpWays4 P ops Q (fun w' => ∃ x : SubW B w, w' = x.at_) t a w') : (Code.region id ops true).wp P Q a w := by
  simp only [waysOK4, Bool.and_eq_true] at hB
  obtain ⟨⟨h1, h2⟩, h3⟩ := hB
  have hb := below_drewN (Below.refl w.heap.size w) 1
  refine wp_region_noPanic (wp_region_held (S := fun w' => ∃ x : SubW B w, w' = x.at_) hm ?_)
  exact wpAnyH_of_ways4 h1 t _ _ a _ ⟨⟨_, hb.mono hBw⟩, rfl⟩ h2 h3 (h _ hb)
end
end
end Go.Proofs.Ytgkddhncfaeidaa
