/- Several texts in one: Write of a disk. A region that draws its order, where one of two, or of three, may come next; composite values and checks for nil are soft, too. No program is named here. Write of a disk. -/
import Derived.Test.YtgkddhncfaeidaaPart03
import Derived.Test.YtgkddhncfaeidaaPart01
import Derived.Laws.CopyOwn
import Derived.Great.BuildSlice
import Derived.Deep.DeepCutAuto
set_option linter.unusedSimpArgs false
set_option linter.unusedVariables false
namespace Go.Proofs.Ytgkddhncfaeidaa
open Go.RowKit
set_option linter.unusedVariables false
section
variable {w w' : World} {B N g gs gn L cs cn : Nat} {rw : Value} {st nw : List UInt8} {ws : List (Nat × List UInt8)} {on : Bool} {left : Int}

theorem Dk.with (h : Dk w B N g gs gn rw L cs cn st nw ws on left) (on' : Bool) (left' : Int) (hs : w.heap.size = w'.heap.size) (hk : ∀ k, k ≠ g → w'.heap[k]? = w.heap[k]?)
    (hg : w'.heap[g]? = some (.cells #[.slice (some ⟨gs, 0, none⟩) L cs, .slice (some ⟨gn, 0, none⟩) L cn, rw, .bool on', .int .i64 left'] 159 (0, 0))) :
    Dk w' B N g gs gn rw L cs cn st nw ws on' left' := by
  have hgs : gs ≠ g := by
    intro e
    obtain ⟨_, _, _, cur, hh, _⟩ := h.stay.parts
    rw [e, h.head] at hh
    simp at hh
  have hgn : gn ≠ g := by
    intro e
    obtain ⟨_, _, _, cur, hh, _⟩ := h.now.parts
    rw [e, h.head] at hh
    simp at hh
  exact { h with
    head := hg
    stay := h.stay.keep (hk gs hgs)
    now := h.now.keep (hk gn hgn)
    wait := by
      rcases h.wait.2 with ⟨h0, h1⟩ | ⟨g', cap', cur, hv, hb, hh, hr⟩
      · exact ⟨h.wait.1, .inl ⟨h0, h1⟩⟩
      · refine ⟨h.wait.1, .inr ⟨g', cap', cur, hv, hb, (hk g' ?_).trans hh, hr⟩⟩
        intro e
        rw [e, h.head] at hh
        simp at hh
    NN := by rw [← hs]; exact h.NN }

/-- Behind a step that may be done. -/
def stepped (left : Int) : Int := if 0 < left then left - 1 else left

theorem step_yes (h : Dk w B N g gs gn rw L cs cn st nw ws true left) (hne : left ≠ 0) (hl : -1 ≤ left) (hm : left ≤ 9223372036854775807) (l' : Int) (hl' : stepped left = l') :
    Calls Try.prog 126 #[.pointer (some ⟨g, 0, none⟩)] w fun e w' => e = .returned (.bool true) ∧ Dk w' B N g gs gn rw L cs cn st nw ws true l' ∧ w.grownBy w' (some g) ∧ w'.heap.size = w.heap.size := by
  have c4 := blk_cell h.head 4 _ rfl
  have f4 : w.frozen? ⟨g, 4, none⟩ = false := by simp [World.frozen?, h.head]
  have hz : (left == 0) = false := by simp [hne]
  unfold stepped at hl'
  by_cases hp : 0 < left
  · rw [if_pos hp] at hl'
    subst hl'
    go_enter Try.func126, Try.ntmps126
    go_wp2_with fail
    go_ret
    exact ⟨rfl, h.with true (left - 1) (by simp) (fun k hk => Below.heap_setCell w ⟨g, 4, none⟩ _ k hk) ((heap_setCell_same w g 4 _ _ _ h.head).trans rfl), grown_setC (World.grownBy.refl w _) 4 _, by simp⟩
  · rw [if_neg hp] at hl'
    subst hl'
    go_enter Try.func126, Try.ntmps126
    go_wp2_with fail
    go_ret
    exact ⟨rfl, h, World.grownBy.refl w _, rfl⟩
end
end Go.Proofs.Ytgkddhncfaeidaa

namespace Go.Proofs.Ytgkddhncfaeidaa
open Go.RowKit

/-- An operation that yields a value, or panics: no call of a Go function, no store. -/
def softB4 (o : Oper) : Bool := match o.op with
  | .move _ | .assign _ | .pick _ _ _ | .load _ _ | .binOp _ _ _ _ _ | .unOp _ _ _ | .convert _ _ _ | .slice _ _ _ _ _ | .fieldAddr _ _ _ | .field _ _ _ | .indexAddr _ _ _ | .index _ _ _ | .extract _ _ | .build _ _ | .nilCheck _ => true
  | .call c => match c.callee with
    | .builtin .len | .builtin .cap | .builtin .min | .builtin .max => true
    | _ => false
  | _ => false

theorem soft_value4 {P : Program} {o : Oper} (hs : softB4 o = true) {ρ : Operand → Value} {w w' : World} {n : Next} (h : (execOp ρ o).run P w = .ok n w') : ∃ u, n = .value u := by
  obtain ⟨dst, op, type, pos, after, guard⟩ := o
  cases op <;> simp only [softB4, Bool.false_eq_true] at hs <;> simp only [execOp, Sem.run_bind, Sem.run_pure] at h
  case move => exact ⟨_, by injection h with h1; exact h1.symm⟩
  case assign => exact ⟨_, by injection h with h1; exact h1.symm⟩
  case call c =>
    obtain ⟨callee, args, argTypes⟩ := c
    cases callee with
    | builtin b =>
      cases b <;> simp only [Bool.false_eq_true] at hs <;> simp only [resolve, invoke, builtin, Sem.run_bind, Sem.run_pure, Result.andThen_ok] at h <;> exact andThen_value h
    | _ => simp only [Bool.false_eq_true] at hs
  case pick c a b =>
    generalize (asBool _).run P w = m at h
    cases m with
    | ok v w2 => simp [Result.andThen] at h; exact ⟨_, h.1.symm⟩
    | halt x w2 => simp [Result.andThen] at h
  case nilCheck x =>
    split at h
    · simp [runtimePanic] at h
    · simp [runtimePanic] at h
    · simp [runtimePanic] at h
    · split at h
      · simp [runtimePanic] at h
      · simp only [Sem.run_bind] at h
        generalize Sem.run P program w = m1 at h
        cases m1 with
        | halt x w1 => simp [Result.andThen] at h
        | ok a1 w1 =>
          simp only [Result.andThen_ok] at h
          generalize Sem.run P (nilAhead _ _ _ _) w1 = m2 at h
          cases m2 with
          | halt x w2 => simp [Result.andThen] at h
          | ok a2 w2 =>
            simp only [Result.andThen_ok] at h
            split at h
            · simp [unsupported] at h
            · exact ⟨_, by injection h with h1; exact h1.symm⟩
      · exact ⟨_, by injection h with h1; exact h1.symm⟩
    · exact ⟨_, by injection h with h1; exact h1.symm⟩
  all_goals exact andThen_value h

section
variable {P : Program} {ops : Array Oper} {md : Region.Mode} {S : World → Prop}

/-- Soft ones, one behind the other: what is listed behind them. -/
def softs4 (md : Region.Mode) (ops : Array Oper) : List Nat → Array Bool → Option (Array Bool)
  | [], listed => some listed
  | i :: r, listed => if (decide (i < ops.size) && softB4 (opAt ops i) && Region.free md ops listed i && (Region.ready md ops listed).contains i) = true then softs4 md ops r (listed.setIfInBounds i true) else none

theorem softs_take4 {Q : Exit → Act → World → Prop} {K : Act → Prop} (hsel : Region.noSelect ops = true) {fuel : Nat} {l' : Array Bool} {w : World} (hS : S w) (hK : ∀ a, K a → wpAnyH P md ops (NoPanic Q) S fuel l' a w) :
    ∀ (qs : List Nat) (listed : Array Bool) (a : Act), softs4 md ops qs listed = some l' → wpQuiet P ops S K (qs.map (opAt ops)) a → wpAnyH P md ops (NoPanic Q) S (qs.length + fuel) listed a w
  | [], listed, a, h, hq => by
    simp only [softs4, Option.some.injEq] at h
    subst h
    rw [List.length_nil, Nat.zero_add]
    exact hK a hq
  | i :: r, listed, a, h, hq => by
    simp only [softs4] at h
    split at h
    · rename_i hc
      simp only [Bool.and_eq_true, decide_eq_true_eq] at hc
      obtain ⟨⟨⟨h1, h2⟩, h3⟩, h4⟩ := hc
      have ho := opAt_some h1
      rw [List.length_cons, show r.length + 1 + fuel = (r.length + fuel) + 1 by omega]
      simp only [List.map_cons, wpQuiet] at hq
      split at hq
      · rename_i hw
        obtain ⟨v, hv, hn⟩ := hq
        refine wpAnyH_take ho hsel h3 h4 (fun _ _ _ h => h) (v := v) (.inl ⟨hw, fun w2 hw2 => ?_⟩) hS (softs_take4 hsel hS hK r _ _ h hn)
        have hv2 := hv w2 hw2
        unfold Oper.quietAt at hv2
        generalize hr : (execOp a.eval (opAt ops i)).run P w2 = x at hv2
        cases x with
        | ok n w3 =>
          obtain ⟨u, rfl⟩ := soft_value4 h2 hr
          obtain ⟨rfl, rfl⟩ := hv2
          rfl
        | halt x w3 => exact hv2.elim
      · rename_i hw
        exact wpAnyH_take ho hsel h3 h4 (fun _ _ _ h => h) (v := undef) (.inr ⟨by simpa using hw, rfl⟩) hS (softs_take4 hsel hS hK r _ _ h hq)
    · cases h

/-- The ways through a region: soft ones, then one that touches memory, or one of two. -/
inductive Ways4 where
  | done (last : List Nat)
  | one (qs : List Nat) (h : Nat) (t : Ways4)
  | two (qs : List Nat) (h1 : Nat) (t1 : Ways4) (h2 : Nat) (t2 : Ways4)
  | three (qs : List Nat) (h1 : Nat) (t1 : Ways4) (h2 : Nat) (t2 : Ways4) (h3 : Nat) (t3 : Ways4)

section
variable {P : Program} {ops : Array Oper} {md : Region.Mode} {S : World → Prop}

def waysB4 (md : Region.Mode) (ops : Array Oper) : Ways4 → Array Bool → Bool
  | .done last, listed => match softs4 md ops last listed with
    | some l' => (Region.ready md ops l').isEmpty
    | none => false
  | .one qs h t, listed => match softs4 md ops qs listed with
    | some l' => decide (Region.ready md ops l' = [h]) && waysB4 md ops t (l'.setIfInBounds h true)
    | none => false
  | .two qs h1 t1 h2 t2, listed => match softs4 md ops qs listed with
    | some l' => decide (Region.ready md ops l' = [h1, h2]) && waysB4 md ops t1 (l'.setIfInBounds h1 true) && waysB4 md ops t2 (l'.setIfInBounds h2 true)
    | none => false
  | .three qs h1 t1 h2 t2 h3 t3, listed => match softs4 md ops qs listed with
    | some l' => decide (Region.ready md ops l' = [h1, h2, h3]) && waysB4 md ops t1 (l'.setIfInBounds h1 true) && waysB4 md ops t2 (l'.setIfInBounds h2 true) && waysB4 md ops t3 (l'.setIfInBounds h3 true)
    | none => false

/-- Each way has n operations. -/
def waysN4 : Ways4 → Nat → Bool
  | .done last, n => decide (last.length = n)
  | .one qs _ t, n => decide (qs.length + 1 ≤ n) && waysN4 t (n - qs.length - 1)
  | .two qs _ t1 _ t2, n => decide (qs.length + 1 ≤ n) && waysN4 t1 (n - qs.length - 1) && waysN4 t2 (n - qs.length - 1)
  | .three qs _ t1 _ t2 _ t3, n => decide (qs.length + 1 ≤ n) && waysN4 t1 (n - qs.length - 1) && waysN4 t2 (n - qs.length - 1) && waysN4 t3 (n - qs.length - 1)

def wpWays4 (P : Program) (ops : Array Oper) (Q : Exit → Act → World → Prop) (S : World → Prop) : Ways4 → Act → World → Prop
  | .done last, a, w => wpQuiet P ops S (fun a' => Q .normal a' w) (last.map (opAt ops)) a
  | .one qs h t, a, w => wpQuiet P ops S (fun a' => wpList P ops (Exit.then (fun a2 w2 => S w2 ∧ wpWays4 P ops Q S t a2 w2) (NoPanic Q)) [opAt ops h] a' w) (qs.map (opAt ops)) a
  | .two qs h1 t1 h2 t2, a, w => wpQuiet P ops S (fun a' => wpList P ops (Exit.then (fun a2 w2 => S w2 ∧ wpWays4 P ops Q S t1 a2 w2) (NoPanic Q)) [opAt ops h1] a' w ∧
      wpList P ops (Exit.then (fun a2 w2 => S w2 ∧ wpWays4 P ops Q S t2 a2 w2) (NoPanic Q)) [opAt ops h2] a' w) (qs.map (opAt ops)) a
  | .three qs h1 t1 h2 t2 h3 t3, a, w => wpQuiet P ops S (fun a' => wpList P ops (Exit.then (fun a2 w2 => S w2 ∧ wpWays4 P ops Q S t1 a2 w2) (NoPanic Q)) [opAt ops h1] a' w ∧
      wpList P ops (Exit.then (fun a2 w2 => S w2 ∧ wpWays4 P ops Q S t2 a2 w2) (NoPanic Q)) [opAt ops h2] a' w ∧
      wpList P ops (Exit.then (fun a2 w2 => S w2 ∧ wpWays4 P ops Q S t3 a2 w2) (NoPanic Q)) [opAt ops h3] a' w) (qs.map (opAt ops)) a

theorem wpWays_done4 {Q : Exit → Act → World → Prop} {last : List Nat} {a : Act} {w : World} : wpWays4 P ops Q S (.done last) a w = wpQuiet P ops S (fun a' => Q .normal a' w) (last.map (opAt ops)) a := rfl
theorem wpWays_one4 {Q : Exit → Act → World → Prop} {qs : List Nat} {h : Nat} {t : Ways4} {a : Act} {w : World} :
    wpWays4 P ops Q S (.one qs h t) a w = wpQuiet P ops S (fun a' => wpList P ops (Exit.then (fun a2 w2 => S w2 ∧ wpWays4 P ops Q S t a2 w2) (NoPanic Q)) [opAt ops h] a' w) (qs.map (opAt ops)) a := rfl
theorem wpWays_two4 {Q : Exit → Act → World → Prop} {qs : List Nat} {h1 h2 : Nat} {t1 t2 : Ways4} {a : Act} {w : World} :
    wpWays4 P ops Q S (.two qs h1 t1 h2 t2) a w = wpQuiet P ops S (fun a' => wpList P ops (Exit.then (fun a2 w2 => S w2 ∧ wpWays4 P ops Q S t1 a2 w2) (NoPanic Q)) [opAt ops h1] a' w ∧
      wpList P ops (Exit.then (fun a2 w2 => S w2 ∧ wpWays4 P ops Q S t2 a2 w2) (NoPanic Q)) [opAt ops h2] a' w) (qs.map (opAt ops)) a := rfl
theorem wpAnyH_of_ways4 {Q : Exit → Act → World → Prop} (hsel : Region.noSelect ops = true) :
    ∀ (t : Ways4) (n : Nat) (listed : Array Bool) (a : Act) (w : World), S w → waysN4 t n = true → waysB4 md ops t listed = true → wpWays4 P ops Q S t a w → wpAnyH P md ops (NoPanic Q) S n listed a w
  | .done last, n, listed, a, w, hS, hN, hB, h => by
    simp only [waysB4] at hB
    simp only [waysN4, decide_eq_true_eq] at hN
    subst hN
    split at hB
    · rename_i l' hl
      have hr : Region.ready md ops l' = [] := by simpa using hB
      have := softs_take4 (P := P) (Q := Q) (K := fun a' => Q .normal a' w) (fuel := 0) hsel hS (fun a' ha => wpAnyH_done hr (NoPanic.normal ha) 0) last listed a hl h
      simpa using this
    · cases hB
  | .one qs i t, n, listed, a, w, hS, hN, hB, h => by
    simp only [waysB4] at hB
    simp only [waysN4, Bool.and_eq_true, decide_eq_true_eq] at hN
    split at hB
    · rename_i l' hl
      simp only [Bool.and_eq_true, decide_eq_true_eq] at hB
      obtain ⟨hr, hB2⟩ := hB
      have e : n = qs.length + ((n - qs.length - 1) + 1) := by omega
      rw [e]
      refine softs_take4 (fuel := (n - qs.length - 1) + 1) hsel hS (fun a' ha => ?_) qs listed a hl h
      refine wpAnyH_all hr (by simp) fun j hj => ?_
      obtain rfl : j = i := by simpa using hj
      exact wpOp_of_one (ready_lt (md := md) (l := l') (by rw [hr]; simp)) (fun a2 w2 h2 => ⟨h2.1, wpAnyH_of_ways4 hsel t _ _ a2 w2 h2.1 hN.2 hB2 h2.2⟩) ha
    · cases hB
  | .two qs i t1 k t2, n, listed, a, w, hS, hN, hB, h => by
    simp only [waysB4] at hB
    simp only [waysN4, Bool.and_eq_true, decide_eq_true_eq] at hN
    split at hB
    · rename_i l' hl
      simp only [Bool.and_eq_true, decide_eq_true_eq] at hB
      obtain ⟨⟨hr, hB1⟩, hB2⟩ := hB
      have e : n = qs.length + ((n - qs.length - 1) + 1) := by omega
      rw [e]
      refine softs_take4 (fuel := (n - qs.length - 1) + 1) hsel hS (fun a' ha => ?_) qs listed a hl h
      refine wpAnyH_all hr (by simp) fun j hj => ?_
      have hj2 : j = i ∨ j = k := by simpa using hj
      have hlt : j < ops.size := ready_lt (md := md) (l := l') (by rw [hr]; exact hj)
      rcases hj2 with rfl | rfl
      · exact wpOp_of_one hlt (fun a2 w2 h2 => ⟨h2.1, wpAnyH_of_ways4 hsel t1 _ _ a2 w2 h2.1 hN.1.2 hB1 h2.2⟩) ha.1
      · exact wpOp_of_one hlt (fun a2 w2 h2 => ⟨h2.1, wpAnyH_of_ways4 hsel t2 _ _ a2 w2 h2.1 hN.2 hB2 h2.2⟩) ha.2
    · cases hB
  | .three qs i t1 k t2 m t3, n, listed, a, w, hS, hN, hB, h => by
    simp only [waysB4] at hB
    simp only [waysN4, Bool.and_eq_true, decide_eq_true_eq] at hN
    split at hB
    · rename_i l' hl
      simp only [Bool.and_eq_true, decide_eq_true_eq] at hB
      obtain ⟨⟨⟨hr, hB1⟩, hB2⟩, hB3⟩ := hB
      have e : n = qs.length + ((n - qs.length - 1) + 1) := by omega
      rw [e]
      refine softs_take4 (fuel := (n - qs.length - 1) + 1) hsel hS (fun a' ha => ?_) qs listed a hl h
      refine wpAnyH_all hr (by simp) fun j hj => ?_
      have hj2 : j = i ∨ j = k ∨ j = m := by simpa using hj
      have hlt : j < ops.size := ready_lt (md := md) (l := l') (by rw [hr]; exact hj)
      rcases hj2 with rfl | rfl | rfl
      · exact wpOp_of_one hlt (fun a2 w2 h2 => ⟨h2.1, wpAnyH_of_ways4 hsel t1 _ _ a2 w2 h2.1 hN.1.1.2 hB1 h2.2⟩) ha.1
      · exact wpOp_of_one hlt (fun a2 w2 h2 => ⟨h2.1, wpAnyH_of_ways4 hsel t2 _ _ a2 w2 h2.1 hN.1.2 hB2 h2.2⟩) ha.2.1
      · exact wpOp_of_one hlt (fun a2 w2 h2 => ⟨h2.1, wpAnyH_of_ways4 hsel t3 _ _ a2 w2 h2.1 hN.2 hB3 h2.2⟩) ha.2.2
    · cases hB

def waysOK4 (ops : Array Oper) (t : Ways4) : Bool := Region.noSelect ops && waysN4 t ops.size && waysB4 .any ops t (Array.replicate ops.size false)

/-- A region that draws its order, over the worlds that are as the one at hand below B. -/
theorem region_ways4 {id : Nat} {Q : Exit → Act → World → Prop} {a : Act} {w : World} (B : Nat) (hBw : B ≤ w.heap.size) (t : Ways4) (hm : P.follows .mixedOrders = true) (hB : waysOK4 ops t = true)
    (h : ∀ w', Below w.heap.size w w' → wpWays4 P ops Q (fun w' => ∃ x : SubW B w, w' = x.at_) t a w') : (Code.region id ops true).wp P Q a w := by
  simp only [waysOK4, Bool.and_eq_true] at hB
  obtain ⟨⟨h1, h2⟩, h3⟩ := hB
  have hb := below_drewN (Below.refl w.heap.size w) 1
  refine wp_region_noPanic (wp_region_held (S := fun w' => ∃ x : SubW B w, w' = x.at_) hm ?_)
  exact wpAnyH_of_ways4 h1 t _ _ a _ ⟨⟨_, hb.mono hBw⟩, rfl⟩ h2 h3 (h _ hb)
end
end
end Go.Proofs.Ytgkddhncfaeidaa

namespace Go.Proofs.Ytgkddhncfaeidaa
open Go.RowKit
set_option linter.unusedVariables false
section
variable {w w' : World} {B N g gs gn L cs cn : Nat} {rw : Value} {st nw : List UInt8} {ws : List (Nat × List UInt8)} {on : Bool} {left : Int}

def putAt (nw : List UInt8) (i : Nat) (bs : List UInt8) : List UInt8 := nw.take (64 * i) ++ bs ++ (nw.drop (64 * i)).drop 64

theorem length_putAt {i : Nat} {bs : List UInt8} (hi : 64 * i + 64 ≤ nw.length) (hb : bs.length = 64) : (putAt nw i bs).length = nw.length := by
  unfold putAt
  simp only [List.length_append, List.length_take, List.length_drop]
  omega

theorem infoWr : (Try.prog.info? 211).map (fun i => (i.zero, i.size, i.bytes)) = some (some (.agg (.int .i64 0 :: List.replicate 64 (.int .u8 0)).toArray), 65, 72) := by kernel_rfl

theorem splice_wr (i : Nat) (bs : List UInt8) (hb : bs.length = 64) : splice (Value.int .i64 (i : Int) :: List.replicate 64 (.int .u8 0)) 1 (bs.map bv) = wrC (i, bs) := by
  unfold splice wrC
  rw [List.length_map, hb]
  simp
theorem fill_wr (C cells : Array Value) (hC : C.size = 65) (hn : cells.size = 65) : Instr.fill (fun i => some (i * 65, 65)) cells [(0, .agg C)] = some C := by
  have := Great.fill_whole (s := 65) (by omega) [.agg C] cells (fun v hv => by simp at hv; subst hv; exact hC) (by simp [hn])
  simpa [Value.cells] using this
theorem wrC_one (p : Nat × List UInt8) : ∀ u ∈ wrC p, u.oneCell' = true := by
  intro u hu
  rcases List.mem_cons.1 hu with rfl | h
  · rfl
  · exact bv_one _ u h

theorem own_form {w : World} {base sz n : Nat} {v : Value} {E : TypeId} {us : List Value} (h : w.ownsRow base E sz v n us) : ∃ A c, v = .slice A n c := by
  rcases h.2 with ⟨rfl, rfl⟩ | ⟨g, cap, cur, rfl, _⟩
  · exact ⟨none, 0, rfl⟩
  · exact ⟨_, _, rfl⟩
theorem below_setC' {B : Nat} {w : World} {g i : Nat} {v : Value} (hB : B ≤ w.heap.size) (hg : B ≤ g) : Below B w (w.setCell ⟨g, i, none⟩ v) :=
  ⟨rfl, rfl, rfl, by simp, fun k hk => Below.heap_setCell w ⟨g, i, none⟩ v k (fun e => by simp at e; omega)⟩
theorem Dk.blk (h : Dk w B N g gs gn rw L cs cn st nw ws on left) : ∀ k, rw.ownBlock = some k → B ≤ k := by
  intro k hk
  rcases h.wait.2 with ⟨h0, h1⟩ | ⟨g', cap', cur, hv, hb, _⟩
  · rw [h0] at hk; simp [Value.ownBlock] at hk
  · rw [hv] at hk; simp [Value.ownBlock] at hk; omega

theorem Dk.setNow {nw2 : List UInt8} (h : Dk w B N g gs gn rw L cs cn st nw ws on left) (hg : w.grownBy w' (some gn)) (ho : OwnB w' B gn cn 5 nw2) (hl : nw2.length = L) :
    Dk w' B w'.heap.size g gs gn rw L cs cn st nw2 ws on left := by
  obtain ⟨_, _, _, c2, hh2, _⟩ := h.now.parts
  have gnn : g ≠ gn := by
    intro e
    rw [← e, h.head] at hh2
    simp at hh2
  have hs := hg.size
  have hN := h.NN
  exact { h with
    head := (hg.block g (Array.getElem?_eq_some_iff.1 h.head).1 (fun e => gnn (by injection e))).trans h.head
    stay := h.stay.keep (hg.block gs h.stay.lt (fun e => h.ne (by injection e)))
    now := ho
    wait := by
      rcases h.wait.2 with ⟨h0, h1⟩ | ⟨g', cap', cur, hv, hb, hh, hr⟩
      · exact ⟨h.wait.1, .inl ⟨h0, h1⟩⟩
      · refine ⟨h.wait.1, .inr ⟨g', cap', cur, hv, hb, (hg.block g' (Array.getElem?_eq_some_iff.1 hh).1 ?_).trans hh, hr⟩⟩
        intro e
        injection e with e
        rw [e, hh2] at hh
        simp at hh
    lnw := hl
    gN := by have := h.gN; omega
    sN := by have := h.sN; omega
    nN := by have := h.nN; omega
    wN := fun k hk => by have := h.wN k hk; omega
    NN := Nat.le_refl _ }

/-- The writes that wait are one more: the disk, once the slice is stored. -/
theorem Dk.more {rw2 : Value} {i : Nat} {bs : List UInt8} (h : Dk w B N g gs gn rw L cs cn st nw ws on left) (hg : w.grownBy w' rw.ownBlock) (ho : w'.ownsRow B 211 65 rw2 (ws.length + 1) (ws.flatMap wrC ++ wrC (i, bs)))
    (how : rw2.ownBlock = rw.ownBlock ∨ rw2.ownBlock = some w.heap.size) (hbl : bs.length = 64) (hi : 64 * i + 64 ≤ L) :
    w'.heap[g]? = some (.cells #[.slice (some ⟨gs, 0, none⟩) L cs, .slice (some ⟨gn, 0, none⟩) L cn, rw, .bool on, .int .i64 left] 159 (0, 0)) ∧
    Dk (w'.setCell ⟨g, 2, none⟩ rw2) B (w'.setCell ⟨g, 2, none⟩ rw2).heap.size g gs gn rw2 L cs cn st nw (ws ++ [(i, bs)]) on left := by
  have hrt : ∀ k, rw.ownBlock = some k → ∃ cur, w.heap[k]? = some (.cells cur 211 (0, 0)) := by
    intro k hk
    rcases h.wait.2 with ⟨h0, h1⟩ | ⟨g', cap', cur, hv, hb, hh, _⟩
    · rw [h0] at hk; simp [Value.ownBlock] at hk
    · rw [hv] at hk; simp [Value.ownBlock] at hk; subst hk; exact ⟨_, hh⟩
  have ne1 : ∀ k t cur, w.heap[k]? = some (.cells cur t (0, 0)) → t ≠ 211 → some k ≠ rw.ownBlock := by
    intro k t cur hk ht e
    obtain ⟨cur2, h2⟩ := hrt k e.symm
    rw [hk] at h2
    simp at h2
    exact ht h2.2
  obtain ⟨_, _, _, c1, hh1, _⟩ := h.stay.parts
  obtain ⟨_, _, _, c2, hh2, _⟩ := h.now.parts
  have a0 := (hg.block g (Array.getElem?_eq_some_iff.1 h.head).1 (ne1 g _ _ h.head (by decide))).trans h.head
  have e1 := hg.block gs (Array.getElem?_eq_some_iff.1 hh1).1 (ne1 gs _ _ hh1 (by decide))
  have e2 := hg.block gn (Array.getElem?_eq_some_iff.1 hh2).1 (ne1 gn _ _ hh2 (by decide))
  have gsn : gs ≠ g := by
    intro e
    rw [e, h.head] at hh1
    simp at hh1
  have gnn : gn ≠ g := by
    intro e
    rw [e, h.head] at hh2
    simp at hh2
  have hs := hg.size
  have hN := h.NN
  refine ⟨a0, ?_⟩
  have hlen : (ws ++ [(i, bs)]).length = ws.length + 1 := by simp
  exact {
    head := (heap_setCell_same w' g 2 _ _ _ a0).trans rfl
    stay := (h.stay.keep e1).keep (Below.heap_setCell w' ⟨g, 2, none⟩ rw2 gs gsn)
    now := (h.now.keep e2).keep (Below.heap_setCell w' ⟨g, 2, none⟩ rw2 gn gnn)
    wait := by
      rw [hlen, List.flatMap_append, List.flatMap_singleton]
      rcases ho.2 with ⟨h0, h1⟩ | ⟨g', cap', cur, hv, hb, hh, hr⟩
      · omega
      · refine ⟨ho.1, .inr ⟨g', cap', cur, hv, hb, (Below.heap_setCell w' ⟨g, 2, none⟩ rw2 g' ?_).trans hh, hr⟩⟩
        intro e
        simp at e
        rw [e, a0] at hh
        simp at hh
    lst := h.lst
    lnw := h.lnw
    gB := h.gB
    ne := h.ne
    gN := by have := h.gN; simp; omega
    sN := by have := h.sN; simp; omega
    nN := by have := h.nN; simp; omega
    wN := fun k hk => by
      rcases ho.2 with ⟨h0, h1⟩ | ⟨g', cap', cur, hv, hb, hh, hr⟩
      · omega
      · rw [hv] at hk
        simp [Value.ownBlock] at hk
        subst hk
        simpa using (Array.getElem?_eq_some_iff.1 hh).1
    NN := Nat.le_refl _
    fit := fun p hp => by
      rcases List.mem_append.1 hp with hp | hp
      · exact h.fit p hp
      · simp at hp; subst hp; exact ⟨hbl, hi⟩
    lo := h.lo
    hi := h.hi
    pg := h.pg }

end
end Go.Proofs.Ytgkddhncfaeidaa
