/- A region that draws its order, where now and then one of two may come next: both ways are walked. No program is named here. -/
import Derived.Test.YtgkddhncfaeidaaPi
namespace Go.Proofs.Ytgkddhncfaeidaa
open Go.RowKit

/-- The ways through a region: soft ones, then one that touches memory, or one of two. -/
inductive Ways where
  | done (last : List Nat)
  | one (qs : List Nat) (h : Nat) (t : Ways)
  | two (qs : List Nat) (h1 : Nat) (t1 : Ways) (h2 : Nat) (t2 : Ways)

section
variable {P : Program} {ops : Array Oper} {md : Region.Mode} {S : World → Prop}

def waysB (md : Region.Mode) (ops : Array Oper) : Ways → Array Bool → Bool
  | .done last, listed => match softs md ops last listed with
    | some l' => (Region.ready md ops l').isEmpty
    | none => false
  | .one qs h t, listed => match softs md ops qs listed with
    | some l' => decide (Region.ready md ops l' = [h]) && waysB md ops t (l'.setIfInBounds h true)
    | none => false
  | .two qs h1 t1 h2 t2, listed => match softs md ops qs listed with
    | some l' => decide (Region.ready md ops l' = [h1, h2]) && waysB md ops t1 (l'.setIfInBounds h1 true) && waysB md ops t2 (l'.setIfInBounds h2 true)
    | none => false

/-- Each way has n operations. -/
def waysN : Ways → Nat → Bool
  | .done last, n => decide (last.length = n)
  | .one qs _ t, n => decide (qs.length + 1 ≤ n) && waysN t (n - qs.length - 1)
  | .two qs _ t1 _ t2, n => decide (qs.length + 1 ≤ n) && waysN t1 (n - qs.length - 1) && waysN t2 (n - qs.length - 1)

def wpWays (P : Program) (ops : Array Oper) (Q : Exit → Act → World → Prop) (S : World → Prop) : Ways → Act → World → Prop
  | .done last, a, w => wpQuiet P ops S (fun a' => Q .normal a' w) (last.map (opAt ops)) a
  | .one qs h t, a, w => wpQuiet P ops S (fun a' => wpList P ops (Exit.then (fun a2 w2 => S w2 ∧ wpWays P ops Q S t a2 w2) (NoPanic Q)) [opAt ops h] a' w) (qs.map (opAt ops)) a
  | .two qs h1 t1 h2 t2, a, w => wpQuiet P ops S (fun a' => wpList P ops (Exit.then (fun a2 w2 => S w2 ∧ wpWays P ops Q S t1 a2 w2) (NoPanic Q)) [opAt ops h1] a' w ∧
      wpList P ops (Exit.then (fun a2 w2 => S w2 ∧ wpWays P ops Q S t2 a2 w2) (NoPanic Q)) [opAt ops h2] a' w) (qs.map (opAt ops)) a

theorem wpWays_done {Q : Exit → Act → World → Prop} {last : List Nat} {a : Act} {w : World} : wpWays P ops Q S (.done last) a w = wpQuiet P ops S (fun a' => Q .normal a' w) (last.map (opAt ops)) a := rfl
theorem wpWays_one {Q : Exit → Act → World → Prop} {qs : List Nat} {h : Nat} {t : Ways} {a : Act} {w : World} :
    wpWays P ops Q S (.one qs h t) a w = wpQuiet P ops S (fun a' => wpList P ops (Exit.then (fun a2 w2 => S w2 ∧ wpWays P ops Q S t a2 w2) (NoPanic Q)) [opAt ops h] a' w) (qs.map (opAt ops)) a := rfl
theorem wpWays_two {Q : Exit → Act → World → Prop} {qs : List Nat} {h1 h2 : Nat} {t1 t2 : Ways} {a : Act} {w : World} :
    wpWays P ops Q S (.two qs h1 t1 h2 t2) a w = wpQuiet P ops S (fun a' => wpList P ops (Exit.then (fun a2 w2 => S w2 ∧ wpWays P ops Q S t1 a2 w2) (NoPanic Q)) [opAt ops h1] a' w ∧
      wpList P ops (Exit.then (fun a2 w2 => S w2 ∧ wpWays P ops Q S t2 a2 w2) (NoPanic Q)) [opAt ops h2] a' w) (qs.map (opAt ops)) a := rfl

theorem wpOp_of_one {Q : Exit → Act → World → Prop} {K K' : Act → World → Prop} {j : Nat} {a : Act} {w : World} (hj : j < ops.size) (hK : ∀ a2 w2, K a2 w2 → K' a2 w2)
    (ha : wpList P ops (Exit.then K (NoPanic Q)) [opAt ops j] a w) : wpOp P ops (NoPanic Q) j K' a w := by
  unfold wpOp
  rw [opAt_some hj]
  simp only [wpList] at ha
  have key : ∀ a2 w2, Exit.then K (NoPanic Q) .normal a2 w2 → K' a2 w2 := fun a2 w2 h2 => hK _ _ h2
  simp only
  split at ha
  · rename_i hw
    rw [if_pos hw]
    rcases ha with ha | ⟨h1, h2⟩
    · left
      unfold Oper.wp at *
      generalize (execOp a.eval (opAt ops j)).run P w = x at *
      cases x with
      | ok n w3 =>
        cases n <;> simp only [Oper.upon] at ha ⊢
        case value u => exact key _ _ ha
        case skip => exact key _ _ ha
        case defer d => exact key _ _ ha
        case enter f args =>
          refine Calls.mono ha fun e w'' he => ?_
          cases e with
          | returned u => exact key _ _ he
          | panicked c => exact he
          | outgrown => exact he
        case row row args => exact Rows.mono ha fun u w'' he => key _ _ he
      | halt x w3 => cases x <;> simp only [Oper.upon] at ha ⊢ <;> exact ha
    · right
      exact ⟨h1, h2⟩
  · rename_i hw
    rw [if_neg hw]
    exact key _ _ ha

theorem ready_lt {l : Array Bool} {i : Nat} (h : i ∈ Region.ready md ops l) : i < ops.size := by
  obtain ⟨_, o, ho, _⟩ := mem_ready.1 h
  exact (Array.getElem?_eq_some_iff.1 ho).1

theorem wpAnyH_of_ways {Q : Exit → Act → World → Prop} (hsel : Region.noSelect ops = true) :
    ∀ (t : Ways) (n : Nat) (listed : Array Bool) (a : Act) (w : World), S w → waysN t n = true → waysB md ops t listed = true → wpWays P ops Q S t a w → wpAnyH P md ops (NoPanic Q) S n listed a w
  | .done last, n, listed, a, w, hS, hN, hB, h => by
    simp only [waysB] at hB
    simp only [waysN, decide_eq_true_eq] at hN
    subst hN
    split at hB
    · rename_i l' hl
      have hr : Region.ready md ops l' = [] := by simpa using hB
      have := softs_take (P := P) (Q := Q) (K := fun a' => Q .normal a' w) (fuel := 0) hsel hS (fun a' ha => wpAnyH_done hr (NoPanic.normal ha) 0) last listed a hl h
      simpa using this
    · cases hB
  | .one qs i t, n, listed, a, w, hS, hN, hB, h => by
    simp only [waysB] at hB
    simp only [waysN, Bool.and_eq_true, decide_eq_true_eq] at hN
    split at hB
    · rename_i l' hl
      simp only [Bool.and_eq_true, decide_eq_true_eq] at hB
      obtain ⟨hr, hB2⟩ := hB
      have e : n = qs.length + ((n - qs.length - 1) + 1) := by omega
      rw [e]
      refine softs_take (fuel := (n - qs.length - 1) + 1) hsel hS (fun a' ha => ?_) qs listed a hl h
      refine wpAnyH_all hr (by simp) fun j hj => ?_
      obtain rfl : j = i := by simpa using hj
      exact wpOp_of_one (ready_lt (md := md) (l := l') (by rw [hr]; simp)) (fun a2 w2 h2 => ⟨h2.1, wpAnyH_of_ways hsel t _ _ a2 w2 h2.1 hN.2 hB2 h2.2⟩) ha
    · cases hB
  | .two qs i t1 k t2, n, listed, a, w, hS, hN, hB, h => by
    simp only [waysB] at hB
    simp only [waysN, Bool.and_eq_true, decide_eq_true_eq] at hN
    split at hB
    · rename_i l' hl
      simp only [Bool.and_eq_true, decide_eq_true_eq] at hB
      obtain ⟨⟨hr, hB1⟩, hB2⟩ := hB
      have e : n = qs.length + ((n - qs.length - 1) + 1) := by omega
      rw [e]
      refine softs_take (fuel := (n - qs.length - 1) + 1) hsel hS (fun a' ha => ?_) qs listed a hl h
      refine wpAnyH_all hr (by simp) fun j hj => ?_
      have hj2 : j = i ∨ j = k := by simpa using hj
      have hlt : j < ops.size := ready_lt (md := md) (l := l') (by rw [hr]; exact hj)
      rcases hj2 with rfl | rfl
      · exact wpOp_of_one hlt (fun a2 w2 h2 => ⟨h2.1, wpAnyH_of_ways hsel t1 _ _ a2 w2 h2.1 hN.1.2 hB1 h2.2⟩) ha.1
      · exact wpOp_of_one hlt (fun a2 w2 h2 => ⟨h2.1, wpAnyH_of_ways hsel t2 _ _ a2 w2 h2.1 hN.2 hB2 h2.2⟩) ha.2
    · cases hB

def waysOK (ops : Array Oper) (t : Ways) : Bool := Region.noSelect ops && waysN t ops.size && waysB .any ops t (Array.replicate ops.size false)

/-- A region that draws its order, over the worlds that are as the one at hand below B. -/
theorem region_ways {id : Nat} {Q : Exit → Act → World → Prop} {a : Act} {w : World} (B : Nat) (hBw : B ≤ w.heap.size) (t : Ways) (hm : P.follows .mixedOrders = true) (hB : waysOK ops t = true)
    (h : ∀ w', Below w.heap.size w w' → wpWays P ops Q (fun w' => ∃ x : SubW B w, w' = x.at_) t a w') : (Code.region id ops true).wp P Q a w := by
  simp only [waysOK, Bool.and_eq_true] at hB
  obtain ⟨⟨h1, h2⟩, h3⟩ := hB
  have hb := below_drewN (Below.refl w.heap.size w) 1
  refine wp_region_noPanic (wp_region_held (S := fun w' => ∃ x : SubW B w, w' = x.at_) hm ?_)
  exact wpAnyH_of_ways h1 t _ _ a _ ⟨⟨_, hb.mono hBw⟩, rfl⟩ h2 h3 (h _ hb)
end
end Go.Proofs.Ytgkddhncfaeidaa
