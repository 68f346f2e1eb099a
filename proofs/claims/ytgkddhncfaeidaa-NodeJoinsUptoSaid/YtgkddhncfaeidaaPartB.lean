/- Several texts in one: A region that draws its order: a head walked by its ways, then a tail in one forced order, which may change what the head reads. No program is named here. Package node's Join of whatever two nodes; a node's box and its rows. What NodeJoins' walk wants: a node's box, and its rows doubled. NodeJoins' region of six appends and three stores, by its states. -/
import Derived.Test.YtgkddhncfaeidaaWays4
import Derived.Test.YtgkddhncfaeidaaTail
import Derived.Test.YtgkddhncfaeidaaPartA
namespace Go.Proofs.Ytgkddhncfaeidaa
open Go.RowKit
set_option linter.unusedVariables false

section
variable {P : Program} {ops : Array Oper} {md : Region.Mode} {S : World → Prop}

def anyHT (P : Program) (md : Region.Mode) (ops : Array Oper) (Q : Exit → Act → World → Prop) (S : World → Prop) (n : Nat) (L : Array Bool → Act → World → Prop) : Nat → Array Bool → Act → World → Prop
  | 0, listed, a, w => L listed a w
  | f + 1, listed, a, w =>
    Region.ready md ops listed ≠ [] ∧ ∀ i ∈ Region.ready md ops listed, i < n ∧ wpOp P ops Q i (fun a' w' => S w' ∧ anyHT P md ops Q S n L f (listed.setIfInBounds i true) a' w') a w

theorem any_of_HT {n g : Nat} {L : Array Bool → Act → World → Prop} {Q : Exit → Act → World → Prop} (hL : ∀ listed a w, L listed a w → wpAny P md ops Q g listed a w) :
    ∀ (f : Nat) (listed : Array Bool) (a : Act) (w : World), anyHT P md ops Q S n L f listed a w → wpAny P md ops Q (f + g) listed a w
  | 0, listed, a, w, h => by rw [Nat.zero_add]; exact hL _ _ _ h
  | f + 1, listed, a, w, h => by
    rw [show f + 1 + g = (f + g) + 1 by omega]
    exact ⟨fun h0 => absurd h0 h.1, fun i hi => wpOp_mono (fun a' w' h' => any_of_HT hL f _ a' w' h'.2) (h.2 i hi).2⟩

theorem anyHT_first {n i : Nat} {oi : Oper} {v : Value} {L : Array Bool → Act → World → Prop} {Q : Exit → Act → World → Prop} (hi : ops[i]? = some oi) (hsel : ∀ (j : Nat) (o : Oper) cs b, ops[j]? = some o → o.op ≠ .select cs b)
    (hQ : ∀ c a w, Q (.panic c) (a.put oi.dst v) w → Q (.panic c) a w)
    (hs : Region.sinkB md ops n = true) (hc : Region.chainB md ops n = true) (hn : n < ops.size) (hin : i < n)
    (hdone : ∀ listed a w, L listed a w → ∀ j ∈ Region.ready md ops listed, n ≤ j) :
    ∀ (f : Nat) (listed : Array Bool) (a : Act) (w : World), HeadInv md ops n listed →
      (∀ j oj, ops[j]? = some oj → j ≠ i → listed.getD j true = false → (∀ e ∈ oj.after, Region.binds md e = true → e.on ≠ i) → oi.apart ops oj = true) →
      i ∈ Region.ready md ops listed → YieldsIf P ops S oi v a → S w →
      anyHT P md ops Q S n L f (listed.setIfInBounds i true) (a.put oi.dst v) w → anyHT P md ops Q S n L (f + 1) listed a w := by
  intro f
  induction f with
  | zero =>
    intro listed a w inv _ hr hy hS H
    have hun := (mem_ready.1 hr).1
    refine ⟨fun h => (by rw [h] at hr; cases hr), fun j hj => ?_⟩
    have hjn : j < n := by
      rcases Nat.lt_or_ge j n with h | h
      · exact h
      · exact absurd hj (tail_waits hs hc hn inv _ i rfl hin hun j h)
    refine ⟨hjn, ?_⟩
    by_cases hji : j = i
    · subst hji; exact hy.wpOp hi hS ⟨hS, H⟩
    · have := hdone _ _ _ H j (ready_mono hj hji)
      omega
  | succ f ih =>
    intro listed a w inv hfree hr hy hS H
    have hun := (mem_ready.1 hr).1
    refine ⟨fun h => (by rw [h] at hr; cases hr), fun j hj => ?_⟩
    have hjn : j < n := by
      rcases Nat.lt_or_ge j n with h | h
      · exact h
      · exact absurd hj (tail_waits hs hc hn inv _ i rfl hin hun j h)
    refine ⟨hjn, ?_⟩
    by_cases hji : j = i
    · subst hji; exact hy.wpOp hi hS ⟨hS, H⟩
    · have h1 := (H.2 j (ready_mono hj hji)).2
      obtain ⟨hjun, oj, hoj, hall⟩ := mem_ready.1 hj
      have hnot : ∀ e ∈ oj.after, Region.binds md e = true → e.on ≠ i := fun e he hb heq => by
        have h1 := hall e he hb
        rw [heq, getD_both hun] at h1
        cases h1
      have h2 := wpOp_putIf hoj (hfree j oj hoj hji hjun hnot) (fun cs b => hsel i oi cs b hi) (fun cs b => hsel j oj cs b hoj) hQ hy h1
      have hfree' : ∀ k ok, ops[k]? = some ok → k ≠ i → (listed.setIfInBounds j true).getD k true = false →
          (∀ e ∈ ok.after, Region.binds md e = true → e.on ≠ i) → oi.apart ops ok = true := fun k ok hk hki hun hno => by
        refine hfree k ok hk hki ?_ hno
        by_cases hjk : j = k
        · subst hjk; exact hjun
        · rw [getD_set_ne true hjk] at hun; exact hun
      refine wpOp_mono (fun a' w' h3 => ⟨h3.2.1, ih (listed.setIfInBounds j true) a' w' (inv.set hj hjn) hfree' (ready_mono hr (Ne.symm hji)) h3.1 h3.2.1 ?_⟩) h2
      rw [Array.setIfInBounds_comm _ _ hji]
      exact h3.2.2

/-- Soft ones of the head keep it a head. -/
theorem softsT {n : Nat} {Q : Exit → Act → World → Prop} {K : Act → Prop} {L : Array Bool → Act → World → Prop} (hsel : Region.noSelect ops = true) (hs : Region.sinkB md ops n = true) (hc : Region.chainB md ops n = true) (hn : n < ops.size)
    (hdone : ∀ listed a w, L listed a w → ∀ j ∈ Region.ready md ops listed, n ≤ j) {fuel : Nat} {l' : Array Bool} {w : World} (hS : S w)
    (hK : ∀ a, HeadInv md ops n l' → K a → anyHT P md ops (NoPanic Q) S n L fuel l' a w) :
    ∀ (qs : List Nat) (listed : Array Bool) (a : Act), HeadInv md ops n listed → (qs.all fun q => decide (q < n)) = true → softs4 md ops qs listed = some l' → wpQuiet P ops S K (qs.map (opAt ops)) a → anyHT P md ops (NoPanic Q) S n L (qs.length + fuel) listed a w
  | [], listed, a, inv, _, h, hq => by
    simp only [softs4, Option.some.injEq] at h
    subst h
    rw [List.length_nil, Nat.zero_add]
    exact hK a inv hq
  | i :: r, listed, a, inv, hall, h, hq => by
    simp only [softs4] at h
    rw [List.all_cons, Bool.and_eq_true, decide_eq_true_eq] at hall
    split at h
    · rename_i hcc
      simp only [Bool.and_eq_true, decide_eq_true_eq] at hcc
      obtain ⟨⟨⟨h1, h2⟩, h3⟩, h4⟩ := hcc
      have ho := opAt_some h1
      have hr : i ∈ Region.ready md ops listed := by simpa using h4
      rw [List.length_cons, show r.length + 1 + fuel = (r.length + fuel) + 1 by omega]
      simp only [List.map_cons, wpQuiet] at hq
      split at hq
      · rename_i hw
        obtain ⟨v, hv, hnn⟩ := hq
        refine anyHT_first ho (Region.noSelect_spec hsel) (fun _ _ _ h => h) hs hc hn hall.1 hdone (v := v) _ listed a w inv (Region.free_spec ho h3) hr (.inl ⟨hw, fun w2 hw2 => ?_⟩) hS (softsT hsel hs hc hn hdone hS hK r _ _ (inv.set hr hall.1) hall.2 h hnn)
        have hv2 := hv w2 hw2
        unfold Oper.quietAt at hv2
        generalize hrr : (execOp a.eval (opAt ops i)).run P w2 = x at hv2
        cases x with
        | ok n w3 =>
          obtain ⟨u, rfl⟩ := soft_value4 h2 hrr
          obtain ⟨rfl, rfl⟩ := hv2
          rfl
        | halt x w3 => exact hv2.elim
      · rename_i hw
        exact anyHT_first ho (Region.noSelect_spec hsel) (fun _ _ _ h => h) hs hc hn hall.1 hdone (v := undef) _ listed a w inv (Region.free_spec ho h3) hr (.inr ⟨by simpa using hw, rfl⟩) hS (softsT hsel hs hc hn hdone hS hK r _ _ (inv.set hr hall.1) hall.2 h hq)
    · cases h

def waysBT (md : Region.Mode) (ops : Array Oper) (n g : Nat) : Ways4 → Array Bool → Bool
  | .done last, listed => (last.all fun q => decide (q < n)) && match softs4 md ops last listed with
    | some l' => Region.seqB md ops g n l'
    | none => false
  | .one qs h t, listed => (qs.all fun q => decide (q < n)) && match softs4 md ops qs listed with
    | some l' => decide (Region.ready md ops l' = [h]) && decide (h < n) && waysBT md ops n g t (l'.setIfInBounds h true)
    | none => false
  | .two qs h1 t1 h2 t2, listed => (qs.all fun q => decide (q < n)) && match softs4 md ops qs listed with
    | some l' => decide (Region.ready md ops l' = [h1, h2]) && decide (h1 < n) && decide (h2 < n) && waysBT md ops n g t1 (l'.setIfInBounds h1 true) && waysBT md ops n g t2 (l'.setIfInBounds h2 true)
    | none => false
  | .three qs h1 t1 h2 t2 h3 t3, listed => (qs.all fun q => decide (q < n)) && match softs4 md ops qs listed with
    | some l' => decide (Region.ready md ops l' = [h1, h2, h3]) && decide (h1 < n) && decide (h2 < n) && decide (h3 < n) && waysBT md ops n g t1 (l'.setIfInBounds h1 true) && waysBT md ops n g t2 (l'.setIfInBounds h2 true) && waysBT md ops n g t3 (l'.setIfInBounds h3 true)
    | none => false

/-- The walk: at a way's end the tail in its order. -/
def wpWaysT (P : Program) (ops : Array Oper) (Q : Exit → Act → World → Prop) (S : World → Prop) (tl : List Oper) : Ways4 → Act → World → Prop
  | .done last, a, w => wpQuiet P ops S (fun a' => wpList P ops (Exit.then (fun a2 w2 => Q .normal a2 w2) (NoPanic Q)) tl a' w) (last.map (opAt ops)) a
  | .one qs h t, a, w => wpQuiet P ops S (fun a' => wpList P ops (Exit.then (fun a2 w2 => S w2 ∧ wpWaysT P ops Q S tl t a2 w2) (NoPanic Q)) [opAt ops h] a' w) (qs.map (opAt ops)) a
  | .two qs h1 t1 h2 t2, a, w => wpQuiet P ops S (fun a' => wpList P ops (Exit.then (fun a2 w2 => S w2 ∧ wpWaysT P ops Q S tl t1 a2 w2) (NoPanic Q)) [opAt ops h1] a' w ∧
      wpList P ops (Exit.then (fun a2 w2 => S w2 ∧ wpWaysT P ops Q S tl t2 a2 w2) (NoPanic Q)) [opAt ops h2] a' w) (qs.map (opAt ops)) a
  | .three qs h1 t1 h2 t2 h3 t3, a, w => wpQuiet P ops S (fun a' => wpList P ops (Exit.then (fun a2 w2 => S w2 ∧ wpWaysT P ops Q S tl t1 a2 w2) (NoPanic Q)) [opAt ops h1] a' w ∧
      wpList P ops (Exit.then (fun a2 w2 => S w2 ∧ wpWaysT P ops Q S tl t2 a2 w2) (NoPanic Q)) [opAt ops h2] a' w ∧
      wpList P ops (Exit.then (fun a2 w2 => S w2 ∧ wpWaysT P ops Q S tl t3 a2 w2) (NoPanic Q)) [opAt ops h3] a' w) (qs.map (opAt ops)) a

theorem wpWaysT_done {Q : Exit → Act → World → Prop} {tl : List Oper} {last : List Nat} {a : Act} {w : World} : wpWaysT P ops Q S tl (.done last) a w = wpQuiet P ops S (fun a' => wpList P ops (Exit.then (fun a2 w2 => Q .normal a2 w2) (NoPanic Q)) tl a' w) (last.map (opAt ops)) a := rfl
theorem wpWaysT_one {Q : Exit → Act → World → Prop} {tl : List Oper} {qs : List Nat} {h : Nat} {t : Ways4} {a : Act} {w : World} :
    wpWaysT P ops Q S tl (.one qs h t) a w = wpQuiet P ops S (fun a' => wpList P ops (Exit.then (fun a2 w2 => S w2 ∧ wpWaysT P ops Q S tl t a2 w2) (NoPanic Q)) [opAt ops h] a' w) (qs.map (opAt ops)) a := rfl
theorem wpWaysT_two {Q : Exit → Act → World → Prop} {tl : List Oper} {qs : List Nat} {h1 h2 : Nat} {t1 t2 : Ways4} {a : Act} {w : World} :
    wpWaysT P ops Q S tl (.two qs h1 t1 h2 t2) a w = wpQuiet P ops S (fun a' => wpList P ops (Exit.then (fun a2 w2 => S w2 ∧ wpWaysT P ops Q S tl t1 a2 w2) (NoPanic Q)) [opAt ops h1] a' w ∧
      wpList P ops (Exit.then (fun a2 w2 => S w2 ∧ wpWaysT P ops Q S tl t2 a2 w2) (NoPanic Q)) [opAt ops h2] a' w) (qs.map (opAt ops)) a := rfl
theorem wpWaysT_three {Q : Exit → Act → World → Prop} {tl : List Oper} {qs : List Nat} {h1 h2 h3 : Nat} {t1 t2 t3 : Ways4} {a : Act} {w : World} :
    wpWaysT P ops Q S tl (.three qs h1 t1 h2 t2 h3 t3) a w = wpQuiet P ops S (fun a' => wpList P ops (Exit.then (fun a2 w2 => S w2 ∧ wpWaysT P ops Q S tl t1 a2 w2) (NoPanic Q)) [opAt ops h1] a' w ∧
      wpList P ops (Exit.then (fun a2 w2 => S w2 ∧ wpWaysT P ops Q S tl t2 a2 w2) (NoPanic Q)) [opAt ops h2] a' w ∧
      wpList P ops (Exit.then (fun a2 w2 => S w2 ∧ wpWaysT P ops Q S tl t3 a2 w2) (NoPanic Q)) [opAt ops h3] a' w) (qs.map (opAt ops)) a := rfl

theorem anyHT_all {n : Nat} {Q : Exit → Act → World → Prop} {L : Array Bool → Act → World → Prop} {rs : List Nat} {fuel : Nat} {listed : Array Bool} {a : Act} {w : World} (hr : Region.ready md ops listed = rs) (hne : rs ≠ [])
    (h : ∀ i ∈ rs, i < n ∧ wpOp P ops Q i (fun a' w' => S w' ∧ anyHT P md ops Q S n L fuel (listed.setIfInBounds i true) a' w') a w) : anyHT P md ops Q S n L (fuel + 1) listed a w :=
  ⟨fun h0 => absurd (hr ▸ h0) hne, hr ▸ h⟩
theorem ready_mem {l : Array Bool} {rs : List Nat} {i : Nat} (hr : Region.ready md ops l = rs) (h : i ∈ rs) : i ∈ Region.ready md ops l := by rw [hr]; exact h

theorem anyHT_of_ways {n g : Nat} {Q : Exit → Act → World → Prop} {tl : List Oper} (hsel : Region.noSelect ops = true) (hs : Region.sinkB md ops n = true) (hc : Region.chainB md ops n = true) (hn : n < ops.size) :
    ∀ (t : Ways4) (f : Nat) (listed : Array Bool) (a : Act) (w : World), S w → HeadInv md ops n listed → waysN4 t f = true → waysBT md ops n g t listed = true → wpWaysT P ops Q S tl t a w →
      anyHT P md ops (NoPanic Q) S n (fun listed a w => Region.seqB md ops g n listed = true ∧ wpList P ops (Exit.then (fun a2 w2 => Q .normal a2 w2) (NoPanic Q)) tl a w) f listed a w
  | .done last, f, listed, a, w, hS, inv, hN, hB, h => by
    simp only [waysBT, Bool.and_eq_true] at hB
    obtain ⟨hall, hB⟩ := hB
    simp only [waysN4, decide_eq_true_eq] at hN
    subst hN
    split at hB
    · rename_i l' hl
      have := softsT (fuel := 0) (Q := Q) (L := fun listed a w => Region.seqB md ops g n listed = true ∧ wpList P ops (Exit.then (fun a2 w2 => Q .normal a2 w2) (NoPanic Q)) tl a w) hsel hs hc hn (fun listed' a' w' hL => seqB_ready hL.1) hS (fun a' _ ha => (And.intro hB ha : _ ∧ _)) last listed a inv hall hl h
      exact this
    · cases hB
  | .one qs i t, f, listed, a, w, hS, inv, hN, hB, h => by
    simp only [waysBT, Bool.and_eq_true] at hB
    obtain ⟨hall, hB⟩ := hB
    simp only [waysN4, Bool.and_eq_true, decide_eq_true_eq] at hN
    split at hB
    · rename_i l' hl
      simp only [Bool.and_eq_true, decide_eq_true_eq] at hB
      obtain ⟨⟨hr, hin⟩, hB2⟩ := hB
      rw [show f = qs.length + ((f - qs.length - 1) + 1) by omega]
      refine softsT (fuel := (f - qs.length - 1) + 1) hsel hs hc hn (fun listed' a' w' hL => seqB_ready hL.1) hS (fun a' inv' ha => ?_) qs listed a inv hall hl h
      refine anyHT_all hr (by simp) fun j hj => ?_
      obtain rfl : j = i := by simpa using hj
      have hm := ready_mem hr hj
      exact ⟨hin, wpOp_of_one (ready_lt hm) (fun a2 w2 h2 => ⟨h2.1, anyHT_of_ways hsel hs hc hn t _ _ a2 w2 h2.1 (inv'.set hm hin) hN.2 hB2 h2.2⟩) ha⟩
    · cases hB
  | .two qs i t1 k t2, f, listed, a, w, hS, inv, hN, hB, h => by
    simp only [waysBT, Bool.and_eq_true] at hB
    obtain ⟨hall, hB⟩ := hB
    simp only [waysN4, Bool.and_eq_true, decide_eq_true_eq] at hN
    split at hB
    · rename_i l' hl
      simp only [Bool.and_eq_true, decide_eq_true_eq] at hB
      obtain ⟨⟨⟨⟨hr, hi1⟩, hi2⟩, hB1⟩, hB2⟩ := hB
      rw [show f = qs.length + ((f - qs.length - 1) + 1) by omega]
      refine softsT (fuel := (f - qs.length - 1) + 1) hsel hs hc hn (fun listed' a' w' hL => seqB_ready hL.1) hS (fun a' inv' ha => ?_) qs listed a inv hall hl h
      refine anyHT_all hr (by simp) fun j hj => ?_
      have hj2 : j = i ∨ j = k := by simpa using hj
      have hm := ready_mem hr hj
      rcases hj2 with rfl | rfl
      · exact ⟨hi1, wpOp_of_one (ready_lt hm) (fun a2 w2 h2 => ⟨h2.1, anyHT_of_ways hsel hs hc hn t1 _ _ a2 w2 h2.1 (inv'.set hm hi1) hN.1.2 hB1 h2.2⟩) ha.1⟩
      · exact ⟨hi2, wpOp_of_one (ready_lt hm) (fun a2 w2 h2 => ⟨h2.1, anyHT_of_ways hsel hs hc hn t2 _ _ a2 w2 h2.1 (inv'.set hm hi2) hN.2 hB2 h2.2⟩) ha.2⟩
    · cases hB
  | .three qs i t1 k t2 m t3, f, listed, a, w, hS, inv, hN, hB, h => by
    simp only [waysBT, Bool.and_eq_true] at hB
    obtain ⟨hall, hB⟩ := hB
    simp only [waysN4, Bool.and_eq_true, decide_eq_true_eq] at hN
    split at hB
    · rename_i l' hl
      simp only [Bool.and_eq_true, decide_eq_true_eq] at hB
      obtain ⟨⟨⟨⟨⟨⟨hr, hi1⟩, hi2⟩, hi3⟩, hB1⟩, hB2⟩, hB3⟩ := hB
      rw [show f = qs.length + ((f - qs.length - 1) + 1) by omega]
      refine softsT (fuel := (f - qs.length - 1) + 1) hsel hs hc hn (fun listed' a' w' hL => seqB_ready hL.1) hS (fun a' inv' ha => ?_) qs listed a inv hall hl h
      refine anyHT_all hr (by simp) fun j hj => ?_
      have hj2 : j = i ∨ j = k ∨ j = m := by simpa using hj
      have hm := ready_mem hr hj
      rcases hj2 with rfl | rfl | rfl
      · exact ⟨hi1, wpOp_of_one (ready_lt hm) (fun a2 w2 h2 => ⟨h2.1, anyHT_of_ways hsel hs hc hn t1 _ _ a2 w2 h2.1 (inv'.set hm hi1) hN.1.1.2 hB1 h2.2⟩) ha.1⟩
      · exact ⟨hi2, wpOp_of_one (ready_lt hm) (fun a2 w2 h2 => ⟨h2.1, anyHT_of_ways hsel hs hc hn t2 _ _ a2 w2 h2.1 (inv'.set hm hi2) hN.1.2 hB2 h2.2⟩) ha.2.1⟩
      · exact ⟨hi3, wpOp_of_one (ready_lt hm) (fun a2 w2 h2 => ⟨h2.1, anyHT_of_ways hsel hs hc hn t3 _ _ a2 w2 h2.1 (inv'.set hm hi3) hN.2 hB3 h2.2⟩) ha.2.2⟩
    · cases hB

theorem then_noPanic {Q : Exit → Act → World → Prop} : Exit.then (fun a w => Q .normal a w) (NoPanic Q) = NoPanic Q := by
  funext e a w
  cases e <;> rfl
end

def waysOKT (ops : Array Oper) (n : Nat) (t : Ways4) : Bool := Region.noSelect ops && decide (n < ops.size) && Region.sinkB .any ops n && Region.chainB .any ops n && waysN4 t n && waysBT .any ops n (ops.size - n) t (Array.replicate ops.size false)

/-- A region that draws its order: the head by its ways, over the worlds that are as the one at hand below B; then the tail, in its order. -/
theorem region_waysT {P : Program} {id : Nat} {Q : Exit → Act → World → Prop} {a : Act} {w : World} {l : List Oper} (n B : Nat) (hBw : B ≤ w.heap.size) (t : Ways4) (hm : P.follows .mixedOrders = true) (hB : waysOKT l.toArray n t = true)
    (h : ∀ w', Below w.heap.size w w' → wpWaysT P l.toArray Q (fun w' => ∃ x : SubW B w, w' = x.at_) (l.drop n) t a w') : (Code.region id l.toArray true).wp P Q a w := by
  simp only [waysOKT, Bool.and_eq_true, decide_eq_true_eq] at hB
  obtain ⟨⟨⟨⟨⟨hsel, hn⟩, hs⟩, hc⟩, hN⟩, hT⟩ := hB
  have hb := below_drewN (Below.refl w.heap.size w) 1
  have hdl : (l.drop n).length = l.toArray.size - n := by simp
  have inv0 : HeadInv .any l.toArray n (Array.replicate l.toArray.size false) :=
    ⟨by simp, fun j oj _ hl => (by rw [getD_replicate_false] at hl; cases hl), fun t _ ht => getD_in (by simpa using ht) (getD_replicate_false _ _)⟩
  have H := anyHT_of_ways (md := .any) (S := fun w' => ∃ x : SubW B w, w' = x.at_) hsel hs hc hn t n _ a _ ⟨⟨_, hb.mono hBw⟩, rfl⟩ inv0 hN hT (h _ hb)
  refine wp_region_noPanic (wp_region_any hm ?_)
  have := any_of_HT (g := l.toArray.size - n) (fun listed a' w' hL => by
    have h2 := hL.2
    rw [then_noPanic] at h2
    have := wpAny_of_seq (md := .any) (Q' := NoPanic Q) (l.drop n) n listed a' w' (fun j => by simp [List.getElem?_drop]) (by rw [hdl]; exact hL.1) h2
    rwa [hdl] at this) n _ a _ H
  rwa [show n + (l.toArray.size - n) = l.toArray.size by omega] at this
end Go.Proofs.Ytgkddhncfaeidaa

namespace Go.Proofs.Ytgkddhncfaeidaa
open Go.ChangeShapes Go.WideShapes Go.ChangeAt Go.RowKit CrcM PageM
set_option linter.unusedVariables false

def joinD (a b : NodeD) : NodeD := if a.leaf = true then ⟨true, a.es ++ b.es, [], []⟩ else ⟨false, [], a.ks ++ b.ks, a.ds ++ b.ds⟩
theorem join_any (a b : NodeD) (la lb : NdL) (w : World) (hA : NodeAt w a la) (hB : NodeAt w b lb) (fE : a.es.length + b.es.length ≤ 1000000000) (fK : a.ks.length + b.ks.length ≤ 1000000000) (fD : a.ds.length + b.ds.length ≤ 1000000000) :
    Calls Try.prog 22 #[.agg #[.bool a.leaf, .slice la.EA a.es.length la.ec, .slice la.KA a.ks.length la.kc, .slice la.DA a.ds.length la.dc], .agg #[.bool b.leaf, .slice lb.EA b.es.length lb.ec, .slice lb.KA b.ks.length lb.kc, .slice lb.DA b.ds.length lb.dc]] w fun e w' => (∃ lj : NdL, e = .returned (.agg #[.bool (joinD a b).leaf, .slice lj.EA (joinD a b).es.length lj.ec, .slice lj.KA (joinD a b).ks.length lj.kc, .slice lj.DA (joinD a b).ds.length lj.dc]) ∧ NodeAt w' (joinD a b) lj) ∧ Below w.heap.size w w' := by
  obtain ⟨lfa, es, ks, ds⟩ := a
  obtain ⟨lfb, es2, ks2, ds2⟩ := b
  dsimp only at fE fK fD
  cases lfa
  · refine (join_inner lfb la.EA la.KA la.DA lb.EA lb.KA lb.DA es.length la.ec ks.length la.kc ds.length la.dc es2.length lb.ec ks2.length lb.kc ds2.length lb.dc (ks ++ ks2).length (ds ++ ds2).length (by simp) (by simp) (ks.flatMap kyC) (ks2.flatMap kyC) (ds.map kdC) (ds2.map kdC) (flatV_len lenKyC _) (flatV_len lenKyC _) (by simp) (by simp) (flat_one kyC_one _) (flat_one kyC_one _) (kdC_one _) (kdC_one _) (by simp; omega) (by simp; omega) w hA.k.cells hB.k.cells hA.d.cells hB.d.cells).mono ?_
    rintro e w' ⟨⟨K, kc, D, dc, rfl, hk, hd⟩, hb⟩
    refine ⟨⟨⟨none, 0, K, kc, D, dc⟩, rfl, ?_⟩, hb⟩
    rw [← List.flatMap_append] at hk
    rw [← List.map_append] at hd
    exact { e := fun h => absurd rfl h, k := KyAt.of_row hk, d := KdAt.of_row hd, ec := Nat.le_refl _, kc := (row_cap hk).1, dc := (row_cap hd).1, em := Nat.zero_le _, km := (row_cap hk).2, dm := (row_cap hd).2 }
  · refine (join_leaf lfb la.EA la.KA la.DA lb.EA lb.KA lb.DA es.length la.ec ks.length la.kc ds.length la.dc es2.length lb.ec ks2.length lb.kc ds2.length lb.dc (es ++ es2).length (by simp) (es.flatMap enC) (es2.flatMap enC) (flatV_len lenEnC _) (flatV_len lenEnC _) (flat_one enC_one _) (flat_one enC_one _) (by simp; omega) w hA.e.cells hB.e.cells).mono ?_
    rintro e w' ⟨⟨A, c, rfl, hk⟩, hb⟩
    refine ⟨⟨⟨A, c, none, 0, none, 0⟩, rfl, ?_⟩, hb⟩
    rw [← List.flatMap_append] at hk
    exact { e := EnAt.of_row hk, k := fun h => absurd rfl h, d := fun h => absurd rfl h, ec := (row_cap hk).1, kc := Nat.le_refl _, dc := Nat.le_refl _, em := (row_cap hk).2, km := Nat.zero_le _, dm := Nat.zero_le _ }
theorem gat {β : Type} (f : NodeD → List β) (ps : List (NodeD × NdL)) (L : List β) (h : (ps.map Prod.fst).flatMap f = L) (k : Nat) (p : NodeD × NdL) (hp : ps[k]? = some p) :
    (ps.take k).flatMap (fun p => f p.1) ++ f p.1 = (ps.take (k + 1)).flatMap (fun p => f p.1) ∧ ((ps.take k).flatMap (fun p => f p.1)).length + (f p.1).length ≤ L.length := by
  have e1 : (ps.take k).flatMap (fun p => f p.1) ++ f p.1 = (ps.take (k + 1)).flatMap (fun p => f p.1) := by
    rw [List.take_add_one, List.flatMap_append, hp]
    simp
  refine ⟨e1, ?_⟩
  rw [← List.length_append, e1, ← h, List.flatMap_map]
  have : ps.flatMap (fun p => f p.1) = (ps.take (k + 1)).flatMap (fun p => f p.1) ++ (ps.drop (k + 1)).flatMap (fun p => f p.1) := by
    rw [← List.flatMap_append, List.take_append_drop]
  rw [this, List.length_append]
  omega
theorem gat_all {β : Type} (f : NodeD → List β) (ps : List (NodeD × NdL)) (L : List β) (h : (ps.map Prod.fst).flatMap f = L) (k : Nat) (hk : k = ps.length) : (ps.take k).flatMap (fun p => f p.1) = L := by
  rw [hk, List.take_length, ← h, List.flatMap_map]
/-- What changes one block, that holds no numbers, leaves a node's rows. -/
theorem NodeAt.off {w w' : World} {g : Nat} {cs : Array Value} {T : TypeId} {n : NodeD} {l : NdL} (h : w.heap[g]? = some (.cells cs T (0, 0))) (hc : ∀ (j : Nat) (k : IntKind) (z : Int), cs[j]? ≠ some (.int k z)) (he : ∀ b, b ≠ g → w'.heap[b]? = w.heap[b]?) (hn : NodeAt w n l) : NodeAt w' n l := by
  have cell : ∀ {b o : Nat} {k : IntKind} {z : Int}, w.cell? ⟨b, o, none⟩ = some (.int k z) → w'.cell? ⟨b, o, none⟩ = some (.int k z) := fun {b o k z} hb => by
    have hne : b ≠ g := fun e => by
      subst e
      exact hc o k z (by simpa [World.cell?, h] using hb)
    exact (World.cell?_of_block (a := ⟨b, o, none⟩) (he b hne)).trans hb
  exact { hn with
    e := fun hne => by
      obtain ⟨b, off, hA, hx⟩ := hn.e hne
      refine ⟨b, off, hA, fun j e he => ?_⟩
      obtain ⟨a0, a1, a2, a3, a4, a5, a6, a7⟩ := hx j e he
      exact ⟨cell a0, cell a1, cell a2, cell a3, cell a4, cell a5, cell a6, cell a7⟩
    k := fun hne => by
      obtain ⟨b, off, hA, hx⟩ := hn.k hne
      refine ⟨b, off, hA, fun j e he => ?_⟩
      obtain ⟨a0, a1⟩ := hx j e he
      exact ⟨cell a0, cell a1⟩
    d := fun hne => by
      obtain ⟨b, off, hA, hx⟩ := hn.d hne
      exact ⟨b, off, hA, fun j e he => cell (hx j e he)⟩ }
theorem clean_leaf {n : NodeD} (h : cleanN n) (hl : n.leaf = true) : n = ⟨true, n.es, [], []⟩ := by
  obtain ⟨lf, es, ks, ds⟩ := n
  subst hl
  unfold cleanN at h
  simp only [if_true] at h
  rw [h.1, h.2]
theorem clean_inner {n : NodeD} (h : cleanN n) (hl : n.leaf = false) : n = ⟨false, [], n.ks, n.ds⟩ ∧ n.ks.length = n.ds.length := by
  obtain ⟨lf, es, ks, ds⟩ := n
  subst hl
  unfold cleanN at h
  simp only [Bool.false_eq_true, if_false] at h
  rw [h.1]
  exact ⟨rfl, h.2⟩
end Go.Proofs.Ytgkddhncfaeidaa

namespace Go.Proofs.Ytgkddhncfaeidaa
open Go.ChangeShapes Go.WideShapes Go.ChangeAt Go.RowKit CrcM PageM
set_option linter.unusedVariables false

/-- What stands in the loop that doubles: a node in its box, of so many elements at most. -/
structure JoS (w wr : World) (lf : Bool) (k : Nat) (D : NodeD) (l : NdL) : Prop where
  bel : Below w.heap.size w wr
  box : wr.heap[w.heap.size]? = some (.cells #[.bool D.leaf, .slice l.EA D.es.length l.ec, .slice l.KA D.ks.length l.kc, .slice l.DA D.ds.length l.dc] 26 (0, 0))
  at_ : NodeAt wr D l
  leaf : D.leaf = lf
  es : D.es.length ≤ 2000000 * 2 ^ k
  ks : D.ks.length ≤ 2000000 * 2 ^ k
  ds : D.ds.length ≤ 2000000 * 2 ^ k
theorem modI (a : Int) (m : Nat) (h0 : 0 < m) (hm : m ≤ 1000000) : ∃ k : Nat, k < m ∧ wrap64 ((IntKind.u64.wrap a).tmod (m : Int)) = (k : Int) := by
  have h1 : 0 ≤ IntKind.u64.wrap a := by rw [IntKind.wrap_u64]; omega
  rw [Int.tmod_eq_emod_of_nonneg h1]
  have h2 : 0 ≤ IntKind.u64.wrap a % (m : Int) := Int.emod_nonneg _ (by omega)
  have h3 : IntKind.u64.wrap a % (m : Int) < (m : Int) := Int.emod_lt_of_pos _ (by omega)
  rw [IntWalk.wrap64_in (IntKind.u64.wrap a % (m : Int)) ⟨by omega, by omega⟩]
  exact ⟨(IntKind.u64.wrap a % (m : Int)).toNat, by omega, by omega⟩
theorem nd_frozen {w : World} {g i : Nat} {cs : Array Value} {T : TypeId} (h : w.heap[g]? = some (.cells cs T (0, 0))) : w.frozen? ⟨g, i, none⟩ = false := by simp [World.frozen?, h]
theorem JoS.lt {w wr : World} {lf : Bool} {k : Nat} {D : NodeD} {l : NdL} (h : JoS w wr lf k D l) : w.heap.size < wr.heap.size := (Array.getElem?_eq_some_iff.1 h.box).1
/-- A node's rows lie in blocks of other types than its box: a store into the box leaves them. -/
theorem cell_box {w : World} {g i b o : Nat} {cs : Array Value} {T : TypeId} {u : Value} (h : w.heap[g]? = some (.cells cs T (0, 0))) (hc : ∀ (j : Nat) (k : IntKind) (z : Int), cs[j]? ≠ some (.int k z)) {k : IntKind} {z : Int} (hb : w.cell? ⟨b, o, none⟩ = some (.int k z)) : (w.setCell ⟨g, i, none⟩ u).cell? ⟨b, o, none⟩ = some (.int k z) := by
  have hne : b ≠ g := fun e => by
    subst e
    exact hc o k z (by simpa [World.cell?, h] using hb)
  exact (World.cell?_of_block (a := ⟨b, o, none⟩) (Below.heap_setCell w ⟨g, i, none⟩ u b hne)).trans hb
theorem box_ints {A B C : Value} {lf : Bool} (hA : ∃ a n c, A = .slice a n c) (hB : ∃ a n c, B = .slice a n c) (hC : ∃ a n c, C = .slice a n c) : ∀ (j : Nat) (k : IntKind) (z : Int), (#[.bool lf, A, B, C] : Array Value)[j]? ≠ some (.int k z) := by
  obtain ⟨_, _, _, rfl⟩ := hA
  obtain ⟨_, _, _, rfl⟩ := hB
  obtain ⟨_, _, _, rfl⟩ := hC
  intro j k z
  match j with
  | 0 => simp
  | 1 => simp
  | 2 => simp
  | 3 => simp
  | j + 4 => simp
theorem slice_toZ (sz : Nat) (t : TypeId) (hu : Try.prog.underlying t = some (.slice (Try.prog.elem t))) (hsz : (Try.prog.info? (Try.prog.elem t)).map (·.size) = some sz) (A : Option Addr) (n c j : Nat) (hj : j ≤ c) (w : World) :
    (Instr.sliceAt t (.slice A n c) none (some (.int .i64 (j : Int))) none).run Try.prog w = .ok (.slice A j c) w := by
  have hz : (sizeOf (Try.prog.elem t)).run Try.prog w = .ok sz w := by
    cases hq : Try.prog.info? (Try.prog.elem t) with
    | none => rw [hq] at hsz; cases hsz
    | some i => rw [hq] at hsz; simp at hsz; simp [sizeOf, typeInfo, hq, hsz]
  rw [run_sliceAt_slice (t := t) (h := hu), run_slice_h (t := t) (ht := hu) (h0 := by omega) (h2 := by omega), hz]
  have ha : ∀ a : Addr, a.add 0 = a := fun a => by unfold Addr.add; split <;> simp_all
  have hm : A.map (fun x => x.add (0 * sz)) = A := by cases A <;> simp [ha]
  simp only [Result.andThen_ok, sliced, Int.toNat_natCast, Nat.sub_zero, hm, ite_self]
theorem bel_cell {B : Nat} {a w : World} {g i : Nat} {u : Value} (h : Below B a w) (hg : B ≤ g) : Below B a (w.setCell ⟨g, i, none⟩ u) := Below.setCell (p := ⟨g, i, none⟩) h hg u
theorem node_box {w : World} {g i : Nat} {cs : Array Value} {T : TypeId} {u : Value} {n : NodeD} {l : NdL} (h : w.heap[g]? = some (.cells cs T (0, 0))) (hc : ∀ (j : Nat) (k : IntKind) (z : Int), cs[j]? ≠ some (.int k z)) (hn : NodeAt w n l) : NodeAt (w.setCell ⟨g, i, none⟩ u) n l :=
  { hn with
    e := fun hne => by
      obtain ⟨b, off, hA, hx⟩ := hn.e hne
      refine ⟨b, off, hA, fun j e he => ?_⟩
      obtain ⟨a0, a1, a2, a3, a4, a5, a6, a7⟩ := hx j e he
      exact ⟨cell_box h hc a0, cell_box h hc a1, cell_box h hc a2, cell_box h hc a3, cell_box h hc a4, cell_box h hc a5, cell_box h hc a6, cell_box h hc a7⟩
    k := fun hne => by
      obtain ⟨b, off, hA, hx⟩ := hn.k hne
      refine ⟨b, off, hA, fun j e he => ?_⟩
      obtain ⟨a0, a1⟩ := hx j e he
      exact ⟨cell_box h hc a0, cell_box h hc a1⟩
    d := fun hne => by
      obtain ⟨b, off, hA, hx⟩ := hn.d hne
      exact ⟨b, off, hA, fun j e he => cell_box h hc (hx j e he)⟩ }
theorem boxst {w : World} {g : Nat} {b A B C : Value} {T : TypeId} (h : w.heap[g]? = some (.cells #[b, A, B, C] T (0, 0))) (u1 u2 u3 : Value) :
    w.cell? ⟨g, 1, none⟩ = some A ∧ w.frozen? ⟨g, 1, none⟩ = false ∧ (w.setCell ⟨g, 1, none⟩ u1).cell? ⟨g, 2, none⟩ = some B ∧ (w.setCell ⟨g, 1, none⟩ u1).frozen? ⟨g, 2, none⟩ = false ∧
    ((w.setCell ⟨g, 1, none⟩ u1).setCell ⟨g, 2, none⟩ u2).cell? ⟨g, 3, none⟩ = some C ∧ ((w.setCell ⟨g, 1, none⟩ u1).setCell ⟨g, 2, none⟩ u2).frozen? ⟨g, 3, none⟩ = false := by
  have g1 := heap_setCell_same w g 1 _ _ u1 h
  have g2 := heap_setCell_same _ g 2 _ _ u2 g1
  exact ⟨nd_cell h 1 A rfl, nd_frozen h, nd_cell g1 2 B rfl, nd_frozen g1, nd_cell g2 3 C rfl, nd_frozen g2⟩
theorem reg4_end {w wr V : World} {lf : Bool} {k : Nat} {D D2 : NodeD} {lD : NdL} {AE AK AD : Option Addr} {cE cK cD n2E n2K n2D : Nat} {uE uK uD : List Value} (hJ : JoS w wr lf k D lD) (hb : Below wr.heap.size wr V)
    (rE : V.ownsRow wr.heap.size 51 8 (.slice AE n2E cE) n2E (uE ++ uE)) (rK : V.ownsRow wr.heap.size 48 2 (.slice AK n2K cK) n2K (uK ++ uK)) (rD : V.ownsRow wr.heap.size 3 1 (.slice AD n2D cD) n2D (uD ++ uD))
    (hU : uE = D.es.flatMap enC ∧ uK = D.ks.flatMap kyC ∧ uD = D.ds.map kdC ∧ D2 = ⟨D.leaf, D.es ++ D.es, D.ks ++ D.ks, D.ds ++ D.ds⟩) (hE : n2E = D.es.length + D.es.length ∧ D.es.length ≤ 8000000) (hK : n2K = D.ks.length + D.ks.length ∧ D.ks.length ≤ 8000000) (hD : n2D = D.ds.length + D.ds.length ∧ D.ds.length ≤ 8000000) :
    JoS w (((V.setCell ⟨w.heap.size, 1, none⟩ (.slice AE n2E cE)).setCell ⟨w.heap.size, 2, none⟩ (.slice AK n2K cK)).setCell ⟨w.heap.size, 3, none⟩ (.slice AD n2D cD)) lf (k + 1) D2 ⟨AE, cE, AK, cK, AD, cD⟩ := by
  obtain ⟨h1, h2, h3, h4⟩ := hU
  have g0 := row_stays hJ.box hb
  have g1 := heap_setCell_same V w.heap.size 1 _ _ (.slice AE n2E cE) g0
  have g2 := heap_setCell_same _ w.heap.size 2 _ _ (.slice AK n2K cK) g1
  have g3 := heap_setCell_same _ w.heap.size 3 _ _ (.slice AD n2D cD) g2
  have eE : (D.es ++ D.es).length = n2E := by rw [List.length_append]; exact hE.1.symm
  have eK : (D.ks ++ D.ks).length = n2K := by rw [List.length_append]; exact hK.1.symm
  have eD : (D.ds ++ D.ds).length = n2D := by rw [List.length_append]; exact hD.1.symm
  have hn : NodeAt V D2 ⟨AE, cE, AK, cK, AD, cD⟩ := by
    subst h4
    rw [h1, ← List.flatMap_append] at rE
    rw [h2, ← List.flatMap_append] at rK
    rw [h3, ← List.map_append] at rD
    exact { e := EnAt.of_row rE, k := KyAt.of_row rK, d := KdAt.of_row rD, ec := by show (D.es ++ D.es).length ≤ cE; rw [eE]; exact (row_cap rE).1, kc := by show (D.ks ++ D.ks).length ≤ cK; rw [eK]; exact (row_cap rK).1, dc := by show (D.ds ++ D.ds).length ≤ cD; rw [eD]; exact (row_cap rD).1, em := (row_cap rE).2, km := (row_cap rK).2, dm := (row_cap rD).2 }
  have hi0 := box_ints (lf := D.leaf) ⟨lD.EA, D.es.length, lD.ec, rfl⟩ ⟨lD.KA, D.ks.length, lD.kc, rfl⟩ ⟨lD.DA, D.ds.length, lD.dc, rfl⟩
  have hi1 := box_ints (lf := D.leaf) ⟨AE, n2E, cE, rfl⟩ ⟨lD.KA, D.ks.length, lD.kc, rfl⟩ ⟨lD.DA, D.ds.length, lD.dc, rfl⟩
  have hi2 := box_ints (lf := D.leaf) ⟨AE, n2E, cE, rfl⟩ ⟨AK, n2K, cK, rfl⟩ ⟨lD.DA, D.ds.length, lD.dc, rfl⟩
  have hn3 := node_box (i := 3) (u := .slice AD n2D cD) g2 hi2 (node_box (i := 2) (u := .slice AK n2K cK) g1 hi1 (node_box (i := 1) (u := .slice AE n2E cE) g0 hi0 hn))
  refine { bel := bel_cell (bel_cell (bel_cell (hJ.bel.trans (hb.mono hJ.bel.size)) (Nat.le_refl _)) (Nat.le_refl _)) (Nat.le_refl _), box := ?_, at_ := hn3, leaf := by rw [h4]; exact hJ.leaf, es := ?_, ks := ?_, ds := ?_ }
  · rw [h4]
    dsimp only
    rw [eE, eK, eD]
    exact g3.trans rfl
  · rw [h4]
    have := hJ.es
    show (D.es ++ D.es).length ≤ _
    rw [List.length_append, Nat.pow_succ]
    omega
  · rw [h4]
    have := hJ.ks
    show (D.ks ++ D.ks).length ≤ _
    rw [List.length_append, Nat.pow_succ]
    omega
  · rw [h4]
    have := hJ.ds
    show (D.ds ++ D.ds).length ≤ _
    rw [List.length_append, Nat.pow_succ]
    omega
theorem appE1 {ops : Array Oper} {rest : List Oper} {o : Oper} {a : Act} {Q : Exit → Act → World → Prop} {w wr : World} {us : List Value} {A : Option Addr} {c n n2 : Nat} (hgd : o.guard = none) (s x : Operand) (ho : o.op = .call { callee := .builtin .append, args := #[s, x], argTypes := #[22, 22] })
    (v : Value) (hs : a.eval s = v) (R : w.ownsRow wr.heap.size 51 8 v 0 []) (hx : a.eval x = .slice A n c) (H : CellsAt wr A us) (B : Below wr.heap.size wr w) (L : us.length = n * 8) (O : ∀ u ∈ us, u.oneCell' = true) (F : n2 = n + n ∧ n ≤ 8000000)
    (h : ∀ A' c' w', w'.ownsRow wr.heap.size 51 8 (.slice A' n c') n us → w.grownBy w' v.ownBlock → wpList Try.prog ops Q rest (a.put o.dst (.slice A' n c')) w') : wpList Try.prog ops Q (o :: rest) a w :=
  wpList_append_row hgd s x 22 ho Try.underlying22 (.agg #[.int .i64 0, .int .i64 0, .int .i64 0, .int .i64 0, .int .i64 0, .int .i64 0, .int .i64 0, .int .u32 0]) 64 infoEnt_from_any (by rfl) (by decide) v hs R A c n hx L (H.below B) O (by omega) (by unfold maxLen; omega) B.size n (by omega) us (by simp) h
theorem appE2 {ops : Array Oper} {rest : List Oper} {o : Oper} {a : Act} {Q : Exit → Act → World → Prop} {w wr : World} {us : List Value} {A : Option Addr} {c n n2 : Nat} (hgd : o.guard = none) (s x : Operand) (ho : o.op = .call { callee := .builtin .append, args := #[s, x], argTypes := #[22, 22] })
    (v : Value) (hs : a.eval s = v) (R : w.ownsRow wr.heap.size 51 8 v n us) (hx : a.eval x = .slice A n c) (H : CellsAt wr A us) (B : Below wr.heap.size wr w) (L : us.length = n * 8) (O : ∀ u ∈ us, u.oneCell' = true) (F : n2 = n + n ∧ n ≤ 8000000)
    (h : ∀ A' c' w', w'.ownsRow wr.heap.size 51 8 (.slice A' n2 c') n2 (us ++ us) → w.grownBy w' v.ownBlock → wpList Try.prog ops Q rest (a.put o.dst (.slice A' n2 c')) w') : wpList Try.prog ops Q (o :: rest) a w :=
  wpList_append_row hgd s x 22 ho Try.underlying22 (.agg #[.int .i64 0, .int .i64 0, .int .i64 0, .int .i64 0, .int .i64 0, .int .i64 0, .int .i64 0, .int .u32 0]) 64 infoEnt_from_any (by rfl) (by decide) v hs R A c n hx L (H.below B) O (by omega) (by unfold maxLen; omega) B.size n2 (by omega) (us ++ us) (by simp) h
theorem appK1 {ops : Array Oper} {rest : List Oper} {o : Oper} {a : Act} {Q : Exit → Act → World → Prop} {w wr : World} {us : List Value} {A : Option Addr} {c n n2 : Nat} (hgd : o.guard = none) (s x : Operand) (ho : o.op = .call { callee := .builtin .append, args := #[s, x], argTypes := #[23, 23] })
    (v : Value) (hs : a.eval s = v) (R : w.ownsRow wr.heap.size 48 2 v 0 []) (hx : a.eval x = .slice A n c) (H : CellsAt wr A us) (B : Below wr.heap.size wr w) (L : us.length = n * 2) (O : ∀ u ∈ us, u.oneCell' = true) (F : n2 = n + n ∧ n ≤ 8000000)
    (h : ∀ A' c' w', w'.ownsRow wr.heap.size 48 2 (.slice A' n c') n us → w.grownBy w' v.ownBlock → wpList Try.prog ops Q rest (a.put o.dst (.slice A' n c')) w') : wpList Try.prog ops Q (o :: rest) a w :=
  wpList_append_row hgd s x 23 ho Try.underlying23 (.agg #[.int .i64 0, .int .i64 0]) 16 infoKey_from_any (by rfl) (by decide) v hs R A c n hx L (H.below B) O (by omega) (by unfold maxLen; omega) B.size n (by omega) us (by simp) h
theorem appK2 {ops : Array Oper} {rest : List Oper} {o : Oper} {a : Act} {Q : Exit → Act → World → Prop} {w wr : World} {us : List Value} {A : Option Addr} {c n n2 : Nat} (hgd : o.guard = none) (s x : Operand) (ho : o.op = .call { callee := .builtin .append, args := #[s, x], argTypes := #[23, 23] })
    (v : Value) (hs : a.eval s = v) (R : w.ownsRow wr.heap.size 48 2 v n us) (hx : a.eval x = .slice A n c) (H : CellsAt wr A us) (B : Below wr.heap.size wr w) (L : us.length = n * 2) (O : ∀ u ∈ us, u.oneCell' = true) (F : n2 = n + n ∧ n ≤ 8000000)
    (h : ∀ A' c' w', w'.ownsRow wr.heap.size 48 2 (.slice A' n2 c') n2 (us ++ us) → w.grownBy w' v.ownBlock → wpList Try.prog ops Q rest (a.put o.dst (.slice A' n2 c')) w') : wpList Try.prog ops Q (o :: rest) a w :=
  wpList_append_row hgd s x 23 ho Try.underlying23 (.agg #[.int .i64 0, .int .i64 0]) 16 infoKey_from_any (by rfl) (by decide) v hs R A c n hx L (H.below B) O (by omega) (by unfold maxLen; omega) B.size n2 (by omega) (us ++ us) (by simp) h
theorem appD1 {ops : Array Oper} {rest : List Oper} {o : Oper} {a : Act} {Q : Exit → Act → World → Prop} {w wr : World} {us : List Value} {A : Option Addr} {c n n2 : Nat} (hgd : o.guard = none) (s x : Operand) (ho : o.op = .call { callee := .builtin .append, args := #[s, x], argTypes := #[24, 24] })
    (v : Value) (hs : a.eval s = v) (R : w.ownsRow wr.heap.size 3 1 v 0 []) (hx : a.eval x = .slice A n c) (H : CellsAt wr A us) (B : Below wr.heap.size wr w) (L : us.length = n * 1) (O : ∀ u ∈ us, u.oneCell' = true) (F : n2 = n + n ∧ n ≤ 8000000)
    (h : ∀ A' c' w', w'.ownsRow wr.heap.size 3 1 (.slice A' n c') n us → w.grownBy w' v.ownBlock → wpList Try.prog ops Q rest (a.put o.dst (.slice A' n c')) w') : wpList Try.prog ops Q (o :: rest) a w :=
  wpList_append_row hgd s x 24 ho Try.underlying24 (.int .i64 0) 8 infoIntN (by rfl) (by decide) v hs R A c n hx L (H.below B) O (by omega) (by unfold maxLen; omega) B.size n (by omega) us (by simp) h
theorem appD2 {ops : Array Oper} {rest : List Oper} {o : Oper} {a : Act} {Q : Exit → Act → World → Prop} {w wr : World} {us : List Value} {A : Option Addr} {c n n2 : Nat} (hgd : o.guard = none) (s x : Operand) (ho : o.op = .call { callee := .builtin .append, args := #[s, x], argTypes := #[24, 24] })
    (v : Value) (hs : a.eval s = v) (R : w.ownsRow wr.heap.size 3 1 v n us) (hx : a.eval x = .slice A n c) (H : CellsAt wr A us) (B : Below wr.heap.size wr w) (L : us.length = n * 1) (O : ∀ u ∈ us, u.oneCell' = true) (F : n2 = n + n ∧ n ≤ 8000000)
    (h : ∀ A' c' w', w'.ownsRow wr.heap.size 3 1 (.slice A' n2 c') n2 (us ++ us) → w.grownBy w' v.ownBlock → wpList Try.prog ops Q rest (a.put o.dst (.slice A' n2 c')) w') : wpList Try.prog ops Q (o :: rest) a w :=
  wpList_append_row hgd s x 24 ho Try.underlying24 (.int .i64 0) 8 infoIntN (by rfl) (by decide) v hs R A c n hx L (H.below B) O (by omega) (by unfold maxLen; omega) B.size n2 (by omega) (us ++ us) (by simp) h
theorem alloc_bel {w x : World} {o : Obj} (e : x = w.alloc o) : Below w.heap.size w x := by rw [e]; exact (Below.refl _ _).alloc (Nat.le_refl _) _
theorem empty_row (wr w : World) (E : TypeId) (sz : Nat) (x : World) (e : x = w.alloc (.cells #[] E)) (hb : Below wr.heap.size wr w) : x.ownsRow wr.heap.size E sz (.slice (some ⟨w.heap.size, 0, none⟩) 0 0) 0 [] := by
  rw [e]
  exact ⟨by simp, .inr ⟨w.heap.size, 0, #[], rfl, hb.size, heap_alloc_new _ _, Nat.le_refl _, by unfold maxLen; omega, by simp, by simp⟩⟩
theorem grown_bel {wr w x : World} {E : TypeId} {sz m : Nat} {v : Value} {us : List Value} (hb : Below wr.heap.size wr w) (R : w.ownsRow wr.heap.size E sz v m us) (g : w.grownBy x v.ownBlock) : Below wr.heap.size wr x := hb.grown g hb.size (fun k hk => (World.ownsRow.lt R k hk).1)
end Go.Proofs.Ytgkddhncfaeidaa

namespace Go.Proofs.Ytgkddhncfaeidaa
open Go.ChangeShapes Go.WideShapes Go.ChangeAt Go.RowKit CrcM PageM
set_option linter.unusedVariables false

def reg4ops : List Oper := [
{ dst := some 19, op := Op.buildSlice 22 0 #[], type := 22, pos := "law.go:167", after := #[], guard := none },
{ dst := some 20, op := Op.fieldAddr 26 (Operand.tmp 2) 1, type := 0, pos := "law.go:167", after := #[], guard := none },
{ dst := some 21, op := Op.load 22 (Operand.tmp 20), type := 22, pos := "law.go:167", after := #[{ on := 1, ground := Ground.data }], guard := none },
{ dst := some 22, op := Op.call { callee := Callee.builtin Builtin.append, args := #[Operand.tmp 19, Operand.tmp 21], argTypes := #[22, 22] }, type := 22, pos := "law.go:167", after := #[{ on := 0, ground := Ground.data }, { on := 2, ground := Ground.data }], guard := none },
{ dst := some 23, op := Op.fieldAddr 26 (Operand.tmp 2) 1, type := 0, pos := "law.go:167", after := #[], guard := none },
{ dst := some 24, op := Op.load 22 (Operand.tmp 23), type := 22, pos := "law.go:167", after := #[{ on := 4, ground := Ground.data }], guard := none },
{ dst := some 25, op := Op.call { callee := Callee.builtin Builtin.append, args := #[Operand.tmp 22, Operand.tmp 24], argTypes := #[22, 22] }, type := 22, pos := "law.go:167", after := #[{ on := 3, ground := Ground.data }, { on := 5, ground := Ground.data }, { on := 3, ground := Ground.chain }], guard := none },
{ dst := some 26, op := Op.buildSlice 23 0 #[], type := 23, pos := "law.go:167", after := #[], guard := none },
{ dst := some 27, op := Op.fieldAddr 26 (Operand.tmp 2) 2, type := 0, pos := "law.go:167", after := #[], guard := none },
{ dst := some 28, op := Op.load 23 (Operand.tmp 27), type := 23, pos := "law.go:167", after := #[{ on := 8, ground := Ground.data }], guard := none },
{ dst := some 29, op := Op.call { callee := Callee.builtin Builtin.append, args := #[Operand.tmp 26, Operand.tmp 28], argTypes := #[23, 23] }, type := 23, pos := "law.go:167", after := #[{ on := 7, ground := Ground.data }, { on := 9, ground := Ground.data }, { on := 6, ground := Ground.chain }], guard := none },
{ dst := some 30, op := Op.fieldAddr 26 (Operand.tmp 2) 2, type := 0, pos := "law.go:167", after := #[], guard := none },
{ dst := some 31, op := Op.load 23 (Operand.tmp 30), type := 23, pos := "law.go:167", after := #[{ on := 11, ground := Ground.data }], guard := none },
{ dst := some 32, op := Op.call { callee := Callee.builtin Builtin.append, args := #[Operand.tmp 29, Operand.tmp 31], argTypes := #[23, 23] }, type := 23, pos := "law.go:167", after := #[{ on := 10, ground := Ground.data }, { on := 12, ground := Ground.data }, { on := 10, ground := Ground.chain }], guard := none },
{ dst := some 33, op := Op.buildSlice 24 0 #[], type := 24, pos := "law.go:167", after := #[], guard := none },
{ dst := some 34, op := Op.fieldAddr 26 (Operand.tmp 2) 3, type := 0, pos := "law.go:167", after := #[], guard := none },
{ dst := some 35, op := Op.load 24 (Operand.tmp 34), type := 24, pos := "law.go:167", after := #[{ on := 15, ground := Ground.data }], guard := none },
{ dst := some 36, op := Op.call { callee := Callee.builtin Builtin.append, args := #[Operand.tmp 33, Operand.tmp 35], argTypes := #[24, 24] }, type := 24, pos := "law.go:167", after := #[{ on := 14, ground := Ground.data }, { on := 16, ground := Ground.data }, { on := 13, ground := Ground.chain }], guard := none },
{ dst := some 37, op := Op.fieldAddr 26 (Operand.tmp 2) 3, type := 0, pos := "law.go:167", after := #[], guard := none },
{ dst := some 38, op := Op.load 24 (Operand.tmp 37), type := 24, pos := "law.go:167", after := #[{ on := 18, ground := Ground.data }], guard := none },
{ dst := some 39, op := Op.call { callee := Callee.builtin Builtin.append, args := #[Operand.tmp 36, Operand.tmp 38], argTypes := #[24, 24] }, type := 24, pos := "law.go:167", after := #[{ on := 17, ground := Ground.data }, { on := 19, ground := Ground.data }, { on := 17, ground := Ground.chain }], guard := none },
{ dst := some 40, op := Op.fieldAddr 26 (Operand.tmp 2) 1, type := 0, pos := "law.go:167", after := #[{ on := 0, ground := Ground.phase }, { on := 1, ground := Ground.phase }, { on := 2, ground := Ground.phase }, { on := 3, ground := Ground.phase }, { on := 4, ground := Ground.phase }, { on := 5, ground := Ground.phase }, { on := 6, ground := Ground.phase }, { on := 7, ground := Ground.textOnly Departure.lateStores }, { on := 8, ground := Ground.phase }, { on := 9, ground := Ground.phase }, { on := 10, ground := Ground.textOnly Departure.lateStoresUnsure }, { on := 11, ground := Ground.phase }, { on := 12, ground := Ground.phase }, { on := 13, ground := Ground.textOnly Departure.lateStoresUnsure }, { on := 14, ground := Ground.textOnly Departure.lateStores }, { on := 15, ground := Ground.phase }, { on := 16, ground := Ground.phase }, { on := 17, ground := Ground.textOnly Departure.lateStoresUnsure }, { on := 18, ground := Ground.phase }, { on := 19, ground := Ground.phase }, { on := 20, ground := Ground.textOnly Departure.lateStoresUnsure }], guard := none },
{ dst := none, op := Op.store 22 (Operand.tmp 40) (Operand.tmp 25), type := 0, pos := "law.go:167", after := #[{ on := 21, ground := Ground.data }, { on := 6, ground := Ground.data }, { on := 20, ground := Ground.chain }, { on := 0, ground := Ground.phase }, { on := 1, ground := Ground.phase }, { on := 2, ground := Ground.phase }, { on := 3, ground := Ground.phase }, { on := 4, ground := Ground.phase }, { on := 5, ground := Ground.phase }, { on := 6, ground := Ground.phase }, { on := 7, ground := Ground.textOnly Departure.lateStores }, { on := 8, ground := Ground.phase }, { on := 9, ground := Ground.phase }, { on := 10, ground := Ground.textOnly Departure.lateStoresUnsure }, { on := 11, ground := Ground.phase }, { on := 12, ground := Ground.phase }, { on := 13, ground := Ground.textOnly Departure.lateStoresUnsure }, { on := 14, ground := Ground.textOnly Departure.lateStores }, { on := 15, ground := Ground.phase }, { on := 16, ground := Ground.phase }, { on := 17, ground := Ground.textOnly Departure.lateStoresUnsure }, { on := 18, ground := Ground.phase }, { on := 19, ground := Ground.phase }, { on := 20, ground := Ground.textOnly Departure.lateStoresUnsure }], guard := none },
{ dst := some 41, op := Op.fieldAddr 26 (Operand.tmp 2) 2, type := 0, pos := "law.go:167", after := #[{ on := 0, ground := Ground.phase }, { on := 1, ground := Ground.phase }, { on := 2, ground := Ground.phase }, { on := 3, ground := Ground.phase }, { on := 4, ground := Ground.phase }, { on := 5, ground := Ground.phase }, { on := 6, ground := Ground.phase }, { on := 7, ground := Ground.phase }, { on := 8, ground := Ground.phase }, { on := 9, ground := Ground.phase }, { on := 10, ground := Ground.phase }, { on := 11, ground := Ground.phase }, { on := 12, ground := Ground.phase }, { on := 13, ground := Ground.phase }, { on := 14, ground := Ground.textOnly Departure.lateStores }, { on := 15, ground := Ground.phase }, { on := 16, ground := Ground.phase }, { on := 17, ground := Ground.textOnly Departure.lateStoresUnsure }, { on := 18, ground := Ground.phase }, { on := 19, ground := Ground.phase }, { on := 20, ground := Ground.textOnly Departure.lateStoresUnsure }, { on := 21, ground := Ground.phase }, { on := 22, ground := Ground.phase }], guard := none },
{ dst := none, op := Op.store 23 (Operand.tmp 41) (Operand.tmp 32), type := 0, pos := "law.go:167", after := #[{ on := 23, ground := Ground.data }, { on := 13, ground := Ground.data }, { on := 22, ground := Ground.chain }, { on := 0, ground := Ground.phase }, { on := 1, ground := Ground.phase }, { on := 2, ground := Ground.phase }, { on := 3, ground := Ground.phase }, { on := 4, ground := Ground.phase }, { on := 5, ground := Ground.phase }, { on := 6, ground := Ground.phase }, { on := 7, ground := Ground.phase }, { on := 8, ground := Ground.phase }, { on := 9, ground := Ground.phase }, { on := 10, ground := Ground.phase }, { on := 11, ground := Ground.phase }, { on := 12, ground := Ground.phase }, { on := 13, ground := Ground.phase }, { on := 14, ground := Ground.textOnly Departure.lateStores }, { on := 15, ground := Ground.phase }, { on := 16, ground := Ground.phase }, { on := 17, ground := Ground.textOnly Departure.lateStoresUnsure }, { on := 18, ground := Ground.phase }, { on := 19, ground := Ground.phase }, { on := 20, ground := Ground.textOnly Departure.lateStoresUnsure }, { on := 21, ground := Ground.phase }, { on := 22, ground := Ground.phase }], guard := none },
{ dst := some 42, op := Op.fieldAddr 26 (Operand.tmp 2) 3, type := 0, pos := "law.go:167", after := #[{ on := 0, ground := Ground.phase }, { on := 1, ground := Ground.phase }, { on := 2, ground := Ground.phase }, { on := 3, ground := Ground.phase }, { on := 4, ground := Ground.phase }, { on := 5, ground := Ground.phase }, { on := 6, ground := Ground.phase }, { on := 7, ground := Ground.phase }, { on := 8, ground := Ground.phase }, { on := 9, ground := Ground.phase }, { on := 10, ground := Ground.phase }, { on := 11, ground := Ground.phase }, { on := 12, ground := Ground.phase }, { on := 13, ground := Ground.phase }, { on := 14, ground := Ground.phase }, { on := 15, ground := Ground.phase }, { on := 16, ground := Ground.phase }, { on := 17, ground := Ground.phase }, { on := 18, ground := Ground.phase }, { on := 19, ground := Ground.phase }, { on := 20, ground := Ground.phase }, { on := 21, ground := Ground.phase }, { on := 22, ground := Ground.phase }, { on := 23, ground := Ground.phase }, { on := 24, ground := Ground.phase }], guard := none },
{ dst := none, op := Op.store 24 (Operand.tmp 42) (Operand.tmp 39), type := 0, pos := "law.go:167", after := #[{ on := 25, ground := Ground.data }, { on := 20, ground := Ground.data }, { on := 24, ground := Ground.chain }, { on := 0, ground := Ground.phase }, { on := 1, ground := Ground.phase }, { on := 2, ground := Ground.phase }, { on := 3, ground := Ground.phase }, { on := 4, ground := Ground.phase }, { on := 5, ground := Ground.phase }, { on := 6, ground := Ground.phase }, { on := 7, ground := Ground.phase }, { on := 8, ground := Ground.phase }, { on := 9, ground := Ground.phase }, { on := 10, ground := Ground.phase }, { on := 11, ground := Ground.phase }, { on := 12, ground := Ground.phase }, { on := 13, ground := Ground.phase }, { on := 14, ground := Ground.phase }, { on := 15, ground := Ground.phase }, { on := 16, ground := Ground.phase }, { on := 17, ground := Ground.phase }, { on := 18, ground := Ground.phase }, { on := 19, ground := Ground.phase }, { on := 20, ground := Ground.phase }, { on := 21, ground := Ground.phase }, { on := 22, ground := Ground.phase }, { on := 23, ground := Ground.phase }, { on := 24, ground := Ground.phase }], guard := none }]

set_option maxRecDepth 100000 in
theorem reg4_ok : waysOKT reg4ops.toArray 22 (.three [1, 2, 4, 5, 8, 9, 11, 12, 15, 16, 18, 19] 0 (.three [] 3 (.three [] 6 (.two [21] 7 (.two [] 10 (.two [] 13 (.one [] 14 (.one [] 17 (.one [] 20 (.done [])))) 14 (.one [] 13 (.one [] 17 (.one [] 20 (.done []))))) 14 (.one [] 10 (.one [] 13 (.one [] 17 (.one [] 20 (.done [])))))) 14 (.one [] 7 (.one [] 10 (.one [] 13 (.one [] 17 (.one [] 20 (.done []))))))) 7 (.two [] 6 (.two [21] 10 (.two [] 13 (.one [] 14 (.one [] 17 (.one [] 20 (.done [])))) 14 (.one [] 13 (.one [] 17 (.one [] 20 (.done []))))) 14 (.one [] 10 (.one [] 13 (.one [] 17 (.one [] 20 (.done [])))))) 14 (.one [] 6 (.one [21] 10 (.one [] 13 (.one [] 17 (.one [] 20 (.done []))))))) 14 (.two [] 6 (.one [21] 7 (.one [] 10 (.one [] 13 (.one [] 17 (.one [] 20 (.done [])))))) 7 (.one [] 6 (.one [21] 10 (.one [] 13 (.one [] 17 (.one [] 20 (.done [])))))))) 7 (.two [] 3 (.two [] 6 (.two [21] 10 (.two [] 13 (.one [] 14 (.one [] 17 (.one [] 20 (.done [])))) 14 (.one [] 13 (.one [] 17 (.one [] 20 (.done []))))) 14 (.one [] 10 (.one [] 13 (.one [] 17 (.one [] 20 (.done [])))))) 14 (.one [] 6 (.one [21] 10 (.one [] 13 (.one [] 17 (.one [] 20 (.done []))))))) 14 (.one [] 3 (.one [] 6 (.one [21] 10 (.one [] 13 (.one [] 17 (.one [] 20 (.done [])))))))) 14 (.two [] 3 (.two [] 6 (.one [21] 7 (.one [] 10 (.one [] 13 (.one [] 17 (.one [] 20 (.done [])))))) 7 (.one [] 6 (.one [21] 10 (.one [] 13 (.one [] 17 (.one [] 20 (.done []))))))) 7 (.one [] 3 (.one [] 6 (.one [21] 10 (.one [] 13 (.one [] 17 (.one [] 20 (.done []))))))))) 7 (.two [] 0 (.two [] 3 (.two [] 6 (.two [21] 10 (.two [] 13 (.one [] 14 (.one [] 17 (.one [] 20 (.done [])))) 14 (.one [] 13 (.one [] 17 (.one [] 20 (.done []))))) 14 (.one [] 10 (.one [] 13 (.one [] 17 (.one [] 20 (.done [])))))) 14 (.one [] 6 (.one [21] 10 (.one [] 13 (.one [] 17 (.one [] 20 (.done []))))))) 14 (.one [] 3 (.one [] 6 (.one [21] 10 (.one [] 13 (.one [] 17 (.one [] 20 (.done [])))))))) 14 (.one [] 0 (.one [] 3 (.one [] 6 (.one [21] 10 (.one [] 13 (.one [] 17 (.one [] 20 (.done []))))))))) 14 (.two [] 0 (.two [] 3 (.two [] 6 (.one [21] 7 (.one [] 10 (.one [] 13 (.one [] 17 (.one [] 20 (.done [])))))) 7 (.one [] 6 (.one [21] 10 (.one [] 13 (.one [] 17 (.one [] 20 (.done []))))))) 7 (.one [] 3 (.one [] 6 (.one [21] 10 (.one [] 13 (.one [] 17 (.one [] 20 (.done [])))))))) 7 (.one [] 0 (.one [] 3 (.one [] 6 (.one [21] 10 (.one [] 13 (.one [] 17 (.one [] 20 (.done [])))))))))) = true := by kernel_rfl

set_option maxRecDepth 100000 in
set_option maxHeartbeats 4000000 in
theorem st_0_3_6_7_10_13_14_17_20 {w wr xx : World} {lf : Bool} {k : Nat} {D D2 : NodeD} {lD : NdL} {uE uK uD : List Value} {n2E n2K n2D : Nat} {Q : Exit → Act → World → Prop} {v0 v1 v3 v4 v5 v6 v7 v8 v9 v10 v11 v12 v13 v14 v15 v16 v17 v18 v19 v22 v26 v29 v33 v36 v41 v42 v43 v44 v45 v46 v47 v48 v49 v50 v51 v52 v53 v54 v55 v56 v57 v58 v59 v60 v61 v62 v63 v64 v65 v66 v67 v68 v69 v70 v71 v72 v73 v74 v75 v76 v77 v78 v79 v80 v81 v82 v83 v84 v85 v86 v87 v88 v89 v90 v91 v92 v93 v94 v95 v96 v97 v98 v99 v100 v101 v102 v103 v104 v105 v106 v107 v108 v109 v110 v111 v112 v113 v114 v115 v116 v117 v118 v119 v120 v121 v122 v123 v124 v125 v126 v127 v128 v129 v130 v131 v132 v133 v134 : Value} {aE : Option Addr} {cE : Nat} {aK : Option Addr} {cK : Nat} {aD : Option Addr} {cD : Nat} (HJ : Hid (JoS w wr lf k D lD)) (HL1 : Hid (w.heap.size + 1 ≤ wr.heap.size)) (FE : Hid (n2E = D.es.length + D.es.length ∧ D.es.length ≤ 8000000)) (FK : Hid (n2K = D.ks.length + D.ks.length ∧ D.ks.length ≤ 8000000)) (FD : Hid (n2D = D.ds.length + D.ds.length ∧ D.ds.length ≤ 8000000)) (HE : Hid (CellsAt wr lD.EA uE)) (HK : Hid (CellsAt wr lD.KA uK)) (HD : Hid (CellsAt wr lD.DA uD)) (LE : Hid (uE.length = D.es.length * 8)) (LK : Hid (uK.length = D.ks.length * 2)) (LD : Hid (uD.length = D.ds.length * 1)) (OE : Hid (∀ u ∈ uE, u.oneCell' = true)) (OK : Hid (∀ u ∈ uK, u.oneCell' = true)) (OD : Hid (∀ u ∈ uD, u.oneCell' = true)) (HU : Hid (uE = D.es.flatMap enC ∧ uK = D.ks.flatMap kyC ∧ uD = D.ds.map kdC ∧ D2 = ⟨D.leaf, D.es ++ D.es, D.ks ++ D.ks, D.ds ++ D.ds⟩)) (HB : Hid (Below wr.heap.size wr xx)) (RE : Hid (xx.ownsRow wr.heap.size 51 8 (.slice aE n2E cE) n2E (uE ++ uE))) (RK : Hid (xx.ownsRow wr.heap.size 48 2 (.slice aK n2K cK) n2K (uK ++ uK))) (RD : Hid (xx.ownsRow wr.heap.size 3 1 (.slice aD n2D cD) n2D (uD ++ uD))) (hQ : Hid (∀ b19 b20 b21 b22 b23 b24 b25 b26 b27 b28 b29 b30 b31 b32 b33 b34 b35 b36 b37 b38 b39 b40 b41 b42 : Value, ∀ x2 : World, Hid (∃ l2, JoS w x2 lf (k + 1) D2 l2) → Q .normal { tmps := #[v0, v1, .pointer (some ⟨w.heap.size, 0, none⟩), v3, v4, v5, v6, v7, v8, v9, v10, v11, v12, v13, v14, v15, v16, v17, v18, b19, b20, b21, b22, b23, b24, b25, b26, b27, b28, b29, b30, b31, b32, b33, b34, b35, b36, b37, b38, b39, b40, b41, b42, v43, v44, v45, v46, v47, v48, v49, v50, v51, v52, v53, v54, v55, v56, v57, v58, v59, v60, v61, v62, v63, v64, v65, v66, v67, v68, v69, v70, v71, v72, v73, v74, v75, v76, v77, v78, v79, v80, v81, v82, v83, v84, v85, v86, v87, v88, v89, v90, v91, v92, v93, v94, v95, v96, v97, v98, v99, v100, v101, v102, v103, v104, v105, v106, v107, v108, v109, v110, v111, v112, v113, v114, v115, v116, v117, v118, v119, v120, v121, v122, v123, v124, v125, v126, v127, v128, v129, v130, v131, v132, v133, v134], defers := [] } x2)) :
    wpWaysT Try.prog reg4ops.toArray Q (fun w' => ∃ y : SubW (w.heap.size + 1) wr, w' = y.at_) (reg4ops.drop 22) (.done []) { tmps := #[v0, v1, .pointer (some ⟨w.heap.size, 0, none⟩), v3, v4, v5, v6, v7, v8, v9, v10, v11, v12, v13, v14, v15, v16, v17, v18, v19, .pointer (some ⟨w.heap.size, 1, none⟩), .slice lD.EA D.es.length lD.ec, v22, .pointer (some ⟨w.heap.size, 1, none⟩), .slice lD.EA D.es.length lD.ec, .slice aE n2E cE, v26, .pointer (some ⟨w.heap.size, 2, none⟩), .slice lD.KA D.ks.length lD.kc, v29, .pointer (some ⟨w.heap.size, 2, none⟩), .slice lD.KA D.ks.length lD.kc, .slice aK n2K cK, v33, .pointer (some ⟨w.heap.size, 3, none⟩), .slice lD.DA D.ds.length lD.dc, v36, .pointer (some ⟨w.heap.size, 3, none⟩), .slice lD.DA D.ds.length lD.dc, .slice aD n2D cD, .pointer (some ⟨w.heap.size, 1, none⟩), v41, v42, v43, v44, v45, v46, v47, v48, v49, v50, v51, v52, v53, v54, v55, v56, v57, v58, v59, v60, v61, v62, v63, v64, v65, v66, v67, v68, v69, v70, v71, v72, v73, v74, v75, v76, v77, v78, v79, v80, v81, v82, v83, v84, v85, v86, v87, v88, v89, v90, v91, v92, v93, v94, v95, v96, v97, v98, v99, v100, v101, v102, v103, v104, v105, v106, v107, v108, v109, v110, v111, v112, v113, v114, v115, v116, v117, v118, v119, v120, v121, v122, v123, v124, v125, v126, v127, v128, v129, v130, v131, v132, v133, v134], defers := [] } xx := by
  rw [wpWaysT_done]
  simp only [reg4ops, List.map_nil, List.drop_succ_cons, List.drop_zero]
  refine wpQuiet_nil ?_
  obtain ⟨z1, f1, z2, f2, z3, f3⟩ := boxst (row_stays HJ.out.box HB.out) (.slice aE n2E cE) (.slice aK n2K cK) (.slice aD n2D cD)
  have HEND := Lib.hid (reg4_end HJ.out HB.out RE.out RK.out RD.out HU.out FE.out FK.out FD.out)
  go_wp2_with fail
  exact hQ.out _ _ _ _ _ _ _ _ _ _ _ _ _ _ _ _ _ _ _ _ _ _ _ _ _ (Lib.hid ⟨_, HEND.out⟩)

set_option maxRecDepth 100000 in
set_option maxHeartbeats 4000000 in
theorem st_0_3_6_7_10_13_14_17 {w wr xx : World} {lf : Bool} {k : Nat} {D D2 : NodeD} {lD : NdL} {uE uK uD : List Value} {n2E n2K n2D : Nat} {Q : Exit → Act → World → Prop} {v0 v1 v3 v4 v5 v6 v7 v8 v9 v10 v11 v12 v13 v14 v15 v16 v17 v18 v19 v22 v26 v29 v33 v36 v39 v41 v42 v43 v44 v45 v46 v47 v48 v49 v50 v51 v52 v53 v54 v55 v56 v57 v58 v59 v60 v61 v62 v63 v64 v65 v66 v67 v68 v69 v70 v71 v72 v73 v74 v75 v76 v77 v78 v79 v80 v81 v82 v83 v84 v85 v86 v87 v88 v89 v90 v91 v92 v93 v94 v95 v96 v97 v98 v99 v100 v101 v102 v103 v104 v105 v106 v107 v108 v109 v110 v111 v112 v113 v114 v115 v116 v117 v118 v119 v120 v121 v122 v123 v124 v125 v126 v127 v128 v129 v130 v131 v132 v133 v134 : Value} {aE : Option Addr} {cE : Nat} {aK : Option Addr} {cK : Nat} (HJ : Hid (JoS w wr lf k D lD)) (HL1 : Hid (w.heap.size + 1 ≤ wr.heap.size)) (FE : Hid (n2E = D.es.length + D.es.length ∧ D.es.length ≤ 8000000)) (FK : Hid (n2K = D.ks.length + D.ks.length ∧ D.ks.length ≤ 8000000)) (FD : Hid (n2D = D.ds.length + D.ds.length ∧ D.ds.length ≤ 8000000)) (HE : Hid (CellsAt wr lD.EA uE)) (HK : Hid (CellsAt wr lD.KA uK)) (HD : Hid (CellsAt wr lD.DA uD)) (LE : Hid (uE.length = D.es.length * 8)) (LK : Hid (uK.length = D.ks.length * 2)) (LD : Hid (uD.length = D.ds.length * 1)) (OE : Hid (∀ u ∈ uE, u.oneCell' = true)) (OK : Hid (∀ u ∈ uK, u.oneCell' = true)) (OD : Hid (∀ u ∈ uD, u.oneCell' = true)) (HU : Hid (uE = D.es.flatMap enC ∧ uK = D.ks.flatMap kyC ∧ uD = D.ds.map kdC ∧ D2 = ⟨D.leaf, D.es ++ D.es, D.ks ++ D.ks, D.ds ++ D.ds⟩)) (HB : Hid (Below wr.heap.size wr xx)) (RE : Hid (xx.ownsRow wr.heap.size 51 8 (.slice aE n2E cE) n2E (uE ++ uE))) (RK : Hid (xx.ownsRow wr.heap.size 48 2 (.slice aK n2K cK) n2K (uK ++ uK))) (RD : Hid (xx.ownsRow wr.heap.size 3 1 (v36) D.ds.length uD)) (hQ : Hid (∀ b19 b20 b21 b22 b23 b24 b25 b26 b27 b28 b29 b30 b31 b32 b33 b34 b35 b36 b37 b38 b39 b40 b41 b42 : Value, ∀ x2 : World, Hid (∃ l2, JoS w x2 lf (k + 1) D2 l2) → Q .normal { tmps := #[v0, v1, .pointer (some ⟨w.heap.size, 0, none⟩), v3, v4, v5, v6, v7, v8, v9, v10, v11, v12, v13, v14, v15, v16, v17, v18, b19, b20, b21, b22, b23, b24, b25, b26, b27, b28, b29, b30, b31, b32, b33, b34, b35, b36, b37, b38, b39, b40, b41, b42, v43, v44, v45, v46, v47, v48, v49, v50, v51, v52, v53, v54, v55, v56, v57, v58, v59, v60, v61, v62, v63, v64, v65, v66, v67, v68, v69, v70, v71, v72, v73, v74, v75, v76, v77, v78, v79, v80, v81, v82, v83, v84, v85, v86, v87, v88, v89, v90, v91, v92, v93, v94, v95, v96, v97, v98, v99, v100, v101, v102, v103, v104, v105, v106, v107, v108, v109, v110, v111, v112, v113, v114, v115, v116, v117, v118, v119, v120, v121, v122, v123, v124, v125, v126, v127, v128, v129, v130, v131, v132, v133, v134], defers := [] } x2)) :
    wpWaysT Try.prog reg4ops.toArray Q (fun w' => ∃ y : SubW (w.heap.size + 1) wr, w' = y.at_) (reg4ops.drop 22) (.one [] 20 (.done [])) { tmps := #[v0, v1, .pointer (some ⟨w.heap.size, 0, none⟩), v3, v4, v5, v6, v7, v8, v9, v10, v11, v12, v13, v14, v15, v16, v17, v18, v19, .pointer (some ⟨w.heap.size, 1, none⟩), .slice lD.EA D.es.length lD.ec, v22, .pointer (some ⟨w.heap.size, 1, none⟩), .slice lD.EA D.es.length lD.ec, .slice aE n2E cE, v26, .pointer (some ⟨w.heap.size, 2, none⟩), .slice lD.KA D.ks.length lD.kc, v29, .pointer (some ⟨w.heap.size, 2, none⟩), .slice lD.KA D.ks.length lD.kc, .slice aK n2K cK, v33, .pointer (some ⟨w.heap.size, 3, none⟩), .slice lD.DA D.ds.length lD.dc, v36, .pointer (some ⟨w.heap.size, 3, none⟩), .slice lD.DA D.ds.length lD.dc, v39, .pointer (some ⟨w.heap.size, 1, none⟩), v41, v42, v43, v44, v45, v46, v47, v48, v49, v50, v51, v52, v53, v54, v55, v56, v57, v58, v59, v60, v61, v62, v63, v64, v65, v66, v67, v68, v69, v70, v71, v72, v73, v74, v75, v76, v77, v78, v79, v80, v81, v82, v83, v84, v85, v86, v87, v88, v89, v90, v91, v92, v93, v94, v95, v96, v97, v98, v99, v100, v101, v102, v103, v104, v105, v106, v107, v108, v109, v110, v111, v112, v113, v114, v115, v116, v117, v118, v119, v120, v121, v122, v123, v124, v125, v126, v127, v128, v129, v130, v131, v132, v133, v134], defers := [] } xx := by
  rw [wpWaysT_one]
  try simp only [reg4ops, List.map_cons, List.map_nil, opAt, List.getElem?_toArray, List.getElem?_cons_zero, List.getElem?_cons_succ, Option.getD_some]
  refine wpQuiet_nil ?_
  · skip
    go_wp2_with (at_builtin; refine appD2 rfl (.tmp 36) (.tmp 38) rfl _ rfl RD.out rfl HD.out HB.out LD.out OD.out FD.out ?_; intro A1 c1 x1 R1 g1)
    have Q1E := Lib.hid (row_keep RE.out (fun k cur _ hc => typed_kept RD.out g1 (by decide) hc))
    have Q1K := Lib.hid (row_keep RK.out (fun k cur _ hc => typed_kept RD.out g1 (by decide) hc))
    have B1 := Lib.hid (grown_bel HB.out RD.out g1)
    replace R1 := Lib.hid R1
    clear g1
    refine ⟨⟨⟨_, B1.out.mono HL1.out⟩, rfl⟩, ?_⟩
    try simp only [Act.put, List.setIfInBounds_toArray, List.set_cons_zero, List.set_cons_succ]
    exact st_0_3_6_7_10_13_14_17_20 HJ HL1 FE FK FD HE HK HD LE LK LD OE OK OD HU B1 Q1E Q1K R1 hQ

set_option maxRecDepth 100000 in
set_option maxHeartbeats 4000000 in
theorem st_0_3_6_7_10_13_14 {w wr xx : World} {lf : Bool} {k : Nat} {D D2 : NodeD} {lD : NdL} {uE uK uD : List Value} {n2E n2K n2D : Nat} {Q : Exit → Act → World → Prop} {v0 v1 v3 v4 v5 v6 v7 v8 v9 v10 v11 v12 v13 v14 v15 v16 v17 v18 v19 v22 v26 v29 v33 v36 v39 v41 v42 v43 v44 v45 v46 v47 v48 v49 v50 v51 v52 v53 v54 v55 v56 v57 v58 v59 v60 v61 v62 v63 v64 v65 v66 v67 v68 v69 v70 v71 v72 v73 v74 v75 v76 v77 v78 v79 v80 v81 v82 v83 v84 v85 v86 v87 v88 v89 v90 v91 v92 v93 v94 v95 v96 v97 v98 v99 v100 v101 v102 v103 v104 v105 v106 v107 v108 v109 v110 v111 v112 v113 v114 v115 v116 v117 v118 v119 v120 v121 v122 v123 v124 v125 v126 v127 v128 v129 v130 v131 v132 v133 v134 : Value} {aE : Option Addr} {cE : Nat} {aK : Option Addr} {cK : Nat} (HJ : Hid (JoS w wr lf k D lD)) (HL1 : Hid (w.heap.size + 1 ≤ wr.heap.size)) (FE : Hid (n2E = D.es.length + D.es.length ∧ D.es.length ≤ 8000000)) (FK : Hid (n2K = D.ks.length + D.ks.length ∧ D.ks.length ≤ 8000000)) (FD : Hid (n2D = D.ds.length + D.ds.length ∧ D.ds.length ≤ 8000000)) (HE : Hid (CellsAt wr lD.EA uE)) (HK : Hid (CellsAt wr lD.KA uK)) (HD : Hid (CellsAt wr lD.DA uD)) (LE : Hid (uE.length = D.es.length * 8)) (LK : Hid (uK.length = D.ks.length * 2)) (LD : Hid (uD.length = D.ds.length * 1)) (OE : Hid (∀ u ∈ uE, u.oneCell' = true)) (OK : Hid (∀ u ∈ uK, u.oneCell' = true)) (OD : Hid (∀ u ∈ uD, u.oneCell' = true)) (HU : Hid (uE = D.es.flatMap enC ∧ uK = D.ks.flatMap kyC ∧ uD = D.ds.map kdC ∧ D2 = ⟨D.leaf, D.es ++ D.es, D.ks ++ D.ks, D.ds ++ D.ds⟩)) (HB : Hid (Below wr.heap.size wr xx)) (RE : Hid (xx.ownsRow wr.heap.size 51 8 (.slice aE n2E cE) n2E (uE ++ uE))) (RK : Hid (xx.ownsRow wr.heap.size 48 2 (.slice aK n2K cK) n2K (uK ++ uK))) (RD : Hid (xx.ownsRow wr.heap.size 3 1 (v33) 0 [])) (hQ : Hid (∀ b19 b20 b21 b22 b23 b24 b25 b26 b27 b28 b29 b30 b31 b32 b33 b34 b35 b36 b37 b38 b39 b40 b41 b42 : Value, ∀ x2 : World, Hid (∃ l2, JoS w x2 lf (k + 1) D2 l2) → Q .normal { tmps := #[v0, v1, .pointer (some ⟨w.heap.size, 0, none⟩), v3, v4, v5, v6, v7, v8, v9, v10, v11, v12, v13, v14, v15, v16, v17, v18, b19, b20, b21, b22, b23, b24, b25, b26, b27, b28, b29, b30, b31, b32, b33, b34, b35, b36, b37, b38, b39, b40, b41, b42, v43, v44, v45, v46, v47, v48, v49, v50, v51, v52, v53, v54, v55, v56, v57, v58, v59, v60, v61, v62, v63, v64, v65, v66, v67, v68, v69, v70, v71, v72, v73, v74, v75, v76, v77, v78, v79, v80, v81, v82, v83, v84, v85, v86, v87, v88, v89, v90, v91, v92, v93, v94, v95, v96, v97, v98, v99, v100, v101, v102, v103, v104, v105, v106, v107, v108, v109, v110, v111, v112, v113, v114, v115, v116, v117, v118, v119, v120, v121, v122, v123, v124, v125, v126, v127, v128, v129, v130, v131, v132, v133, v134], defers := [] } x2)) :
    wpWaysT Try.prog reg4ops.toArray Q (fun w' => ∃ y : SubW (w.heap.size + 1) wr, w' = y.at_) (reg4ops.drop 22) (.one [] 17 (.one [] 20 (.done []))) { tmps := #[v0, v1, .pointer (some ⟨w.heap.size, 0, none⟩), v3, v4, v5, v6, v7, v8, v9, v10, v11, v12, v13, v14, v15, v16, v17, v18, v19, .pointer (some ⟨w.heap.size, 1, none⟩), .slice lD.EA D.es.length lD.ec, v22, .pointer (some ⟨w.heap.size, 1, none⟩), .slice lD.EA D.es.length lD.ec, .slice aE n2E cE, v26, .pointer (some ⟨w.heap.size, 2, none⟩), .slice lD.KA D.ks.length lD.kc, v29, .pointer (some ⟨w.heap.size, 2, none⟩), .slice lD.KA D.ks.length lD.kc, .slice aK n2K cK, v33, .pointer (some ⟨w.heap.size, 3, none⟩), .slice lD.DA D.ds.length lD.dc, v36, .pointer (some ⟨w.heap.size, 3, none⟩), .slice lD.DA D.ds.length lD.dc, v39, .pointer (some ⟨w.heap.size, 1, none⟩), v41, v42, v43, v44, v45, v46, v47, v48, v49, v50, v51, v52, v53, v54, v55, v56, v57, v58, v59, v60, v61, v62, v63, v64, v65, v66, v67, v68, v69, v70, v71, v72, v73, v74, v75, v76, v77, v78, v79, v80, v81, v82, v83, v84, v85, v86, v87, v88, v89, v90, v91, v92, v93, v94, v95, v96, v97, v98, v99, v100, v101, v102, v103, v104, v105, v106, v107, v108, v109, v110, v111, v112, v113, v114, v115, v116, v117, v118, v119, v120, v121, v122, v123, v124, v125, v126, v127, v128, v129, v130, v131, v132, v133, v134], defers := [] } xx := by
  rw [wpWaysT_one]
  try simp only [reg4ops, List.map_cons, List.map_nil, opAt, List.getElem?_toArray, List.getElem?_cons_zero, List.getElem?_cons_succ, Option.getD_some]
  refine wpQuiet_nil ?_
  · skip
    go_wp2_with (at_builtin; refine appD1 rfl (.tmp 33) (.tmp 35) rfl _ rfl RD.out rfl HD.out HB.out LD.out OD.out FD.out ?_; intro A1 c1 x1 R1 g1)
    have Q1E := Lib.hid (row_keep RE.out (fun k cur _ hc => typed_kept RD.out g1 (by decide) hc))
    have Q1K := Lib.hid (row_keep RK.out (fun k cur _ hc => typed_kept RD.out g1 (by decide) hc))
    have B1 := Lib.hid (grown_bel HB.out RD.out g1)
    replace R1 := Lib.hid R1
    clear g1
    refine ⟨⟨⟨_, B1.out.mono HL1.out⟩, rfl⟩, ?_⟩
    try simp only [Act.put, List.setIfInBounds_toArray, List.set_cons_zero, List.set_cons_succ]
    exact st_0_3_6_7_10_13_14_17 HJ HL1 FE FK FD HE HK HD LE LK LD OE OK OD HU B1 Q1E Q1K R1 hQ

set_option maxRecDepth 100000 in
set_option maxHeartbeats 4000000 in
theorem st_0_3_6_7_10_13 {w wr xx : World} {lf : Bool} {k : Nat} {D D2 : NodeD} {lD : NdL} {uE uK uD : List Value} {n2E n2K n2D : Nat} {Q : Exit → Act → World → Prop} {v0 v1 v3 v4 v5 v6 v7 v8 v9 v10 v11 v12 v13 v14 v15 v16 v17 v18 v19 v22 v26 v29 v33 v36 v39 v41 v42 v43 v44 v45 v46 v47 v48 v49 v50 v51 v52 v53 v54 v55 v56 v57 v58 v59 v60 v61 v62 v63 v64 v65 v66 v67 v68 v69 v70 v71 v72 v73 v74 v75 v76 v77 v78 v79 v80 v81 v82 v83 v84 v85 v86 v87 v88 v89 v90 v91 v92 v93 v94 v95 v96 v97 v98 v99 v100 v101 v102 v103 v104 v105 v106 v107 v108 v109 v110 v111 v112 v113 v114 v115 v116 v117 v118 v119 v120 v121 v122 v123 v124 v125 v126 v127 v128 v129 v130 v131 v132 v133 v134 : Value} {aE : Option Addr} {cE : Nat} {aK : Option Addr} {cK : Nat} (HJ : Hid (JoS w wr lf k D lD)) (HL1 : Hid (w.heap.size + 1 ≤ wr.heap.size)) (FE : Hid (n2E = D.es.length + D.es.length ∧ D.es.length ≤ 8000000)) (FK : Hid (n2K = D.ks.length + D.ks.length ∧ D.ks.length ≤ 8000000)) (FD : Hid (n2D = D.ds.length + D.ds.length ∧ D.ds.length ≤ 8000000)) (HE : Hid (CellsAt wr lD.EA uE)) (HK : Hid (CellsAt wr lD.KA uK)) (HD : Hid (CellsAt wr lD.DA uD)) (LE : Hid (uE.length = D.es.length * 8)) (LK : Hid (uK.length = D.ks.length * 2)) (LD : Hid (uD.length = D.ds.length * 1)) (OE : Hid (∀ u ∈ uE, u.oneCell' = true)) (OK : Hid (∀ u ∈ uK, u.oneCell' = true)) (OD : Hid (∀ u ∈ uD, u.oneCell' = true)) (HU : Hid (uE = D.es.flatMap enC ∧ uK = D.ks.flatMap kyC ∧ uD = D.ds.map kdC ∧ D2 = ⟨D.leaf, D.es ++ D.es, D.ks ++ D.ks, D.ds ++ D.ds⟩)) (HB : Hid (Below wr.heap.size wr xx)) (RE : Hid (xx.ownsRow wr.heap.size 51 8 (.slice aE n2E cE) n2E (uE ++ uE))) (RK : Hid (xx.ownsRow wr.heap.size 48 2 (.slice aK n2K cK) n2K (uK ++ uK))) (hQ : Hid (∀ b19 b20 b21 b22 b23 b24 b25 b26 b27 b28 b29 b30 b31 b32 b33 b34 b35 b36 b37 b38 b39 b40 b41 b42 : Value, ∀ x2 : World, Hid (∃ l2, JoS w x2 lf (k + 1) D2 l2) → Q .normal { tmps := #[v0, v1, .pointer (some ⟨w.heap.size, 0, none⟩), v3, v4, v5, v6, v7, v8, v9, v10, v11, v12, v13, v14, v15, v16, v17, v18, b19, b20, b21, b22, b23, b24, b25, b26, b27, b28, b29, b30, b31, b32, b33, b34, b35, b36, b37, b38, b39, b40, b41, b42, v43, v44, v45, v46, v47, v48, v49, v50, v51, v52, v53, v54, v55, v56, v57, v58, v59, v60, v61, v62, v63, v64, v65, v66, v67, v68, v69, v70, v71, v72, v73, v74, v75, v76, v77, v78, v79, v80, v81, v82, v83, v84, v85, v86, v87, v88, v89, v90, v91, v92, v93, v94, v95, v96, v97, v98, v99, v100, v101, v102, v103, v104, v105, v106, v107, v108, v109, v110, v111, v112, v113, v114, v115, v116, v117, v118, v119, v120, v121, v122, v123, v124, v125, v126, v127, v128, v129, v130, v131, v132, v133, v134], defers := [] } x2)) :
    wpWaysT Try.prog reg4ops.toArray Q (fun w' => ∃ y : SubW (w.heap.size + 1) wr, w' = y.at_) (reg4ops.drop 22) (.one [] 14 (.one [] 17 (.one [] 20 (.done [])))) { tmps := #[v0, v1, .pointer (some ⟨w.heap.size, 0, none⟩), v3, v4, v5, v6, v7, v8, v9, v10, v11, v12, v13, v14, v15, v16, v17, v18, v19, .pointer (some ⟨w.heap.size, 1, none⟩), .slice lD.EA D.es.length lD.ec, v22, .pointer (some ⟨w.heap.size, 1, none⟩), .slice lD.EA D.es.length lD.ec, .slice aE n2E cE, v26, .pointer (some ⟨w.heap.size, 2, none⟩), .slice lD.KA D.ks.length lD.kc, v29, .pointer (some ⟨w.heap.size, 2, none⟩), .slice lD.KA D.ks.length lD.kc, .slice aK n2K cK, v33, .pointer (some ⟨w.heap.size, 3, none⟩), .slice lD.DA D.ds.length lD.dc, v36, .pointer (some ⟨w.heap.size, 3, none⟩), .slice lD.DA D.ds.length lD.dc, v39, .pointer (some ⟨w.heap.size, 1, none⟩), v41, v42, v43, v44, v45, v46, v47, v48, v49, v50, v51, v52, v53, v54, v55, v56, v57, v58, v59, v60, v61, v62, v63, v64, v65, v66, v67, v68, v69, v70, v71, v72, v73, v74, v75, v76, v77, v78, v79, v80, v81, v82, v83, v84, v85, v86, v87, v88, v89, v90, v91, v92, v93, v94, v95, v96, v97, v98, v99, v100, v101, v102, v103, v104, v105, v106, v107, v108, v109, v110, v111, v112, v113, v114, v115, v116, v117, v118, v119, v120, v121, v122, v123, v124, v125, v126, v127, v128, v129, v130, v131, v132, v133, v134], defers := [] } xx := by
  rw [wpWaysT_one]
  try simp only [reg4ops, List.map_cons, List.map_nil, opAt, List.getElem?_toArray, List.getElem?_cons_zero, List.getElem?_cons_succ, Option.getD_some]
  refine wpQuiet_nil ?_
  · skip
    go_wp2_with fail
    obtain ⟨x1, ex1⟩ : ∃ x, x = xx.alloc (.cells #[] 3) := ⟨_, rfl⟩
    rw [← ex1]
    have R1 := Lib.hid (empty_row wr xx 3 1 x1 ex1 HB.out)
    have b1 := alloc_bel ex1
    have Q1E := Lib.hid (row_below RE.out b1)
    have Q1K := Lib.hid (row_below RK.out b1)
    have B1 := Lib.hid (HB.out.trans (b1.mono HB.out.size))
    clear b1 ex1
    refine ⟨⟨⟨_, B1.out.mono HL1.out⟩, rfl⟩, ?_⟩
    try simp only [Act.put, List.setIfInBounds_toArray, List.set_cons_zero, List.set_cons_succ]
    exact st_0_3_6_7_10_13_14 HJ HL1 FE FK FD HE HK HD LE LK LD OE OK OD HU B1 Q1E Q1K R1 hQ

set_option maxRecDepth 100000 in
set_option maxHeartbeats 4000000 in
theorem st_0_3_6_7_10_14 {w wr xx : World} {lf : Bool} {k : Nat} {D D2 : NodeD} {lD : NdL} {uE uK uD : List Value} {n2E n2K n2D : Nat} {Q : Exit → Act → World → Prop} {v0 v1 v3 v4 v5 v6 v7 v8 v9 v10 v11 v12 v13 v14 v15 v16 v17 v18 v19 v22 v26 v29 v32 v33 v36 v39 v41 v42 v43 v44 v45 v46 v47 v48 v49 v50 v51 v52 v53 v54 v55 v56 v57 v58 v59 v60 v61 v62 v63 v64 v65 v66 v67 v68 v69 v70 v71 v72 v73 v74 v75 v76 v77 v78 v79 v80 v81 v82 v83 v84 v85 v86 v87 v88 v89 v90 v91 v92 v93 v94 v95 v96 v97 v98 v99 v100 v101 v102 v103 v104 v105 v106 v107 v108 v109 v110 v111 v112 v113 v114 v115 v116 v117 v118 v119 v120 v121 v122 v123 v124 v125 v126 v127 v128 v129 v130 v131 v132 v133 v134 : Value} {aE : Option Addr} {cE : Nat} (HJ : Hid (JoS w wr lf k D lD)) (HL1 : Hid (w.heap.size + 1 ≤ wr.heap.size)) (FE : Hid (n2E = D.es.length + D.es.length ∧ D.es.length ≤ 8000000)) (FK : Hid (n2K = D.ks.length + D.ks.length ∧ D.ks.length ≤ 8000000)) (FD : Hid (n2D = D.ds.length + D.ds.length ∧ D.ds.length ≤ 8000000)) (HE : Hid (CellsAt wr lD.EA uE)) (HK : Hid (CellsAt wr lD.KA uK)) (HD : Hid (CellsAt wr lD.DA uD)) (LE : Hid (uE.length = D.es.length * 8)) (LK : Hid (uK.length = D.ks.length * 2)) (LD : Hid (uD.length = D.ds.length * 1)) (OE : Hid (∀ u ∈ uE, u.oneCell' = true)) (OK : Hid (∀ u ∈ uK, u.oneCell' = true)) (OD : Hid (∀ u ∈ uD, u.oneCell' = true)) (HU : Hid (uE = D.es.flatMap enC ∧ uK = D.ks.flatMap kyC ∧ uD = D.ds.map kdC ∧ D2 = ⟨D.leaf, D.es ++ D.es, D.ks ++ D.ks, D.ds ++ D.ds⟩)) (HB : Hid (Below wr.heap.size wr xx)) (RE : Hid (xx.ownsRow wr.heap.size 51 8 (.slice aE n2E cE) n2E (uE ++ uE))) (RK : Hid (xx.ownsRow wr.heap.size 48 2 (v29) D.ks.length uK)) (RD : Hid (xx.ownsRow wr.heap.size 3 1 (v33) 0 [])) (hQ : Hid (∀ b19 b20 b21 b22 b23 b24 b25 b26 b27 b28 b29 b30 b31 b32 b33 b34 b35 b36 b37 b38 b39 b40 b41 b42 : Value, ∀ x2 : World, Hid (∃ l2, JoS w x2 lf (k + 1) D2 l2) → Q .normal { tmps := #[v0, v1, .pointer (some ⟨w.heap.size, 0, none⟩), v3, v4, v5, v6, v7, v8, v9, v10, v11, v12, v13, v14, v15, v16, v17, v18, b19, b20, b21, b22, b23, b24, b25, b26, b27, b28, b29, b30, b31, b32, b33, b34, b35, b36, b37, b38, b39, b40, b41, b42, v43, v44, v45, v46, v47, v48, v49, v50, v51, v52, v53, v54, v55, v56, v57, v58, v59, v60, v61, v62, v63, v64, v65, v66, v67, v68, v69, v70, v71, v72, v73, v74, v75, v76, v77, v78, v79, v80, v81, v82, v83, v84, v85, v86, v87, v88, v89, v90, v91, v92, v93, v94, v95, v96, v97, v98, v99, v100, v101, v102, v103, v104, v105, v106, v107, v108, v109, v110, v111, v112, v113, v114, v115, v116, v117, v118, v119, v120, v121, v122, v123, v124, v125, v126, v127, v128, v129, v130, v131, v132, v133, v134], defers := [] } x2)) :
    wpWaysT Try.prog reg4ops.toArray Q (fun w' => ∃ y : SubW (w.heap.size + 1) wr, w' = y.at_) (reg4ops.drop 22) (.one [] 13 (.one [] 17 (.one [] 20 (.done [])))) { tmps := #[v0, v1, .pointer (some ⟨w.heap.size, 0, none⟩), v3, v4, v5, v6, v7, v8, v9, v10, v11, v12, v13, v14, v15, v16, v17, v18, v19, .pointer (some ⟨w.heap.size, 1, none⟩), .slice lD.EA D.es.length lD.ec, v22, .pointer (some ⟨w.heap.size, 1, none⟩), .slice lD.EA D.es.length lD.ec, .slice aE n2E cE, v26, .pointer (some ⟨w.heap.size, 2, none⟩), .slice lD.KA D.ks.length lD.kc, v29, .pointer (some ⟨w.heap.size, 2, none⟩), .slice lD.KA D.ks.length lD.kc, v32, v33, .pointer (some ⟨w.heap.size, 3, none⟩), .slice lD.DA D.ds.length lD.dc, v36, .pointer (some ⟨w.heap.size, 3, none⟩), .slice lD.DA D.ds.length lD.dc, v39, .pointer (some ⟨w.heap.size, 1, none⟩), v41, v42, v43, v44, v45, v46, v47, v48, v49, v50, v51, v52, v53, v54, v55, v56, v57, v58, v59, v60, v61, v62, v63, v64, v65, v66, v67, v68, v69, v70, v71, v72, v73, v74, v75, v76, v77, v78, v79, v80, v81, v82, v83, v84, v85, v86, v87, v88, v89, v90, v91, v92, v93, v94, v95, v96, v97, v98, v99, v100, v101, v102, v103, v104, v105, v106, v107, v108, v109, v110, v111, v112, v113, v114, v115, v116, v117, v118, v119, v120, v121, v122, v123, v124, v125, v126, v127, v128, v129, v130, v131, v132, v133, v134], defers := [] } xx := by
  rw [wpWaysT_one]
  try simp only [reg4ops, List.map_cons, List.map_nil, opAt, List.getElem?_toArray, List.getElem?_cons_zero, List.getElem?_cons_succ, Option.getD_some]
  refine wpQuiet_nil ?_
  · skip
    go_wp2_with (at_builtin; refine appK2 rfl (.tmp 29) (.tmp 31) rfl _ rfl RK.out rfl HK.out HB.out LK.out OK.out FK.out ?_; intro A1 c1 x1 R1 g1)
    have Q1E := Lib.hid (row_keep RE.out (fun k cur _ hc => typed_kept RK.out g1 (by decide) hc))
    have Q1D := Lib.hid (row_keep RD.out (fun k cur _ hc => typed_kept RK.out g1 (by decide) hc))
    have B1 := Lib.hid (grown_bel HB.out RK.out g1)
    replace R1 := Lib.hid R1
    clear g1
    refine ⟨⟨⟨_, B1.out.mono HL1.out⟩, rfl⟩, ?_⟩
    try simp only [Act.put, List.setIfInBounds_toArray, List.set_cons_zero, List.set_cons_succ]
    exact st_0_3_6_7_10_13_14 HJ HL1 FE FK FD HE HK HD LE LK LD OE OK OD HU B1 Q1E R1 Q1D hQ

set_option maxRecDepth 100000 in
set_option maxHeartbeats 4000000 in
theorem st_0_3_6_7_10 {w wr xx : World} {lf : Bool} {k : Nat} {D D2 : NodeD} {lD : NdL} {uE uK uD : List Value} {n2E n2K n2D : Nat} {Q : Exit → Act → World → Prop} {v0 v1 v3 v4 v5 v6 v7 v8 v9 v10 v11 v12 v13 v14 v15 v16 v17 v18 v19 v22 v26 v29 v32 v33 v36 v39 v41 v42 v43 v44 v45 v46 v47 v48 v49 v50 v51 v52 v53 v54 v55 v56 v57 v58 v59 v60 v61 v62 v63 v64 v65 v66 v67 v68 v69 v70 v71 v72 v73 v74 v75 v76 v77 v78 v79 v80 v81 v82 v83 v84 v85 v86 v87 v88 v89 v90 v91 v92 v93 v94 v95 v96 v97 v98 v99 v100 v101 v102 v103 v104 v105 v106 v107 v108 v109 v110 v111 v112 v113 v114 v115 v116 v117 v118 v119 v120 v121 v122 v123 v124 v125 v126 v127 v128 v129 v130 v131 v132 v133 v134 : Value} {aE : Option Addr} {cE : Nat} (HJ : Hid (JoS w wr lf k D lD)) (HL1 : Hid (w.heap.size + 1 ≤ wr.heap.size)) (FE : Hid (n2E = D.es.length + D.es.length ∧ D.es.length ≤ 8000000)) (FK : Hid (n2K = D.ks.length + D.ks.length ∧ D.ks.length ≤ 8000000)) (FD : Hid (n2D = D.ds.length + D.ds.length ∧ D.ds.length ≤ 8000000)) (HE : Hid (CellsAt wr lD.EA uE)) (HK : Hid (CellsAt wr lD.KA uK)) (HD : Hid (CellsAt wr lD.DA uD)) (LE : Hid (uE.length = D.es.length * 8)) (LK : Hid (uK.length = D.ks.length * 2)) (LD : Hid (uD.length = D.ds.length * 1)) (OE : Hid (∀ u ∈ uE, u.oneCell' = true)) (OK : Hid (∀ u ∈ uK, u.oneCell' = true)) (OD : Hid (∀ u ∈ uD, u.oneCell' = true)) (HU : Hid (uE = D.es.flatMap enC ∧ uK = D.ks.flatMap kyC ∧ uD = D.ds.map kdC ∧ D2 = ⟨D.leaf, D.es ++ D.es, D.ks ++ D.ks, D.ds ++ D.ds⟩)) (HB : Hid (Below wr.heap.size wr xx)) (RE : Hid (xx.ownsRow wr.heap.size 51 8 (.slice aE n2E cE) n2E (uE ++ uE))) (RK : Hid (xx.ownsRow wr.heap.size 48 2 (v29) D.ks.length uK)) (hQ : Hid (∀ b19 b20 b21 b22 b23 b24 b25 b26 b27 b28 b29 b30 b31 b32 b33 b34 b35 b36 b37 b38 b39 b40 b41 b42 : Value, ∀ x2 : World, Hid (∃ l2, JoS w x2 lf (k + 1) D2 l2) → Q .normal { tmps := #[v0, v1, .pointer (some ⟨w.heap.size, 0, none⟩), v3, v4, v5, v6, v7, v8, v9, v10, v11, v12, v13, v14, v15, v16, v17, v18, b19, b20, b21, b22, b23, b24, b25, b26, b27, b28, b29, b30, b31, b32, b33, b34, b35, b36, b37, b38, b39, b40, b41, b42, v43, v44, v45, v46, v47, v48, v49, v50, v51, v52, v53, v54, v55, v56, v57, v58, v59, v60, v61, v62, v63, v64, v65, v66, v67, v68, v69, v70, v71, v72, v73, v74, v75, v76, v77, v78, v79, v80, v81, v82, v83, v84, v85, v86, v87, v88, v89, v90, v91, v92, v93, v94, v95, v96, v97, v98, v99, v100, v101, v102, v103, v104, v105, v106, v107, v108, v109, v110, v111, v112, v113, v114, v115, v116, v117, v118, v119, v120, v121, v122, v123, v124, v125, v126, v127, v128, v129, v130, v131, v132, v133, v134], defers := [] } x2)) :
    wpWaysT Try.prog reg4ops.toArray Q (fun w' => ∃ y : SubW (w.heap.size + 1) wr, w' = y.at_) (reg4ops.drop 22) (.two [] 13 (.one [] 14 (.one [] 17 (.one [] 20 (.done [])))) 14 (.one [] 13 (.one [] 17 (.one [] 20 (.done []))))) { tmps := #[v0, v1, .pointer (some ⟨w.heap.size, 0, none⟩), v3, v4, v5, v6, v7, v8, v9, v10, v11, v12, v13, v14, v15, v16, v17, v18, v19, .pointer (some ⟨w.heap.size, 1, none⟩), .slice lD.EA D.es.length lD.ec, v22, .pointer (some ⟨w.heap.size, 1, none⟩), .slice lD.EA D.es.length lD.ec, .slice aE n2E cE, v26, .pointer (some ⟨w.heap.size, 2, none⟩), .slice lD.KA D.ks.length lD.kc, v29, .pointer (some ⟨w.heap.size, 2, none⟩), .slice lD.KA D.ks.length lD.kc, v32, v33, .pointer (some ⟨w.heap.size, 3, none⟩), .slice lD.DA D.ds.length lD.dc, v36, .pointer (some ⟨w.heap.size, 3, none⟩), .slice lD.DA D.ds.length lD.dc, v39, .pointer (some ⟨w.heap.size, 1, none⟩), v41, v42, v43, v44, v45, v46, v47, v48, v49, v50, v51, v52, v53, v54, v55, v56, v57, v58, v59, v60, v61, v62, v63, v64, v65, v66, v67, v68, v69, v70, v71, v72, v73, v74, v75, v76, v77, v78, v79, v80, v81, v82, v83, v84, v85, v86, v87, v88, v89, v90, v91, v92, v93, v94, v95, v96, v97, v98, v99, v100, v101, v102, v103, v104, v105, v106, v107, v108, v109, v110, v111, v112, v113, v114, v115, v116, v117, v118, v119, v120, v121, v122, v123, v124, v125, v126, v127, v128, v129, v130, v131, v132, v133, v134], defers := [] } xx := by
  rw [wpWaysT_two]
  try simp only [reg4ops, List.map_cons, List.map_nil, opAt, List.getElem?_toArray, List.getElem?_cons_zero, List.getElem?_cons_succ, Option.getD_some]
  refine wpQuiet_nil ⟨?_, ?_⟩
  · skip
    go_wp2_with (at_builtin; refine appK2 rfl (.tmp 29) (.tmp 31) rfl _ rfl RK.out rfl HK.out HB.out LK.out OK.out FK.out ?_; intro A1 c1 x1 R1 g1)
    have Q1E := Lib.hid (row_keep RE.out (fun k cur _ hc => typed_kept RK.out g1 (by decide) hc))
    have B1 := Lib.hid (grown_bel HB.out RK.out g1)
    replace R1 := Lib.hid R1
    clear g1
    refine ⟨⟨⟨_, B1.out.mono HL1.out⟩, rfl⟩, ?_⟩
    try simp only [Act.put, List.setIfInBounds_toArray, List.set_cons_zero, List.set_cons_succ]
    exact st_0_3_6_7_10_13 HJ HL1 FE FK FD HE HK HD LE LK LD OE OK OD HU B1 Q1E R1 hQ
  · skip
    go_wp2_with fail
    obtain ⟨x1, ex1⟩ : ∃ x, x = xx.alloc (.cells #[] 3) := ⟨_, rfl⟩
    rw [← ex1]
    have R1 := Lib.hid (empty_row wr xx 3 1 x1 ex1 HB.out)
    have b1 := alloc_bel ex1
    have Q1E := Lib.hid (row_below RE.out b1)
    have Q1K := Lib.hid (row_below RK.out b1)
    have B1 := Lib.hid (HB.out.trans (b1.mono HB.out.size))
    clear b1 ex1
    refine ⟨⟨⟨_, B1.out.mono HL1.out⟩, rfl⟩, ?_⟩
    try simp only [Act.put, List.setIfInBounds_toArray, List.set_cons_zero, List.set_cons_succ]
    exact st_0_3_6_7_10_14 HJ HL1 FE FK FD HE HK HD LE LK LD OE OK OD HU B1 Q1E Q1K R1 hQ

set_option maxRecDepth 100000 in
set_option maxHeartbeats 4000000 in
theorem st_0_3_6_7_14 {w wr xx : World} {lf : Bool} {k : Nat} {D D2 : NodeD} {lD : NdL} {uE uK uD : List Value} {n2E n2K n2D : Nat} {Q : Exit → Act → World → Prop} {v0 v1 v3 v4 v5 v6 v7 v8 v9 v10 v11 v12 v13 v14 v15 v16 v17 v18 v19 v22 v26 v29 v32 v33 v36 v39 v41 v42 v43 v44 v45 v46 v47 v48 v49 v50 v51 v52 v53 v54 v55 v56 v57 v58 v59 v60 v61 v62 v63 v64 v65 v66 v67 v68 v69 v70 v71 v72 v73 v74 v75 v76 v77 v78 v79 v80 v81 v82 v83 v84 v85 v86 v87 v88 v89 v90 v91 v92 v93 v94 v95 v96 v97 v98 v99 v100 v101 v102 v103 v104 v105 v106 v107 v108 v109 v110 v111 v112 v113 v114 v115 v116 v117 v118 v119 v120 v121 v122 v123 v124 v125 v126 v127 v128 v129 v130 v131 v132 v133 v134 : Value} {aE : Option Addr} {cE : Nat} (HJ : Hid (JoS w wr lf k D lD)) (HL1 : Hid (w.heap.size + 1 ≤ wr.heap.size)) (FE : Hid (n2E = D.es.length + D.es.length ∧ D.es.length ≤ 8000000)) (FK : Hid (n2K = D.ks.length + D.ks.length ∧ D.ks.length ≤ 8000000)) (FD : Hid (n2D = D.ds.length + D.ds.length ∧ D.ds.length ≤ 8000000)) (HE : Hid (CellsAt wr lD.EA uE)) (HK : Hid (CellsAt wr lD.KA uK)) (HD : Hid (CellsAt wr lD.DA uD)) (LE : Hid (uE.length = D.es.length * 8)) (LK : Hid (uK.length = D.ks.length * 2)) (LD : Hid (uD.length = D.ds.length * 1)) (OE : Hid (∀ u ∈ uE, u.oneCell' = true)) (OK : Hid (∀ u ∈ uK, u.oneCell' = true)) (OD : Hid (∀ u ∈ uD, u.oneCell' = true)) (HU : Hid (uE = D.es.flatMap enC ∧ uK = D.ks.flatMap kyC ∧ uD = D.ds.map kdC ∧ D2 = ⟨D.leaf, D.es ++ D.es, D.ks ++ D.ks, D.ds ++ D.ds⟩)) (HB : Hid (Below wr.heap.size wr xx)) (RE : Hid (xx.ownsRow wr.heap.size 51 8 (.slice aE n2E cE) n2E (uE ++ uE))) (RK : Hid (xx.ownsRow wr.heap.size 48 2 (v26) 0 [])) (RD : Hid (xx.ownsRow wr.heap.size 3 1 (v33) 0 [])) (hQ : Hid (∀ b19 b20 b21 b22 b23 b24 b25 b26 b27 b28 b29 b30 b31 b32 b33 b34 b35 b36 b37 b38 b39 b40 b41 b42 : Value, ∀ x2 : World, Hid (∃ l2, JoS w x2 lf (k + 1) D2 l2) → Q .normal { tmps := #[v0, v1, .pointer (some ⟨w.heap.size, 0, none⟩), v3, v4, v5, v6, v7, v8, v9, v10, v11, v12, v13, v14, v15, v16, v17, v18, b19, b20, b21, b22, b23, b24, b25, b26, b27, b28, b29, b30, b31, b32, b33, b34, b35, b36, b37, b38, b39, b40, b41, b42, v43, v44, v45, v46, v47, v48, v49, v50, v51, v52, v53, v54, v55, v56, v57, v58, v59, v60, v61, v62, v63, v64, v65, v66, v67, v68, v69, v70, v71, v72, v73, v74, v75, v76, v77, v78, v79, v80, v81, v82, v83, v84, v85, v86, v87, v88, v89, v90, v91, v92, v93, v94, v95, v96, v97, v98, v99, v100, v101, v102, v103, v104, v105, v106, v107, v108, v109, v110, v111, v112, v113, v114, v115, v116, v117, v118, v119, v120, v121, v122, v123, v124, v125, v126, v127, v128, v129, v130, v131, v132, v133, v134], defers := [] } x2)) :
    wpWaysT Try.prog reg4ops.toArray Q (fun w' => ∃ y : SubW (w.heap.size + 1) wr, w' = y.at_) (reg4ops.drop 22) (.one [] 10 (.one [] 13 (.one [] 17 (.one [] 20 (.done []))))) { tmps := #[v0, v1, .pointer (some ⟨w.heap.size, 0, none⟩), v3, v4, v5, v6, v7, v8, v9, v10, v11, v12, v13, v14, v15, v16, v17, v18, v19, .pointer (some ⟨w.heap.size, 1, none⟩), .slice lD.EA D.es.length lD.ec, v22, .pointer (some ⟨w.heap.size, 1, none⟩), .slice lD.EA D.es.length lD.ec, .slice aE n2E cE, v26, .pointer (some ⟨w.heap.size, 2, none⟩), .slice lD.KA D.ks.length lD.kc, v29, .pointer (some ⟨w.heap.size, 2, none⟩), .slice lD.KA D.ks.length lD.kc, v32, v33, .pointer (some ⟨w.heap.size, 3, none⟩), .slice lD.DA D.ds.length lD.dc, v36, .pointer (some ⟨w.heap.size, 3, none⟩), .slice lD.DA D.ds.length lD.dc, v39, .pointer (some ⟨w.heap.size, 1, none⟩), v41, v42, v43, v44, v45, v46, v47, v48, v49, v50, v51, v52, v53, v54, v55, v56, v57, v58, v59, v60, v61, v62, v63, v64, v65, v66, v67, v68, v69, v70, v71, v72, v73, v74, v75, v76, v77, v78, v79, v80, v81, v82, v83, v84, v85, v86, v87, v88, v89, v90, v91, v92, v93, v94, v95, v96, v97, v98, v99, v100, v101, v102, v103, v104, v105, v106, v107, v108, v109, v110, v111, v112, v113, v114, v115, v116, v117, v118, v119, v120, v121, v122, v123, v124, v125, v126, v127, v128, v129, v130, v131, v132, v133, v134], defers := [] } xx := by
  rw [wpWaysT_one]
  try simp only [reg4ops, List.map_cons, List.map_nil, opAt, List.getElem?_toArray, List.getElem?_cons_zero, List.getElem?_cons_succ, Option.getD_some]
  refine wpQuiet_nil ?_
  · skip
    go_wp2_with (at_builtin; refine appK1 rfl (.tmp 26) (.tmp 28) rfl _ rfl RK.out rfl HK.out HB.out LK.out OK.out FK.out ?_; intro A1 c1 x1 R1 g1)
    have Q1E := Lib.hid (row_keep RE.out (fun k cur _ hc => typed_kept RK.out g1 (by decide) hc))
    have Q1D := Lib.hid (row_keep RD.out (fun k cur _ hc => typed_kept RK.out g1 (by decide) hc))
    have B1 := Lib.hid (grown_bel HB.out RK.out g1)
    replace R1 := Lib.hid R1
    clear g1
    refine ⟨⟨⟨_, B1.out.mono HL1.out⟩, rfl⟩, ?_⟩
    try simp only [Act.put, List.setIfInBounds_toArray, List.set_cons_zero, List.set_cons_succ]
    exact st_0_3_6_7_10_14 HJ HL1 FE FK FD HE HK HD LE LK LD OE OK OD HU B1 Q1E R1 Q1D hQ

set_option maxRecDepth 100000 in
set_option maxHeartbeats 4000000 in
theorem st_0_3_6_7 {w wr xx : World} {lf : Bool} {k : Nat} {D D2 : NodeD} {lD : NdL} {uE uK uD : List Value} {n2E n2K n2D : Nat} {Q : Exit → Act → World → Prop} {v0 v1 v3 v4 v5 v6 v7 v8 v9 v10 v11 v12 v13 v14 v15 v16 v17 v18 v19 v22 v26 v29 v32 v33 v36 v39 v41 v42 v43 v44 v45 v46 v47 v48 v49 v50 v51 v52 v53 v54 v55 v56 v57 v58 v59 v60 v61 v62 v63 v64 v65 v66 v67 v68 v69 v70 v71 v72 v73 v74 v75 v76 v77 v78 v79 v80 v81 v82 v83 v84 v85 v86 v87 v88 v89 v90 v91 v92 v93 v94 v95 v96 v97 v98 v99 v100 v101 v102 v103 v104 v105 v106 v107 v108 v109 v110 v111 v112 v113 v114 v115 v116 v117 v118 v119 v120 v121 v122 v123 v124 v125 v126 v127 v128 v129 v130 v131 v132 v133 v134 : Value} {aE : Option Addr} {cE : Nat} (HJ : Hid (JoS w wr lf k D lD)) (HL1 : Hid (w.heap.size + 1 ≤ wr.heap.size)) (FE : Hid (n2E = D.es.length + D.es.length ∧ D.es.length ≤ 8000000)) (FK : Hid (n2K = D.ks.length + D.ks.length ∧ D.ks.length ≤ 8000000)) (FD : Hid (n2D = D.ds.length + D.ds.length ∧ D.ds.length ≤ 8000000)) (HE : Hid (CellsAt wr lD.EA uE)) (HK : Hid (CellsAt wr lD.KA uK)) (HD : Hid (CellsAt wr lD.DA uD)) (LE : Hid (uE.length = D.es.length * 8)) (LK : Hid (uK.length = D.ks.length * 2)) (LD : Hid (uD.length = D.ds.length * 1)) (OE : Hid (∀ u ∈ uE, u.oneCell' = true)) (OK : Hid (∀ u ∈ uK, u.oneCell' = true)) (OD : Hid (∀ u ∈ uD, u.oneCell' = true)) (HU : Hid (uE = D.es.flatMap enC ∧ uK = D.ks.flatMap kyC ∧ uD = D.ds.map kdC ∧ D2 = ⟨D.leaf, D.es ++ D.es, D.ks ++ D.ks, D.ds ++ D.ds⟩)) (HB : Hid (Below wr.heap.size wr xx)) (RE : Hid (xx.ownsRow wr.heap.size 51 8 (.slice aE n2E cE) n2E (uE ++ uE))) (RK : Hid (xx.ownsRow wr.heap.size 48 2 (v26) 0 [])) (hQ : Hid (∀ b19 b20 b21 b22 b23 b24 b25 b26 b27 b28 b29 b30 b31 b32 b33 b34 b35 b36 b37 b38 b39 b40 b41 b42 : Value, ∀ x2 : World, Hid (∃ l2, JoS w x2 lf (k + 1) D2 l2) → Q .normal { tmps := #[v0, v1, .pointer (some ⟨w.heap.size, 0, none⟩), v3, v4, v5, v6, v7, v8, v9, v10, v11, v12, v13, v14, v15, v16, v17, v18, b19, b20, b21, b22, b23, b24, b25, b26, b27, b28, b29, b30, b31, b32, b33, b34, b35, b36, b37, b38, b39, b40, b41, b42, v43, v44, v45, v46, v47, v48, v49, v50, v51, v52, v53, v54, v55, v56, v57, v58, v59, v60, v61, v62, v63, v64, v65, v66, v67, v68, v69, v70, v71, v72, v73, v74, v75, v76, v77, v78, v79, v80, v81, v82, v83, v84, v85, v86, v87, v88, v89, v90, v91, v92, v93, v94, v95, v96, v97, v98, v99, v100, v101, v102, v103, v104, v105, v106, v107, v108, v109, v110, v111, v112, v113, v114, v115, v116, v117, v118, v119, v120, v121, v122, v123, v124, v125, v126, v127, v128, v129, v130, v131, v132, v133, v134], defers := [] } x2)) :
    wpWaysT Try.prog reg4ops.toArray Q (fun w' => ∃ y : SubW (w.heap.size + 1) wr, w' = y.at_) (reg4ops.drop 22) (.two [] 10 (.two [] 13 (.one [] 14 (.one [] 17 (.one [] 20 (.done [])))) 14 (.one [] 13 (.one [] 17 (.one [] 20 (.done []))))) 14 (.one [] 10 (.one [] 13 (.one [] 17 (.one [] 20 (.done [])))))) { tmps := #[v0, v1, .pointer (some ⟨w.heap.size, 0, none⟩), v3, v4, v5, v6, v7, v8, v9, v10, v11, v12, v13, v14, v15, v16, v17, v18, v19, .pointer (some ⟨w.heap.size, 1, none⟩), .slice lD.EA D.es.length lD.ec, v22, .pointer (some ⟨w.heap.size, 1, none⟩), .slice lD.EA D.es.length lD.ec, .slice aE n2E cE, v26, .pointer (some ⟨w.heap.size, 2, none⟩), .slice lD.KA D.ks.length lD.kc, v29, .pointer (some ⟨w.heap.size, 2, none⟩), .slice lD.KA D.ks.length lD.kc, v32, v33, .pointer (some ⟨w.heap.size, 3, none⟩), .slice lD.DA D.ds.length lD.dc, v36, .pointer (some ⟨w.heap.size, 3, none⟩), .slice lD.DA D.ds.length lD.dc, v39, .pointer (some ⟨w.heap.size, 1, none⟩), v41, v42, v43, v44, v45, v46, v47, v48, v49, v50, v51, v52, v53, v54, v55, v56, v57, v58, v59, v60, v61, v62, v63, v64, v65, v66, v67, v68, v69, v70, v71, v72, v73, v74, v75, v76, v77, v78, v79, v80, v81, v82, v83, v84, v85, v86, v87, v88, v89, v90, v91, v92, v93, v94, v95, v96, v97, v98, v99, v100, v101, v102, v103, v104, v105, v106, v107, v108, v109, v110, v111, v112, v113, v114, v115, v116, v117, v118, v119, v120, v121, v122, v123, v124, v125, v126, v127, v128, v129, v130, v131, v132, v133, v134], defers := [] } xx := by
  rw [wpWaysT_two]
  try simp only [reg4ops, List.map_cons, List.map_nil, opAt, List.getElem?_toArray, List.getElem?_cons_zero, List.getElem?_cons_succ, Option.getD_some]
  refine wpQuiet_nil ⟨?_, ?_⟩
  · skip
    go_wp2_with (at_builtin; refine appK1 rfl (.tmp 26) (.tmp 28) rfl _ rfl RK.out rfl HK.out HB.out LK.out OK.out FK.out ?_; intro A1 c1 x1 R1 g1)
    have Q1E := Lib.hid (row_keep RE.out (fun k cur _ hc => typed_kept RK.out g1 (by decide) hc))
    have B1 := Lib.hid (grown_bel HB.out RK.out g1)
    replace R1 := Lib.hid R1
    clear g1
    refine ⟨⟨⟨_, B1.out.mono HL1.out⟩, rfl⟩, ?_⟩
    try simp only [Act.put, List.setIfInBounds_toArray, List.set_cons_zero, List.set_cons_succ]
    exact st_0_3_6_7_10 HJ HL1 FE FK FD HE HK HD LE LK LD OE OK OD HU B1 Q1E R1 hQ
  · skip
    go_wp2_with fail
    obtain ⟨x1, ex1⟩ : ∃ x, x = xx.alloc (.cells #[] 3) := ⟨_, rfl⟩
    rw [← ex1]
    have R1 := Lib.hid (empty_row wr xx 3 1 x1 ex1 HB.out)
    have b1 := alloc_bel ex1
    have Q1E := Lib.hid (row_below RE.out b1)
    have Q1K := Lib.hid (row_below RK.out b1)
    have B1 := Lib.hid (HB.out.trans (b1.mono HB.out.size))
    clear b1 ex1
    refine ⟨⟨⟨_, B1.out.mono HL1.out⟩, rfl⟩, ?_⟩
    try simp only [Act.put, List.setIfInBounds_toArray, List.set_cons_zero, List.set_cons_succ]
    exact st_0_3_6_7_14 HJ HL1 FE FK FD HE HK HD LE LK LD OE OK OD HU B1 Q1E Q1K R1 hQ

set_option maxRecDepth 100000 in
set_option maxHeartbeats 4000000 in
theorem st_0_3_6_14 {w wr xx : World} {lf : Bool} {k : Nat} {D D2 : NodeD} {lD : NdL} {uE uK uD : List Value} {n2E n2K n2D : Nat} {Q : Exit → Act → World → Prop} {v0 v1 v3 v4 v5 v6 v7 v8 v9 v10 v11 v12 v13 v14 v15 v16 v17 v18 v19 v22 v26 v29 v32 v33 v36 v39 v41 v42 v43 v44 v45 v46 v47 v48 v49 v50 v51 v52 v53 v54 v55 v56 v57 v58 v59 v60 v61 v62 v63 v64 v65 v66 v67 v68 v69 v70 v71 v72 v73 v74 v75 v76 v77 v78 v79 v80 v81 v82 v83 v84 v85 v86 v87 v88 v89 v90 v91 v92 v93 v94 v95 v96 v97 v98 v99 v100 v101 v102 v103 v104 v105 v106 v107 v108 v109 v110 v111 v112 v113 v114 v115 v116 v117 v118 v119 v120 v121 v122 v123 v124 v125 v126 v127 v128 v129 v130 v131 v132 v133 v134 : Value} {aE : Option Addr} {cE : Nat} (HJ : Hid (JoS w wr lf k D lD)) (HL1 : Hid (w.heap.size + 1 ≤ wr.heap.size)) (FE : Hid (n2E = D.es.length + D.es.length ∧ D.es.length ≤ 8000000)) (FK : Hid (n2K = D.ks.length + D.ks.length ∧ D.ks.length ≤ 8000000)) (FD : Hid (n2D = D.ds.length + D.ds.length ∧ D.ds.length ≤ 8000000)) (HE : Hid (CellsAt wr lD.EA uE)) (HK : Hid (CellsAt wr lD.KA uK)) (HD : Hid (CellsAt wr lD.DA uD)) (LE : Hid (uE.length = D.es.length * 8)) (LK : Hid (uK.length = D.ks.length * 2)) (LD : Hid (uD.length = D.ds.length * 1)) (OE : Hid (∀ u ∈ uE, u.oneCell' = true)) (OK : Hid (∀ u ∈ uK, u.oneCell' = true)) (OD : Hid (∀ u ∈ uD, u.oneCell' = true)) (HU : Hid (uE = D.es.flatMap enC ∧ uK = D.ks.flatMap kyC ∧ uD = D.ds.map kdC ∧ D2 = ⟨D.leaf, D.es ++ D.es, D.ks ++ D.ks, D.ds ++ D.ds⟩)) (HB : Hid (Below wr.heap.size wr xx)) (RE : Hid (xx.ownsRow wr.heap.size 51 8 (.slice aE n2E cE) n2E (uE ++ uE))) (RD : Hid (xx.ownsRow wr.heap.size 3 1 (v33) 0 [])) (hQ : Hid (∀ b19 b20 b21 b22 b23 b24 b25 b26 b27 b28 b29 b30 b31 b32 b33 b34 b35 b36 b37 b38 b39 b40 b41 b42 : Value, ∀ x2 : World, Hid (∃ l2, JoS w x2 lf (k + 1) D2 l2) → Q .normal { tmps := #[v0, v1, .pointer (some ⟨w.heap.size, 0, none⟩), v3, v4, v5, v6, v7, v8, v9, v10, v11, v12, v13, v14, v15, v16, v17, v18, b19, b20, b21, b22, b23, b24, b25, b26, b27, b28, b29, b30, b31, b32, b33, b34, b35, b36, b37, b38, b39, b40, b41, b42, v43, v44, v45, v46, v47, v48, v49, v50, v51, v52, v53, v54, v55, v56, v57, v58, v59, v60, v61, v62, v63, v64, v65, v66, v67, v68, v69, v70, v71, v72, v73, v74, v75, v76, v77, v78, v79, v80, v81, v82, v83, v84, v85, v86, v87, v88, v89, v90, v91, v92, v93, v94, v95, v96, v97, v98, v99, v100, v101, v102, v103, v104, v105, v106, v107, v108, v109, v110, v111, v112, v113, v114, v115, v116, v117, v118, v119, v120, v121, v122, v123, v124, v125, v126, v127, v128, v129, v130, v131, v132, v133, v134], defers := [] } x2)) :
    wpWaysT Try.prog reg4ops.toArray Q (fun w' => ∃ y : SubW (w.heap.size + 1) wr, w' = y.at_) (reg4ops.drop 22) (.one [] 7 (.one [] 10 (.one [] 13 (.one [] 17 (.one [] 20 (.done [])))))) { tmps := #[v0, v1, .pointer (some ⟨w.heap.size, 0, none⟩), v3, v4, v5, v6, v7, v8, v9, v10, v11, v12, v13, v14, v15, v16, v17, v18, v19, .pointer (some ⟨w.heap.size, 1, none⟩), .slice lD.EA D.es.length lD.ec, v22, .pointer (some ⟨w.heap.size, 1, none⟩), .slice lD.EA D.es.length lD.ec, .slice aE n2E cE, v26, .pointer (some ⟨w.heap.size, 2, none⟩), .slice lD.KA D.ks.length lD.kc, v29, .pointer (some ⟨w.heap.size, 2, none⟩), .slice lD.KA D.ks.length lD.kc, v32, v33, .pointer (some ⟨w.heap.size, 3, none⟩), .slice lD.DA D.ds.length lD.dc, v36, .pointer (some ⟨w.heap.size, 3, none⟩), .slice lD.DA D.ds.length lD.dc, v39, .pointer (some ⟨w.heap.size, 1, none⟩), v41, v42, v43, v44, v45, v46, v47, v48, v49, v50, v51, v52, v53, v54, v55, v56, v57, v58, v59, v60, v61, v62, v63, v64, v65, v66, v67, v68, v69, v70, v71, v72, v73, v74, v75, v76, v77, v78, v79, v80, v81, v82, v83, v84, v85, v86, v87, v88, v89, v90, v91, v92, v93, v94, v95, v96, v97, v98, v99, v100, v101, v102, v103, v104, v105, v106, v107, v108, v109, v110, v111, v112, v113, v114, v115, v116, v117, v118, v119, v120, v121, v122, v123, v124, v125, v126, v127, v128, v129, v130, v131, v132, v133, v134], defers := [] } xx := by
  rw [wpWaysT_one]
  try simp only [reg4ops, List.map_cons, List.map_nil, opAt, List.getElem?_toArray, List.getElem?_cons_zero, List.getElem?_cons_succ, Option.getD_some]
  refine wpQuiet_nil ?_
  · skip
    go_wp2_with fail
    obtain ⟨x1, ex1⟩ : ∃ x, x = xx.alloc (.cells #[] 48) := ⟨_, rfl⟩
    rw [← ex1]
    have R1 := Lib.hid (empty_row wr xx 48 2 x1 ex1 HB.out)
    have b1 := alloc_bel ex1
    have Q1E := Lib.hid (row_below RE.out b1)
    have Q1D := Lib.hid (row_below RD.out b1)
    have B1 := Lib.hid (HB.out.trans (b1.mono HB.out.size))
    clear b1 ex1
    refine ⟨⟨⟨_, B1.out.mono HL1.out⟩, rfl⟩, ?_⟩
    try simp only [Act.put, List.setIfInBounds_toArray, List.set_cons_zero, List.set_cons_succ]
    exact st_0_3_6_7_14 HJ HL1 FE FK FD HE HK HD LE LK LD OE OK OD HU B1 Q1E R1 Q1D hQ

set_option maxRecDepth 100000 in
set_option maxHeartbeats 4000000 in
theorem st_0_3_6_s {w wr xx : World} {lf : Bool} {k : Nat} {D D2 : NodeD} {lD : NdL} {uE uK uD : List Value} {n2E n2K n2D : Nat} {Q : Exit → Act → World → Prop} {v0 v1 v3 v4 v5 v6 v7 v8 v9 v10 v11 v12 v13 v14 v15 v16 v17 v18 v19 v22 v26 v29 v32 v33 v36 v39 v40 v41 v42 v43 v44 v45 v46 v47 v48 v49 v50 v51 v52 v53 v54 v55 v56 v57 v58 v59 v60 v61 v62 v63 v64 v65 v66 v67 v68 v69 v70 v71 v72 v73 v74 v75 v76 v77 v78 v79 v80 v81 v82 v83 v84 v85 v86 v87 v88 v89 v90 v91 v92 v93 v94 v95 v96 v97 v98 v99 v100 v101 v102 v103 v104 v105 v106 v107 v108 v109 v110 v111 v112 v113 v114 v115 v116 v117 v118 v119 v120 v121 v122 v123 v124 v125 v126 v127 v128 v129 v130 v131 v132 v133 v134 : Value} {aE : Option Addr} {cE : Nat} (HJ : Hid (JoS w wr lf k D lD)) (HL1 : Hid (w.heap.size + 1 ≤ wr.heap.size)) (FE : Hid (n2E = D.es.length + D.es.length ∧ D.es.length ≤ 8000000)) (FK : Hid (n2K = D.ks.length + D.ks.length ∧ D.ks.length ≤ 8000000)) (FD : Hid (n2D = D.ds.length + D.ds.length ∧ D.ds.length ≤ 8000000)) (HE : Hid (CellsAt wr lD.EA uE)) (HK : Hid (CellsAt wr lD.KA uK)) (HD : Hid (CellsAt wr lD.DA uD)) (LE : Hid (uE.length = D.es.length * 8)) (LK : Hid (uK.length = D.ks.length * 2)) (LD : Hid (uD.length = D.ds.length * 1)) (OE : Hid (∀ u ∈ uE, u.oneCell' = true)) (OK : Hid (∀ u ∈ uK, u.oneCell' = true)) (OD : Hid (∀ u ∈ uD, u.oneCell' = true)) (HU : Hid (uE = D.es.flatMap enC ∧ uK = D.ks.flatMap kyC ∧ uD = D.ds.map kdC ∧ D2 = ⟨D.leaf, D.es ++ D.es, D.ks ++ D.ks, D.ds ++ D.ds⟩)) (HB : Hid (Below wr.heap.size wr xx)) (RE : Hid (xx.ownsRow wr.heap.size 51 8 (.slice aE n2E cE) n2E (uE ++ uE))) (hQ : Hid (∀ b19 b20 b21 b22 b23 b24 b25 b26 b27 b28 b29 b30 b31 b32 b33 b34 b35 b36 b37 b38 b39 b40 b41 b42 : Value, ∀ x2 : World, Hid (∃ l2, JoS w x2 lf (k + 1) D2 l2) → Q .normal { tmps := #[v0, v1, .pointer (some ⟨w.heap.size, 0, none⟩), v3, v4, v5, v6, v7, v8, v9, v10, v11, v12, v13, v14, v15, v16, v17, v18, b19, b20, b21, b22, b23, b24, b25, b26, b27, b28, b29, b30, b31, b32, b33, b34, b35, b36, b37, b38, b39, b40, b41, b42, v43, v44, v45, v46, v47, v48, v49, v50, v51, v52, v53, v54, v55, v56, v57, v58, v59, v60, v61, v62, v63, v64, v65, v66, v67, v68, v69, v70, v71, v72, v73, v74, v75, v76, v77, v78, v79, v80, v81, v82, v83, v84, v85, v86, v87, v88, v89, v90, v91, v92, v93, v94, v95, v96, v97, v98, v99, v100, v101, v102, v103, v104, v105, v106, v107, v108, v109, v110, v111, v112, v113, v114, v115, v116, v117, v118, v119, v120, v121, v122, v123, v124, v125, v126, v127, v128, v129, v130, v131, v132, v133, v134], defers := [] } x2)) :
    wpWaysT Try.prog reg4ops.toArray Q (fun w' => ∃ y : SubW (w.heap.size + 1) wr, w' = y.at_) (reg4ops.drop 22) (.two [21] 7 (.two [] 10 (.two [] 13 (.one [] 14 (.one [] 17 (.one [] 20 (.done [])))) 14 (.one [] 13 (.one [] 17 (.one [] 20 (.done []))))) 14 (.one [] 10 (.one [] 13 (.one [] 17 (.one [] 20 (.done [])))))) 14 (.one [] 7 (.one [] 10 (.one [] 13 (.one [] 17 (.one [] 20 (.done []))))))) { tmps := #[v0, v1, .pointer (some ⟨w.heap.size, 0, none⟩), v3, v4, v5, v6, v7, v8, v9, v10, v11, v12, v13, v14, v15, v16, v17, v18, v19, .pointer (some ⟨w.heap.size, 1, none⟩), .slice lD.EA D.es.length lD.ec, v22, .pointer (some ⟨w.heap.size, 1, none⟩), .slice lD.EA D.es.length lD.ec, .slice aE n2E cE, v26, .pointer (some ⟨w.heap.size, 2, none⟩), .slice lD.KA D.ks.length lD.kc, v29, .pointer (some ⟨w.heap.size, 2, none⟩), .slice lD.KA D.ks.length lD.kc, v32, v33, .pointer (some ⟨w.heap.size, 3, none⟩), .slice lD.DA D.ds.length lD.dc, v36, .pointer (some ⟨w.heap.size, 3, none⟩), .slice lD.DA D.ds.length lD.dc, v39, v40, v41, v42, v43, v44, v45, v46, v47, v48, v49, v50, v51, v52, v53, v54, v55, v56, v57, v58, v59, v60, v61, v62, v63, v64, v65, v66, v67, v68, v69, v70, v71, v72, v73, v74, v75, v76, v77, v78, v79, v80, v81, v82, v83, v84, v85, v86, v87, v88, v89, v90, v91, v92, v93, v94, v95, v96, v97, v98, v99, v100, v101, v102, v103, v104, v105, v106, v107, v108, v109, v110, v111, v112, v113, v114, v115, v116, v117, v118, v119, v120, v121, v122, v123, v124, v125, v126, v127, v128, v129, v130, v131, v132, v133, v134], defers := [] } xx := by
  rw [wpWaysT_two]
  try simp only [reg4ops, List.map_cons, List.map_nil, opAt, List.getElem?_toArray, List.getElem?_cons_zero, List.getElem?_cons_succ, Option.getD_some]
  repeat (go_big_quiet_step (fail))
  refine wpQuiet_nil ⟨?_, ?_⟩
  · skip
    go_wp2_with fail
    obtain ⟨x1, ex1⟩ : ∃ x, x = xx.alloc (.cells #[] 48) := ⟨_, rfl⟩
    rw [← ex1]
    have R1 := Lib.hid (empty_row wr xx 48 2 x1 ex1 HB.out)
    have b1 := alloc_bel ex1
    have Q1E := Lib.hid (row_below RE.out b1)
    have B1 := Lib.hid (HB.out.trans (b1.mono HB.out.size))
    clear b1 ex1
    refine ⟨⟨⟨_, B1.out.mono HL1.out⟩, rfl⟩, ?_⟩
    try simp only [Act.put, List.setIfInBounds_toArray, List.set_cons_zero, List.set_cons_succ]
    exact st_0_3_6_7 HJ HL1 FE FK FD HE HK HD LE LK LD OE OK OD HU B1 Q1E R1 hQ
  · skip
    go_wp2_with fail
    obtain ⟨x1, ex1⟩ : ∃ x, x = xx.alloc (.cells #[] 3) := ⟨_, rfl⟩
    rw [← ex1]
    have R1 := Lib.hid (empty_row wr xx 3 1 x1 ex1 HB.out)
    have b1 := alloc_bel ex1
    have Q1E := Lib.hid (row_below RE.out b1)
    have B1 := Lib.hid (HB.out.trans (b1.mono HB.out.size))
    clear b1 ex1
    refine ⟨⟨⟨_, B1.out.mono HL1.out⟩, rfl⟩, ?_⟩
    try simp only [Act.put, List.setIfInBounds_toArray, List.set_cons_zero, List.set_cons_succ]
    exact st_0_3_6_14 HJ HL1 FE FK FD HE HK HD LE LK LD OE OK OD HU B1 Q1E R1 hQ

set_option maxRecDepth 100000 in
set_option maxHeartbeats 4000000 in
theorem st_0_3_6_7_s {w wr xx : World} {lf : Bool} {k : Nat} {D D2 : NodeD} {lD : NdL} {uE uK uD : List Value} {n2E n2K n2D : Nat} {Q : Exit → Act → World → Prop} {v0 v1 v3 v4 v5 v6 v7 v8 v9 v10 v11 v12 v13 v14 v15 v16 v17 v18 v19 v22 v26 v29 v32 v33 v36 v39 v40 v41 v42 v43 v44 v45 v46 v47 v48 v49 v50 v51 v52 v53 v54 v55 v56 v57 v58 v59 v60 v61 v62 v63 v64 v65 v66 v67 v68 v69 v70 v71 v72 v73 v74 v75 v76 v77 v78 v79 v80 v81 v82 v83 v84 v85 v86 v87 v88 v89 v90 v91 v92 v93 v94 v95 v96 v97 v98 v99 v100 v101 v102 v103 v104 v105 v106 v107 v108 v109 v110 v111 v112 v113 v114 v115 v116 v117 v118 v119 v120 v121 v122 v123 v124 v125 v126 v127 v128 v129 v130 v131 v132 v133 v134 : Value} {aE : Option Addr} {cE : Nat} (HJ : Hid (JoS w wr lf k D lD)) (HL1 : Hid (w.heap.size + 1 ≤ wr.heap.size)) (FE : Hid (n2E = D.es.length + D.es.length ∧ D.es.length ≤ 8000000)) (FK : Hid (n2K = D.ks.length + D.ks.length ∧ D.ks.length ≤ 8000000)) (FD : Hid (n2D = D.ds.length + D.ds.length ∧ D.ds.length ≤ 8000000)) (HE : Hid (CellsAt wr lD.EA uE)) (HK : Hid (CellsAt wr lD.KA uK)) (HD : Hid (CellsAt wr lD.DA uD)) (LE : Hid (uE.length = D.es.length * 8)) (LK : Hid (uK.length = D.ks.length * 2)) (LD : Hid (uD.length = D.ds.length * 1)) (OE : Hid (∀ u ∈ uE, u.oneCell' = true)) (OK : Hid (∀ u ∈ uK, u.oneCell' = true)) (OD : Hid (∀ u ∈ uD, u.oneCell' = true)) (HU : Hid (uE = D.es.flatMap enC ∧ uK = D.ks.flatMap kyC ∧ uD = D.ds.map kdC ∧ D2 = ⟨D.leaf, D.es ++ D.es, D.ks ++ D.ks, D.ds ++ D.ds⟩)) (HB : Hid (Below wr.heap.size wr xx)) (RE : Hid (xx.ownsRow wr.heap.size 51 8 (.slice aE n2E cE) n2E (uE ++ uE))) (RK : Hid (xx.ownsRow wr.heap.size 48 2 (v26) 0 [])) (hQ : Hid (∀ b19 b20 b21 b22 b23 b24 b25 b26 b27 b28 b29 b30 b31 b32 b33 b34 b35 b36 b37 b38 b39 b40 b41 b42 : Value, ∀ x2 : World, Hid (∃ l2, JoS w x2 lf (k + 1) D2 l2) → Q .normal { tmps := #[v0, v1, .pointer (some ⟨w.heap.size, 0, none⟩), v3, v4, v5, v6, v7, v8, v9, v10, v11, v12, v13, v14, v15, v16, v17, v18, b19, b20, b21, b22, b23, b24, b25, b26, b27, b28, b29, b30, b31, b32, b33, b34, b35, b36, b37, b38, b39, b40, b41, b42, v43, v44, v45, v46, v47, v48, v49, v50, v51, v52, v53, v54, v55, v56, v57, v58, v59, v60, v61, v62, v63, v64, v65, v66, v67, v68, v69, v70, v71, v72, v73, v74, v75, v76, v77, v78, v79, v80, v81, v82, v83, v84, v85, v86, v87, v88, v89, v90, v91, v92, v93, v94, v95, v96, v97, v98, v99, v100, v101, v102, v103, v104, v105, v106, v107, v108, v109, v110, v111, v112, v113, v114, v115, v116, v117, v118, v119, v120, v121, v122, v123, v124, v125, v126, v127, v128, v129, v130, v131, v132, v133, v134], defers := [] } x2)) :
    wpWaysT Try.prog reg4ops.toArray Q (fun w' => ∃ y : SubW (w.heap.size + 1) wr, w' = y.at_) (reg4ops.drop 22) (.two [21] 10 (.two [] 13 (.one [] 14 (.one [] 17 (.one [] 20 (.done [])))) 14 (.one [] 13 (.one [] 17 (.one [] 20 (.done []))))) 14 (.one [] 10 (.one [] 13 (.one [] 17 (.one [] 20 (.done [])))))) { tmps := #[v0, v1, .pointer (some ⟨w.heap.size, 0, none⟩), v3, v4, v5, v6, v7, v8, v9, v10, v11, v12, v13, v14, v15, v16, v17, v18, v19, .pointer (some ⟨w.heap.size, 1, none⟩), .slice lD.EA D.es.length lD.ec, v22, .pointer (some ⟨w.heap.size, 1, none⟩), .slice lD.EA D.es.length lD.ec, .slice aE n2E cE, v26, .pointer (some ⟨w.heap.size, 2, none⟩), .slice lD.KA D.ks.length lD.kc, v29, .pointer (some ⟨w.heap.size, 2, none⟩), .slice lD.KA D.ks.length lD.kc, v32, v33, .pointer (some ⟨w.heap.size, 3, none⟩), .slice lD.DA D.ds.length lD.dc, v36, .pointer (some ⟨w.heap.size, 3, none⟩), .slice lD.DA D.ds.length lD.dc, v39, v40, v41, v42, v43, v44, v45, v46, v47, v48, v49, v50, v51, v52, v53, v54, v55, v56, v57, v58, v59, v60, v61, v62, v63, v64, v65, v66, v67, v68, v69, v70, v71, v72, v73, v74, v75, v76, v77, v78, v79, v80, v81, v82, v83, v84, v85, v86, v87, v88, v89, v90, v91, v92, v93, v94, v95, v96, v97, v98, v99, v100, v101, v102, v103, v104, v105, v106, v107, v108, v109, v110, v111, v112, v113, v114, v115, v116, v117, v118, v119, v120, v121, v122, v123, v124, v125, v126, v127, v128, v129, v130, v131, v132, v133, v134], defers := [] } xx := by
  rw [wpWaysT_two]
  try simp only [reg4ops, List.map_cons, List.map_nil, opAt, List.getElem?_toArray, List.getElem?_cons_zero, List.getElem?_cons_succ, Option.getD_some]
  repeat (go_big_quiet_step (fail))
  refine wpQuiet_nil ⟨?_, ?_⟩
  · skip
    go_wp2_with (at_builtin; refine appK1 rfl (.tmp 26) (.tmp 28) rfl _ rfl RK.out rfl HK.out HB.out LK.out OK.out FK.out ?_; intro A1 c1 x1 R1 g1)
    have Q1E := Lib.hid (row_keep RE.out (fun k cur _ hc => typed_kept RK.out g1 (by decide) hc))
    have B1 := Lib.hid (grown_bel HB.out RK.out g1)
    replace R1 := Lib.hid R1
    clear g1
    refine ⟨⟨⟨_, B1.out.mono HL1.out⟩, rfl⟩, ?_⟩
    try simp only [Act.put, List.setIfInBounds_toArray, List.set_cons_zero, List.set_cons_succ]
    exact st_0_3_6_7_10 HJ HL1 FE FK FD HE HK HD LE LK LD OE OK OD HU B1 Q1E R1 hQ
  · skip
    go_wp2_with fail
    obtain ⟨x1, ex1⟩ : ∃ x, x = xx.alloc (.cells #[] 3) := ⟨_, rfl⟩
    rw [← ex1]
    have R1 := Lib.hid (empty_row wr xx 3 1 x1 ex1 HB.out)
    have b1 := alloc_bel ex1
    have Q1E := Lib.hid (row_below RE.out b1)
    have Q1K := Lib.hid (row_below RK.out b1)
    have B1 := Lib.hid (HB.out.trans (b1.mono HB.out.size))
    clear b1 ex1
    refine ⟨⟨⟨_, B1.out.mono HL1.out⟩, rfl⟩, ?_⟩
    try simp only [Act.put, List.setIfInBounds_toArray, List.set_cons_zero, List.set_cons_succ]
    exact st_0_3_6_7_14 HJ HL1 FE FK FD HE HK HD LE LK LD OE OK OD HU B1 Q1E Q1K R1 hQ

set_option maxRecDepth 100000 in
set_option maxHeartbeats 4000000 in
theorem st_0_3_6_7_14_s {w wr xx : World} {lf : Bool} {k : Nat} {D D2 : NodeD} {lD : NdL} {uE uK uD : List Value} {n2E n2K n2D : Nat} {Q : Exit → Act → World → Prop} {v0 v1 v3 v4 v5 v6 v7 v8 v9 v10 v11 v12 v13 v14 v15 v16 v17 v18 v19 v22 v26 v29 v32 v33 v36 v39 v40 v41 v42 v43 v44 v45 v46 v47 v48 v49 v50 v51 v52 v53 v54 v55 v56 v57 v58 v59 v60 v61 v62 v63 v64 v65 v66 v67 v68 v69 v70 v71 v72 v73 v74 v75 v76 v77 v78 v79 v80 v81 v82 v83 v84 v85 v86 v87 v88 v89 v90 v91 v92 v93 v94 v95 v96 v97 v98 v99 v100 v101 v102 v103 v104 v105 v106 v107 v108 v109 v110 v111 v112 v113 v114 v115 v116 v117 v118 v119 v120 v121 v122 v123 v124 v125 v126 v127 v128 v129 v130 v131 v132 v133 v134 : Value} {aE : Option Addr} {cE : Nat} (HJ : Hid (JoS w wr lf k D lD)) (HL1 : Hid (w.heap.size + 1 ≤ wr.heap.size)) (FE : Hid (n2E = D.es.length + D.es.length ∧ D.es.length ≤ 8000000)) (FK : Hid (n2K = D.ks.length + D.ks.length ∧ D.ks.length ≤ 8000000)) (FD : Hid (n2D = D.ds.length + D.ds.length ∧ D.ds.length ≤ 8000000)) (HE : Hid (CellsAt wr lD.EA uE)) (HK : Hid (CellsAt wr lD.KA uK)) (HD : Hid (CellsAt wr lD.DA uD)) (LE : Hid (uE.length = D.es.length * 8)) (LK : Hid (uK.length = D.ks.length * 2)) (LD : Hid (uD.length = D.ds.length * 1)) (OE : Hid (∀ u ∈ uE, u.oneCell' = true)) (OK : Hid (∀ u ∈ uK, u.oneCell' = true)) (OD : Hid (∀ u ∈ uD, u.oneCell' = true)) (HU : Hid (uE = D.es.flatMap enC ∧ uK = D.ks.flatMap kyC ∧ uD = D.ds.map kdC ∧ D2 = ⟨D.leaf, D.es ++ D.es, D.ks ++ D.ks, D.ds ++ D.ds⟩)) (HB : Hid (Below wr.heap.size wr xx)) (RE : Hid (xx.ownsRow wr.heap.size 51 8 (.slice aE n2E cE) n2E (uE ++ uE))) (RK : Hid (xx.ownsRow wr.heap.size 48 2 (v26) 0 [])) (RD : Hid (xx.ownsRow wr.heap.size 3 1 (v33) 0 [])) (hQ : Hid (∀ b19 b20 b21 b22 b23 b24 b25 b26 b27 b28 b29 b30 b31 b32 b33 b34 b35 b36 b37 b38 b39 b40 b41 b42 : Value, ∀ x2 : World, Hid (∃ l2, JoS w x2 lf (k + 1) D2 l2) → Q .normal { tmps := #[v0, v1, .pointer (some ⟨w.heap.size, 0, none⟩), v3, v4, v5, v6, v7, v8, v9, v10, v11, v12, v13, v14, v15, v16, v17, v18, b19, b20, b21, b22, b23, b24, b25, b26, b27, b28, b29, b30, b31, b32, b33, b34, b35, b36, b37, b38, b39, b40, b41, b42, v43, v44, v45, v46, v47, v48, v49, v50, v51, v52, v53, v54, v55, v56, v57, v58, v59, v60, v61, v62, v63, v64, v65, v66, v67, v68, v69, v70, v71, v72, v73, v74, v75, v76, v77, v78, v79, v80, v81, v82, v83, v84, v85, v86, v87, v88, v89, v90, v91, v92, v93, v94, v95, v96, v97, v98, v99, v100, v101, v102, v103, v104, v105, v106, v107, v108, v109, v110, v111, v112, v113, v114, v115, v116, v117, v118, v119, v120, v121, v122, v123, v124, v125, v126, v127, v128, v129, v130, v131, v132, v133, v134], defers := [] } x2)) :
    wpWaysT Try.prog reg4ops.toArray Q (fun w' => ∃ y : SubW (w.heap.size + 1) wr, w' = y.at_) (reg4ops.drop 22) (.one [21] 10 (.one [] 13 (.one [] 17 (.one [] 20 (.done []))))) { tmps := #[v0, v1, .pointer (some ⟨w.heap.size, 0, none⟩), v3, v4, v5, v6, v7, v8, v9, v10, v11, v12, v13, v14, v15, v16, v17, v18, v19, .pointer (some ⟨w.heap.size, 1, none⟩), .slice lD.EA D.es.length lD.ec, v22, .pointer (some ⟨w.heap.size, 1, none⟩), .slice lD.EA D.es.length lD.ec, .slice aE n2E cE, v26, .pointer (some ⟨w.heap.size, 2, none⟩), .slice lD.KA D.ks.length lD.kc, v29, .pointer (some ⟨w.heap.size, 2, none⟩), .slice lD.KA D.ks.length lD.kc, v32, v33, .pointer (some ⟨w.heap.size, 3, none⟩), .slice lD.DA D.ds.length lD.dc, v36, .pointer (some ⟨w.heap.size, 3, none⟩), .slice lD.DA D.ds.length lD.dc, v39, v40, v41, v42, v43, v44, v45, v46, v47, v48, v49, v50, v51, v52, v53, v54, v55, v56, v57, v58, v59, v60, v61, v62, v63, v64, v65, v66, v67, v68, v69, v70, v71, v72, v73, v74, v75, v76, v77, v78, v79, v80, v81, v82, v83, v84, v85, v86, v87, v88, v89, v90, v91, v92, v93, v94, v95, v96, v97, v98, v99, v100, v101, v102, v103, v104, v105, v106, v107, v108, v109, v110, v111, v112, v113, v114, v115, v116, v117, v118, v119, v120, v121, v122, v123, v124, v125, v126, v127, v128, v129, v130, v131, v132, v133, v134], defers := [] } xx := by
  rw [wpWaysT_one]
  try simp only [reg4ops, List.map_cons, List.map_nil, opAt, List.getElem?_toArray, List.getElem?_cons_zero, List.getElem?_cons_succ, Option.getD_some]
  repeat (go_big_quiet_step (fail))
  refine wpQuiet_nil ?_
  · skip
    go_wp2_with (at_builtin; refine appK1 rfl (.tmp 26) (.tmp 28) rfl _ rfl RK.out rfl HK.out HB.out LK.out OK.out FK.out ?_; intro A1 c1 x1 R1 g1)
    have Q1E := Lib.hid (row_keep RE.out (fun k cur _ hc => typed_kept RK.out g1 (by decide) hc))
    have Q1D := Lib.hid (row_keep RD.out (fun k cur _ hc => typed_kept RK.out g1 (by decide) hc))
    have B1 := Lib.hid (grown_bel HB.out RK.out g1)
    replace R1 := Lib.hid R1
    clear g1
    refine ⟨⟨⟨_, B1.out.mono HL1.out⟩, rfl⟩, ?_⟩
    try simp only [Act.put, List.setIfInBounds_toArray, List.set_cons_zero, List.set_cons_succ]
    exact st_0_3_6_7_10_14 HJ HL1 FE FK FD HE HK HD LE LK LD OE OK OD HU B1 Q1E R1 Q1D hQ

set_option maxRecDepth 100000 in
set_option maxHeartbeats 4000000 in
theorem st_0_3_7_14 {w wr xx : World} {lf : Bool} {k : Nat} {D D2 : NodeD} {lD : NdL} {uE uK uD : List Value} {n2E n2K n2D : Nat} {Q : Exit → Act → World → Prop} {v0 v1 v3 v4 v5 v6 v7 v8 v9 v10 v11 v12 v13 v14 v15 v16 v17 v18 v19 v22 v25 v26 v29 v32 v33 v36 v39 v40 v41 v42 v43 v44 v45 v46 v47 v48 v49 v50 v51 v52 v53 v54 v55 v56 v57 v58 v59 v60 v61 v62 v63 v64 v65 v66 v67 v68 v69 v70 v71 v72 v73 v74 v75 v76 v77 v78 v79 v80 v81 v82 v83 v84 v85 v86 v87 v88 v89 v90 v91 v92 v93 v94 v95 v96 v97 v98 v99 v100 v101 v102 v103 v104 v105 v106 v107 v108 v109 v110 v111 v112 v113 v114 v115 v116 v117 v118 v119 v120 v121 v122 v123 v124 v125 v126 v127 v128 v129 v130 v131 v132 v133 v134 : Value} (HJ : Hid (JoS w wr lf k D lD)) (HL1 : Hid (w.heap.size + 1 ≤ wr.heap.size)) (FE : Hid (n2E = D.es.length + D.es.length ∧ D.es.length ≤ 8000000)) (FK : Hid (n2K = D.ks.length + D.ks.length ∧ D.ks.length ≤ 8000000)) (FD : Hid (n2D = D.ds.length + D.ds.length ∧ D.ds.length ≤ 8000000)) (HE : Hid (CellsAt wr lD.EA uE)) (HK : Hid (CellsAt wr lD.KA uK)) (HD : Hid (CellsAt wr lD.DA uD)) (LE : Hid (uE.length = D.es.length * 8)) (LK : Hid (uK.length = D.ks.length * 2)) (LD : Hid (uD.length = D.ds.length * 1)) (OE : Hid (∀ u ∈ uE, u.oneCell' = true)) (OK : Hid (∀ u ∈ uK, u.oneCell' = true)) (OD : Hid (∀ u ∈ uD, u.oneCell' = true)) (HU : Hid (uE = D.es.flatMap enC ∧ uK = D.ks.flatMap kyC ∧ uD = D.ds.map kdC ∧ D2 = ⟨D.leaf, D.es ++ D.es, D.ks ++ D.ks, D.ds ++ D.ds⟩)) (HB : Hid (Below wr.heap.size wr xx)) (RE : Hid (xx.ownsRow wr.heap.size 51 8 (v22) D.es.length uE)) (RK : Hid (xx.ownsRow wr.heap.size 48 2 (v26) 0 [])) (RD : Hid (xx.ownsRow wr.heap.size 3 1 (v33) 0 [])) (hQ : Hid (∀ b19 b20 b21 b22 b23 b24 b25 b26 b27 b28 b29 b30 b31 b32 b33 b34 b35 b36 b37 b38 b39 b40 b41 b42 : Value, ∀ x2 : World, Hid (∃ l2, JoS w x2 lf (k + 1) D2 l2) → Q .normal { tmps := #[v0, v1, .pointer (some ⟨w.heap.size, 0, none⟩), v3, v4, v5, v6, v7, v8, v9, v10, v11, v12, v13, v14, v15, v16, v17, v18, b19, b20, b21, b22, b23, b24, b25, b26, b27, b28, b29, b30, b31, b32, b33, b34, b35, b36, b37, b38, b39, b40, b41, b42, v43, v44, v45, v46, v47, v48, v49, v50, v51, v52, v53, v54, v55, v56, v57, v58, v59, v60, v61, v62, v63, v64, v65, v66, v67, v68, v69, v70, v71, v72, v73, v74, v75, v76, v77, v78, v79, v80, v81, v82, v83, v84, v85, v86, v87, v88, v89, v90, v91, v92, v93, v94, v95, v96, v97, v98, v99, v100, v101, v102, v103, v104, v105, v106, v107, v108, v109, v110, v111, v112, v113, v114, v115, v116, v117, v118, v119, v120, v121, v122, v123, v124, v125, v126, v127, v128, v129, v130, v131, v132, v133, v134], defers := [] } x2)) :
    wpWaysT Try.prog reg4ops.toArray Q (fun w' => ∃ y : SubW (w.heap.size + 1) wr, w' = y.at_) (reg4ops.drop 22) (.one [] 6 (.one [21] 10 (.one [] 13 (.one [] 17 (.one [] 20 (.done [])))))) { tmps := #[v0, v1, .pointer (some ⟨w.heap.size, 0, none⟩), v3, v4, v5, v6, v7, v8, v9, v10, v11, v12, v13, v14, v15, v16, v17, v18, v19, .pointer (some ⟨w.heap.size, 1, none⟩), .slice lD.EA D.es.length lD.ec, v22, .pointer (some ⟨w.heap.size, 1, none⟩), .slice lD.EA D.es.length lD.ec, v25, v26, .pointer (some ⟨w.heap.size, 2, none⟩), .slice lD.KA D.ks.length lD.kc, v29, .pointer (some ⟨w.heap.size, 2, none⟩), .slice lD.KA D.ks.length lD.kc, v32, v33, .pointer (some ⟨w.heap.size, 3, none⟩), .slice lD.DA D.ds.length lD.dc, v36, .pointer (some ⟨w.heap.size, 3, none⟩), .slice lD.DA D.ds.length lD.dc, v39, v40, v41, v42, v43, v44, v45, v46, v47, v48, v49, v50, v51, v52, v53, v54, v55, v56, v57, v58, v59, v60, v61, v62, v63, v64, v65, v66, v67, v68, v69, v70, v71, v72, v73, v74, v75, v76, v77, v78, v79, v80, v81, v82, v83, v84, v85, v86, v87, v88, v89, v90, v91, v92, v93, v94, v95, v96, v97, v98, v99, v100, v101, v102, v103, v104, v105, v106, v107, v108, v109, v110, v111, v112, v113, v114, v115, v116, v117, v118, v119, v120, v121, v122, v123, v124, v125, v126, v127, v128, v129, v130, v131, v132, v133, v134], defers := [] } xx := by
  rw [wpWaysT_one]
  try simp only [reg4ops, List.map_cons, List.map_nil, opAt, List.getElem?_toArray, List.getElem?_cons_zero, List.getElem?_cons_succ, Option.getD_some]
  refine wpQuiet_nil ?_
  · skip
    go_wp2_with (at_builtin; refine appE2 rfl (.tmp 22) (.tmp 24) rfl _ rfl RE.out rfl HE.out HB.out LE.out OE.out FE.out ?_; intro A1 c1 x1 R1 g1)
    have Q1K := Lib.hid (row_keep RK.out (fun k cur _ hc => typed_kept RE.out g1 (by decide) hc))
    have Q1D := Lib.hid (row_keep RD.out (fun k cur _ hc => typed_kept RE.out g1 (by decide) hc))
    have B1 := Lib.hid (grown_bel HB.out RE.out g1)
    replace R1 := Lib.hid R1
    clear g1
    refine ⟨⟨⟨_, B1.out.mono HL1.out⟩, rfl⟩, ?_⟩
    try simp only [Act.put, List.setIfInBounds_toArray, List.set_cons_zero, List.set_cons_succ]
    exact st_0_3_6_7_14_s HJ HL1 FE FK FD HE HK HD LE LK LD OE OK OD HU B1 R1 Q1K Q1D hQ

set_option maxRecDepth 100000 in
set_option maxHeartbeats 4000000 in
theorem st_0_3_7 {w wr xx : World} {lf : Bool} {k : Nat} {D D2 : NodeD} {lD : NdL} {uE uK uD : List Value} {n2E n2K n2D : Nat} {Q : Exit → Act → World → Prop} {v0 v1 v3 v4 v5 v6 v7 v8 v9 v10 v11 v12 v13 v14 v15 v16 v17 v18 v19 v22 v25 v26 v29 v32 v33 v36 v39 v40 v41 v42 v43 v44 v45 v46 v47 v48 v49 v50 v51 v52 v53 v54 v55 v56 v57 v58 v59 v60 v61 v62 v63 v64 v65 v66 v67 v68 v69 v70 v71 v72 v73 v74 v75 v76 v77 v78 v79 v80 v81 v82 v83 v84 v85 v86 v87 v88 v89 v90 v91 v92 v93 v94 v95 v96 v97 v98 v99 v100 v101 v102 v103 v104 v105 v106 v107 v108 v109 v110 v111 v112 v113 v114 v115 v116 v117 v118 v119 v120 v121 v122 v123 v124 v125 v126 v127 v128 v129 v130 v131 v132 v133 v134 : Value} (HJ : Hid (JoS w wr lf k D lD)) (HL1 : Hid (w.heap.size + 1 ≤ wr.heap.size)) (FE : Hid (n2E = D.es.length + D.es.length ∧ D.es.length ≤ 8000000)) (FK : Hid (n2K = D.ks.length + D.ks.length ∧ D.ks.length ≤ 8000000)) (FD : Hid (n2D = D.ds.length + D.ds.length ∧ D.ds.length ≤ 8000000)) (HE : Hid (CellsAt wr lD.EA uE)) (HK : Hid (CellsAt wr lD.KA uK)) (HD : Hid (CellsAt wr lD.DA uD)) (LE : Hid (uE.length = D.es.length * 8)) (LK : Hid (uK.length = D.ks.length * 2)) (LD : Hid (uD.length = D.ds.length * 1)) (OE : Hid (∀ u ∈ uE, u.oneCell' = true)) (OK : Hid (∀ u ∈ uK, u.oneCell' = true)) (OD : Hid (∀ u ∈ uD, u.oneCell' = true)) (HU : Hid (uE = D.es.flatMap enC ∧ uK = D.ks.flatMap kyC ∧ uD = D.ds.map kdC ∧ D2 = ⟨D.leaf, D.es ++ D.es, D.ks ++ D.ks, D.ds ++ D.ds⟩)) (HB : Hid (Below wr.heap.size wr xx)) (RE : Hid (xx.ownsRow wr.heap.size 51 8 (v22) D.es.length uE)) (RK : Hid (xx.ownsRow wr.heap.size 48 2 (v26) 0 [])) (hQ : Hid (∀ b19 b20 b21 b22 b23 b24 b25 b26 b27 b28 b29 b30 b31 b32 b33 b34 b35 b36 b37 b38 b39 b40 b41 b42 : Value, ∀ x2 : World, Hid (∃ l2, JoS w x2 lf (k + 1) D2 l2) → Q .normal { tmps := #[v0, v1, .pointer (some ⟨w.heap.size, 0, none⟩), v3, v4, v5, v6, v7, v8, v9, v10, v11, v12, v13, v14, v15, v16, v17, v18, b19, b20, b21, b22, b23, b24, b25, b26, b27, b28, b29, b30, b31, b32, b33, b34, b35, b36, b37, b38, b39, b40, b41, b42, v43, v44, v45, v46, v47, v48, v49, v50, v51, v52, v53, v54, v55, v56, v57, v58, v59, v60, v61, v62, v63, v64, v65, v66, v67, v68, v69, v70, v71, v72, v73, v74, v75, v76, v77, v78, v79, v80, v81, v82, v83, v84, v85, v86, v87, v88, v89, v90, v91, v92, v93, v94, v95, v96, v97, v98, v99, v100, v101, v102, v103, v104, v105, v106, v107, v108, v109, v110, v111, v112, v113, v114, v115, v116, v117, v118, v119, v120, v121, v122, v123, v124, v125, v126, v127, v128, v129, v130, v131, v132, v133, v134], defers := [] } x2)) :
    wpWaysT Try.prog reg4ops.toArray Q (fun w' => ∃ y : SubW (w.heap.size + 1) wr, w' = y.at_) (reg4ops.drop 22) (.two [] 6 (.two [21] 10 (.two [] 13 (.one [] 14 (.one [] 17 (.one [] 20 (.done [])))) 14 (.one [] 13 (.one [] 17 (.one [] 20 (.done []))))) 14 (.one [] 10 (.one [] 13 (.one [] 17 (.one [] 20 (.done [])))))) 14 (.one [] 6 (.one [21] 10 (.one [] 13 (.one [] 17 (.one [] 20 (.done []))))))) { tmps := #[v0, v1, .pointer (some ⟨w.heap.size, 0, none⟩), v3, v4, v5, v6, v7, v8, v9, v10, v11, v12, v13, v14, v15, v16, v17, v18, v19, .pointer (some ⟨w.heap.size, 1, none⟩), .slice lD.EA D.es.length lD.ec, v22, .pointer (some ⟨w.heap.size, 1, none⟩), .slice lD.EA D.es.length lD.ec, v25, v26, .pointer (some ⟨w.heap.size, 2, none⟩), .slice lD.KA D.ks.length lD.kc, v29, .pointer (some ⟨w.heap.size, 2, none⟩), .slice lD.KA D.ks.length lD.kc, v32, v33, .pointer (some ⟨w.heap.size, 3, none⟩), .slice lD.DA D.ds.length lD.dc, v36, .pointer (some ⟨w.heap.size, 3, none⟩), .slice lD.DA D.ds.length lD.dc, v39, v40, v41, v42, v43, v44, v45, v46, v47, v48, v49, v50, v51, v52, v53, v54, v55, v56, v57, v58, v59, v60, v61, v62, v63, v64, v65, v66, v67, v68, v69, v70, v71, v72, v73, v74, v75, v76, v77, v78, v79, v80, v81, v82, v83, v84, v85, v86, v87, v88, v89, v90, v91, v92, v93, v94, v95, v96, v97, v98, v99, v100, v101, v102, v103, v104, v105, v106, v107, v108, v109, v110, v111, v112, v113, v114, v115, v116, v117, v118, v119, v120, v121, v122, v123, v124, v125, v126, v127, v128, v129, v130, v131, v132, v133, v134], defers := [] } xx := by
  rw [wpWaysT_two]
  try simp only [reg4ops, List.map_cons, List.map_nil, opAt, List.getElem?_toArray, List.getElem?_cons_zero, List.getElem?_cons_succ, Option.getD_some]
  refine wpQuiet_nil ⟨?_, ?_⟩
  · skip
    go_wp2_with (at_builtin; refine appE2 rfl (.tmp 22) (.tmp 24) rfl _ rfl RE.out rfl HE.out HB.out LE.out OE.out FE.out ?_; intro A1 c1 x1 R1 g1)
    have Q1K := Lib.hid (row_keep RK.out (fun k cur _ hc => typed_kept RE.out g1 (by decide) hc))
    have B1 := Lib.hid (grown_bel HB.out RE.out g1)
    replace R1 := Lib.hid R1
    clear g1
    refine ⟨⟨⟨_, B1.out.mono HL1.out⟩, rfl⟩, ?_⟩
    try simp only [Act.put, List.setIfInBounds_toArray, List.set_cons_zero, List.set_cons_succ]
    exact st_0_3_6_7_s HJ HL1 FE FK FD HE HK HD LE LK LD OE OK OD HU B1 R1 Q1K hQ
  · skip
    go_wp2_with fail
    obtain ⟨x1, ex1⟩ : ∃ x, x = xx.alloc (.cells #[] 3) := ⟨_, rfl⟩
    rw [← ex1]
    have R1 := Lib.hid (empty_row wr xx 3 1 x1 ex1 HB.out)
    have b1 := alloc_bel ex1
    have Q1E := Lib.hid (row_below RE.out b1)
    have Q1K := Lib.hid (row_below RK.out b1)
    have B1 := Lib.hid (HB.out.trans (b1.mono HB.out.size))
    clear b1 ex1
    refine ⟨⟨⟨_, B1.out.mono HL1.out⟩, rfl⟩, ?_⟩
    try simp only [Act.put, List.setIfInBounds_toArray, List.set_cons_zero, List.set_cons_succ]
    exact st_0_3_7_14 HJ HL1 FE FK FD HE HK HD LE LK LD OE OK OD HU B1 Q1E Q1K R1 hQ

set_option maxRecDepth 100000 in
set_option maxHeartbeats 4000000 in
theorem st_0_3_6_14_s {w wr xx : World} {lf : Bool} {k : Nat} {D D2 : NodeD} {lD : NdL} {uE uK uD : List Value} {n2E n2K n2D : Nat} {Q : Exit → Act → World → Prop} {v0 v1 v3 v4 v5 v6 v7 v8 v9 v10 v11 v12 v13 v14 v15 v16 v17 v18 v19 v22 v26 v29 v32 v33 v36 v39 v40 v41 v42 v43 v44 v45 v46 v47 v48 v49 v50 v51 v52 v53 v54 v55 v56 v57 v58 v59 v60 v61 v62 v63 v64 v65 v66 v67 v68 v69 v70 v71 v72 v73 v74 v75 v76 v77 v78 v79 v80 v81 v82 v83 v84 v85 v86 v87 v88 v89 v90 v91 v92 v93 v94 v95 v96 v97 v98 v99 v100 v101 v102 v103 v104 v105 v106 v107 v108 v109 v110 v111 v112 v113 v114 v115 v116 v117 v118 v119 v120 v121 v122 v123 v124 v125 v126 v127 v128 v129 v130 v131 v132 v133 v134 : Value} {aE : Option Addr} {cE : Nat} (HJ : Hid (JoS w wr lf k D lD)) (HL1 : Hid (w.heap.size + 1 ≤ wr.heap.size)) (FE : Hid (n2E = D.es.length + D.es.length ∧ D.es.length ≤ 8000000)) (FK : Hid (n2K = D.ks.length + D.ks.length ∧ D.ks.length ≤ 8000000)) (FD : Hid (n2D = D.ds.length + D.ds.length ∧ D.ds.length ≤ 8000000)) (HE : Hid (CellsAt wr lD.EA uE)) (HK : Hid (CellsAt wr lD.KA uK)) (HD : Hid (CellsAt wr lD.DA uD)) (LE : Hid (uE.length = D.es.length * 8)) (LK : Hid (uK.length = D.ks.length * 2)) (LD : Hid (uD.length = D.ds.length * 1)) (OE : Hid (∀ u ∈ uE, u.oneCell' = true)) (OK : Hid (∀ u ∈ uK, u.oneCell' = true)) (OD : Hid (∀ u ∈ uD, u.oneCell' = true)) (HU : Hid (uE = D.es.flatMap enC ∧ uK = D.ks.flatMap kyC ∧ uD = D.ds.map kdC ∧ D2 = ⟨D.leaf, D.es ++ D.es, D.ks ++ D.ks, D.ds ++ D.ds⟩)) (HB : Hid (Below wr.heap.size wr xx)) (RE : Hid (xx.ownsRow wr.heap.size 51 8 (.slice aE n2E cE) n2E (uE ++ uE))) (RD : Hid (xx.ownsRow wr.heap.size 3 1 (v33) 0 [])) (hQ : Hid (∀ b19 b20 b21 b22 b23 b24 b25 b26 b27 b28 b29 b30 b31 b32 b33 b34 b35 b36 b37 b38 b39 b40 b41 b42 : Value, ∀ x2 : World, Hid (∃ l2, JoS w x2 lf (k + 1) D2 l2) → Q .normal { tmps := #[v0, v1, .pointer (some ⟨w.heap.size, 0, none⟩), v3, v4, v5, v6, v7, v8, v9, v10, v11, v12, v13, v14, v15, v16, v17, v18, b19, b20, b21, b22, b23, b24, b25, b26, b27, b28, b29, b30, b31, b32, b33, b34, b35, b36, b37, b38, b39, b40, b41, b42, v43, v44, v45, v46, v47, v48, v49, v50, v51, v52, v53, v54, v55, v56, v57, v58, v59, v60, v61, v62, v63, v64, v65, v66, v67, v68, v69, v70, v71, v72, v73, v74, v75, v76, v77, v78, v79, v80, v81, v82, v83, v84, v85, v86, v87, v88, v89, v90, v91, v92, v93, v94, v95, v96, v97, v98, v99, v100, v101, v102, v103, v104, v105, v106, v107, v108, v109, v110, v111, v112, v113, v114, v115, v116, v117, v118, v119, v120, v121, v122, v123, v124, v125, v126, v127, v128, v129, v130, v131, v132, v133, v134], defers := [] } x2)) :
    wpWaysT Try.prog reg4ops.toArray Q (fun w' => ∃ y : SubW (w.heap.size + 1) wr, w' = y.at_) (reg4ops.drop 22) (.one [21] 7 (.one [] 10 (.one [] 13 (.one [] 17 (.one [] 20 (.done [])))))) { tmps := #[v0, v1, .pointer (some ⟨w.heap.size, 0, none⟩), v3, v4, v5, v6, v7, v8, v9, v10, v11, v12, v13, v14, v15, v16, v17, v18, v19, .pointer (some ⟨w.heap.size, 1, none⟩), .slice lD.EA D.es.length lD.ec, v22, .pointer (some ⟨w.heap.size, 1, none⟩), .slice lD.EA D.es.length lD.ec, .slice aE n2E cE, v26, .pointer (some ⟨w.heap.size, 2, none⟩), .slice lD.KA D.ks.length lD.kc, v29, .pointer (some ⟨w.heap.size, 2, none⟩), .slice lD.KA D.ks.length lD.kc, v32, v33, .pointer (some ⟨w.heap.size, 3, none⟩), .slice lD.DA D.ds.length lD.dc, v36, .pointer (some ⟨w.heap.size, 3, none⟩), .slice lD.DA D.ds.length lD.dc, v39, v40, v41, v42, v43, v44, v45, v46, v47, v48, v49, v50, v51, v52, v53, v54, v55, v56, v57, v58, v59, v60, v61, v62, v63, v64, v65, v66, v67, v68, v69, v70, v71, v72, v73, v74, v75, v76, v77, v78, v79, v80, v81, v82, v83, v84, v85, v86, v87, v88, v89, v90, v91, v92, v93, v94, v95, v96, v97, v98, v99, v100, v101, v102, v103, v104, v105, v106, v107, v108, v109, v110, v111, v112, v113, v114, v115, v116, v117, v118, v119, v120, v121, v122, v123, v124, v125, v126, v127, v128, v129, v130, v131, v132, v133, v134], defers := [] } xx := by
  rw [wpWaysT_one]
  try simp only [reg4ops, List.map_cons, List.map_nil, opAt, List.getElem?_toArray, List.getElem?_cons_zero, List.getElem?_cons_succ, Option.getD_some]
  repeat (go_big_quiet_step (fail))
  refine wpQuiet_nil ?_
  · skip
    go_wp2_with fail
    obtain ⟨x1, ex1⟩ : ∃ x, x = xx.alloc (.cells #[] 48) := ⟨_, rfl⟩
    rw [← ex1]
    have R1 := Lib.hid (empty_row wr xx 48 2 x1 ex1 HB.out)
    have b1 := alloc_bel ex1
    have Q1E := Lib.hid (row_below RE.out b1)
    have Q1D := Lib.hid (row_below RD.out b1)
    have B1 := Lib.hid (HB.out.trans (b1.mono HB.out.size))
    clear b1 ex1
    refine ⟨⟨⟨_, B1.out.mono HL1.out⟩, rfl⟩, ?_⟩
    try simp only [Act.put, List.setIfInBounds_toArray, List.set_cons_zero, List.set_cons_succ]
    exact st_0_3_6_7_14 HJ HL1 FE FK FD HE HK HD LE LK LD OE OK OD HU B1 Q1E R1 Q1D hQ

set_option maxRecDepth 100000 in
set_option maxHeartbeats 4000000 in
theorem st_0_3_14 {w wr xx : World} {lf : Bool} {k : Nat} {D D2 : NodeD} {lD : NdL} {uE uK uD : List Value} {n2E n2K n2D : Nat} {Q : Exit → Act → World → Prop} {v0 v1 v3 v4 v5 v6 v7 v8 v9 v10 v11 v12 v13 v14 v15 v16 v17 v18 v19 v22 v25 v26 v29 v32 v33 v36 v39 v40 v41 v42 v43 v44 v45 v46 v47 v48 v49 v50 v51 v52 v53 v54 v55 v56 v57 v58 v59 v60 v61 v62 v63 v64 v65 v66 v67 v68 v69 v70 v71 v72 v73 v74 v75 v76 v77 v78 v79 v80 v81 v82 v83 v84 v85 v86 v87 v88 v89 v90 v91 v92 v93 v94 v95 v96 v97 v98 v99 v100 v101 v102 v103 v104 v105 v106 v107 v108 v109 v110 v111 v112 v113 v114 v115 v116 v117 v118 v119 v120 v121 v122 v123 v124 v125 v126 v127 v128 v129 v130 v131 v132 v133 v134 : Value} (HJ : Hid (JoS w wr lf k D lD)) (HL1 : Hid (w.heap.size + 1 ≤ wr.heap.size)) (FE : Hid (n2E = D.es.length + D.es.length ∧ D.es.length ≤ 8000000)) (FK : Hid (n2K = D.ks.length + D.ks.length ∧ D.ks.length ≤ 8000000)) (FD : Hid (n2D = D.ds.length + D.ds.length ∧ D.ds.length ≤ 8000000)) (HE : Hid (CellsAt wr lD.EA uE)) (HK : Hid (CellsAt wr lD.KA uK)) (HD : Hid (CellsAt wr lD.DA uD)) (LE : Hid (uE.length = D.es.length * 8)) (LK : Hid (uK.length = D.ks.length * 2)) (LD : Hid (uD.length = D.ds.length * 1)) (OE : Hid (∀ u ∈ uE, u.oneCell' = true)) (OK : Hid (∀ u ∈ uK, u.oneCell' = true)) (OD : Hid (∀ u ∈ uD, u.oneCell' = true)) (HU : Hid (uE = D.es.flatMap enC ∧ uK = D.ks.flatMap kyC ∧ uD = D.ds.map kdC ∧ D2 = ⟨D.leaf, D.es ++ D.es, D.ks ++ D.ks, D.ds ++ D.ds⟩)) (HB : Hid (Below wr.heap.size wr xx)) (RE : Hid (xx.ownsRow wr.heap.size 51 8 (v22) D.es.length uE)) (RD : Hid (xx.ownsRow wr.heap.size 3 1 (v33) 0 [])) (hQ : Hid (∀ b19 b20 b21 b22 b23 b24 b25 b26 b27 b28 b29 b30 b31 b32 b33 b34 b35 b36 b37 b38 b39 b40 b41 b42 : Value, ∀ x2 : World, Hid (∃ l2, JoS w x2 lf (k + 1) D2 l2) → Q .normal { tmps := #[v0, v1, .pointer (some ⟨w.heap.size, 0, none⟩), v3, v4, v5, v6, v7, v8, v9, v10, v11, v12, v13, v14, v15, v16, v17, v18, b19, b20, b21, b22, b23, b24, b25, b26, b27, b28, b29, b30, b31, b32, b33, b34, b35, b36, b37, b38, b39, b40, b41, b42, v43, v44, v45, v46, v47, v48, v49, v50, v51, v52, v53, v54, v55, v56, v57, v58, v59, v60, v61, v62, v63, v64, v65, v66, v67, v68, v69, v70, v71, v72, v73, v74, v75, v76, v77, v78, v79, v80, v81, v82, v83, v84, v85, v86, v87, v88, v89, v90, v91, v92, v93, v94, v95, v96, v97, v98, v99, v100, v101, v102, v103, v104, v105, v106, v107, v108, v109, v110, v111, v112, v113, v114, v115, v116, v117, v118, v119, v120, v121, v122, v123, v124, v125, v126, v127, v128, v129, v130, v131, v132, v133, v134], defers := [] } x2)) :
    wpWaysT Try.prog reg4ops.toArray Q (fun w' => ∃ y : SubW (w.heap.size + 1) wr, w' = y.at_) (reg4ops.drop 22) (.two [] 6 (.one [21] 7 (.one [] 10 (.one [] 13 (.one [] 17 (.one [] 20 (.done [])))))) 7 (.one [] 6 (.one [21] 10 (.one [] 13 (.one [] 17 (.one [] 20 (.done []))))))) { tmps := #[v0, v1, .pointer (some ⟨w.heap.size, 0, none⟩), v3, v4, v5, v6, v7, v8, v9, v10, v11, v12, v13, v14, v15, v16, v17, v18, v19, .pointer (some ⟨w.heap.size, 1, none⟩), .slice lD.EA D.es.length lD.ec, v22, .pointer (some ⟨w.heap.size, 1, none⟩), .slice lD.EA D.es.length lD.ec, v25, v26, .pointer (some ⟨w.heap.size, 2, none⟩), .slice lD.KA D.ks.length lD.kc, v29, .pointer (some ⟨w.heap.size, 2, none⟩), .slice lD.KA D.ks.length lD.kc, v32, v33, .pointer (some ⟨w.heap.size, 3, none⟩), .slice lD.DA D.ds.length lD.dc, v36, .pointer (some ⟨w.heap.size, 3, none⟩), .slice lD.DA D.ds.length lD.dc, v39, v40, v41, v42, v43, v44, v45, v46, v47, v48, v49, v50, v51, v52, v53, v54, v55, v56, v57, v58, v59, v60, v61, v62, v63, v64, v65, v66, v67, v68, v69, v70, v71, v72, v73, v74, v75, v76, v77, v78, v79, v80, v81, v82, v83, v84, v85, v86, v87, v88, v89, v90, v91, v92, v93, v94, v95, v96, v97, v98, v99, v100, v101, v102, v103, v104, v105, v106, v107, v108, v109, v110, v111, v112, v113, v114, v115, v116, v117, v118, v119, v120, v121, v122, v123, v124, v125, v126, v127, v128, v129, v130, v131, v132, v133, v134], defers := [] } xx := by
  rw [wpWaysT_two]
  try simp only [reg4ops, List.map_cons, List.map_nil, opAt, List.getElem?_toArray, List.getElem?_cons_zero, List.getElem?_cons_succ, Option.getD_some]
  refine wpQuiet_nil ⟨?_, ?_⟩
  · skip
    go_wp2_with (at_builtin; refine appE2 rfl (.tmp 22) (.tmp 24) rfl _ rfl RE.out rfl HE.out HB.out LE.out OE.out FE.out ?_; intro A1 c1 x1 R1 g1)
    have Q1D := Lib.hid (row_keep RD.out (fun k cur _ hc => typed_kept RE.out g1 (by decide) hc))
    have B1 := Lib.hid (grown_bel HB.out RE.out g1)
    replace R1 := Lib.hid R1
    clear g1
    refine ⟨⟨⟨_, B1.out.mono HL1.out⟩, rfl⟩, ?_⟩
    try simp only [Act.put, List.setIfInBounds_toArray, List.set_cons_zero, List.set_cons_succ]
    exact st_0_3_6_14_s HJ HL1 FE FK FD HE HK HD LE LK LD OE OK OD HU B1 R1 Q1D hQ
  · skip
    go_wp2_with fail
    obtain ⟨x1, ex1⟩ : ∃ x, x = xx.alloc (.cells #[] 48) := ⟨_, rfl⟩
    rw [← ex1]
    have R1 := Lib.hid (empty_row wr xx 48 2 x1 ex1 HB.out)
    have b1 := alloc_bel ex1
    have Q1E := Lib.hid (row_below RE.out b1)
    have Q1D := Lib.hid (row_below RD.out b1)
    have B1 := Lib.hid (HB.out.trans (b1.mono HB.out.size))
    clear b1 ex1
    refine ⟨⟨⟨_, B1.out.mono HL1.out⟩, rfl⟩, ?_⟩
    try simp only [Act.put, List.setIfInBounds_toArray, List.set_cons_zero, List.set_cons_succ]
    exact st_0_3_7_14 HJ HL1 FE FK FD HE HK HD LE LK LD OE OK OD HU B1 Q1E R1 Q1D hQ

set_option maxRecDepth 100000 in
set_option maxHeartbeats 4000000 in
theorem st_0_3 {w wr xx : World} {lf : Bool} {k : Nat} {D D2 : NodeD} {lD : NdL} {uE uK uD : List Value} {n2E n2K n2D : Nat} {Q : Exit → Act → World → Prop} {v0 v1 v3 v4 v5 v6 v7 v8 v9 v10 v11 v12 v13 v14 v15 v16 v17 v18 v19 v22 v25 v26 v29 v32 v33 v36 v39 v40 v41 v42 v43 v44 v45 v46 v47 v48 v49 v50 v51 v52 v53 v54 v55 v56 v57 v58 v59 v60 v61 v62 v63 v64 v65 v66 v67 v68 v69 v70 v71 v72 v73 v74 v75 v76 v77 v78 v79 v80 v81 v82 v83 v84 v85 v86 v87 v88 v89 v90 v91 v92 v93 v94 v95 v96 v97 v98 v99 v100 v101 v102 v103 v104 v105 v106 v107 v108 v109 v110 v111 v112 v113 v114 v115 v116 v117 v118 v119 v120 v121 v122 v123 v124 v125 v126 v127 v128 v129 v130 v131 v132 v133 v134 : Value} (HJ : Hid (JoS w wr lf k D lD)) (HL1 : Hid (w.heap.size + 1 ≤ wr.heap.size)) (FE : Hid (n2E = D.es.length + D.es.length ∧ D.es.length ≤ 8000000)) (FK : Hid (n2K = D.ks.length + D.ks.length ∧ D.ks.length ≤ 8000000)) (FD : Hid (n2D = D.ds.length + D.ds.length ∧ D.ds.length ≤ 8000000)) (HE : Hid (CellsAt wr lD.EA uE)) (HK : Hid (CellsAt wr lD.KA uK)) (HD : Hid (CellsAt wr lD.DA uD)) (LE : Hid (uE.length = D.es.length * 8)) (LK : Hid (uK.length = D.ks.length * 2)) (LD : Hid (uD.length = D.ds.length * 1)) (OE : Hid (∀ u ∈ uE, u.oneCell' = true)) (OK : Hid (∀ u ∈ uK, u.oneCell' = true)) (OD : Hid (∀ u ∈ uD, u.oneCell' = true)) (HU : Hid (uE = D.es.flatMap enC ∧ uK = D.ks.flatMap kyC ∧ uD = D.ds.map kdC ∧ D2 = ⟨D.leaf, D.es ++ D.es, D.ks ++ D.ks, D.ds ++ D.ds⟩)) (HB : Hid (Below wr.heap.size wr xx)) (RE : Hid (xx.ownsRow wr.heap.size 51 8 (v22) D.es.length uE)) (hQ : Hid (∀ b19 b20 b21 b22 b23 b24 b25 b26 b27 b28 b29 b30 b31 b32 b33 b34 b35 b36 b37 b38 b39 b40 b41 b42 : Value, ∀ x2 : World, Hid (∃ l2, JoS w x2 lf (k + 1) D2 l2) → Q .normal { tmps := #[v0, v1, .pointer (some ⟨w.heap.size, 0, none⟩), v3, v4, v5, v6, v7, v8, v9, v10, v11, v12, v13, v14, v15, v16, v17, v18, b19, b20, b21, b22, b23, b24, b25, b26, b27, b28, b29, b30, b31, b32, b33, b34, b35, b36, b37, b38, b39, b40, b41, b42, v43, v44, v45, v46, v47, v48, v49, v50, v51, v52, v53, v54, v55, v56, v57, v58, v59, v60, v61, v62, v63, v64, v65, v66, v67, v68, v69, v70, v71, v72, v73, v74, v75, v76, v77, v78, v79, v80, v81, v82, v83, v84, v85, v86, v87, v88, v89, v90, v91, v92, v93, v94, v95, v96, v97, v98, v99, v100, v101, v102, v103, v104, v105, v106, v107, v108, v109, v110, v111, v112, v113, v114, v115, v116, v117, v118, v119, v120, v121, v122, v123, v124, v125, v126, v127, v128, v129, v130, v131, v132, v133, v134], defers := [] } x2)) :
    wpWaysT Try.prog reg4ops.toArray Q (fun w' => ∃ y : SubW (w.heap.size + 1) wr, w' = y.at_) (reg4ops.drop 22) (.three [] 6 (.two [21] 7 (.two [] 10 (.two [] 13 (.one [] 14 (.one [] 17 (.one [] 20 (.done [])))) 14 (.one [] 13 (.one [] 17 (.one [] 20 (.done []))))) 14 (.one [] 10 (.one [] 13 (.one [] 17 (.one [] 20 (.done [])))))) 14 (.one [] 7 (.one [] 10 (.one [] 13 (.one [] 17 (.one [] 20 (.done []))))))) 7 (.two [] 6 (.two [21] 10 (.two [] 13 (.one [] 14 (.one [] 17 (.one [] 20 (.done [])))) 14 (.one [] 13 (.one [] 17 (.one [] 20 (.done []))))) 14 (.one [] 10 (.one [] 13 (.one [] 17 (.one [] 20 (.done [])))))) 14 (.one [] 6 (.one [21] 10 (.one [] 13 (.one [] 17 (.one [] 20 (.done []))))))) 14 (.two [] 6 (.one [21] 7 (.one [] 10 (.one [] 13 (.one [] 17 (.one [] 20 (.done [])))))) 7 (.one [] 6 (.one [21] 10 (.one [] 13 (.one [] 17 (.one [] 20 (.done [])))))))) { tmps := #[v0, v1, .pointer (some ⟨w.heap.size, 0, none⟩), v3, v4, v5, v6, v7, v8, v9, v10, v11, v12, v13, v14, v15, v16, v17, v18, v19, .pointer (some ⟨w.heap.size, 1, none⟩), .slice lD.EA D.es.length lD.ec, v22, .pointer (some ⟨w.heap.size, 1, none⟩), .slice lD.EA D.es.length lD.ec, v25, v26, .pointer (some ⟨w.heap.size, 2, none⟩), .slice lD.KA D.ks.length lD.kc, v29, .pointer (some ⟨w.heap.size, 2, none⟩), .slice lD.KA D.ks.length lD.kc, v32, v33, .pointer (some ⟨w.heap.size, 3, none⟩), .slice lD.DA D.ds.length lD.dc, v36, .pointer (some ⟨w.heap.size, 3, none⟩), .slice lD.DA D.ds.length lD.dc, v39, v40, v41, v42, v43, v44, v45, v46, v47, v48, v49, v50, v51, v52, v53, v54, v55, v56, v57, v58, v59, v60, v61, v62, v63, v64, v65, v66, v67, v68, v69, v70, v71, v72, v73, v74, v75, v76, v77, v78, v79, v80, v81, v82, v83, v84, v85, v86, v87, v88, v89, v90, v91, v92, v93, v94, v95, v96, v97, v98, v99, v100, v101, v102, v103, v104, v105, v106, v107, v108, v109, v110, v111, v112, v113, v114, v115, v116, v117, v118, v119, v120, v121, v122, v123, v124, v125, v126, v127, v128, v129, v130, v131, v132, v133, v134], defers := [] } xx := by
  rw [wpWaysT_three]
  try simp only [reg4ops, List.map_cons, List.map_nil, opAt, List.getElem?_toArray, List.getElem?_cons_zero, List.getElem?_cons_succ, Option.getD_some]
  refine wpQuiet_nil ⟨?_, ?_, ?_⟩
  · skip
    go_wp2_with (at_builtin; refine appE2 rfl (.tmp 22) (.tmp 24) rfl _ rfl RE.out rfl HE.out HB.out LE.out OE.out FE.out ?_; intro A1 c1 x1 R1 g1)
    have B1 := Lib.hid (grown_bel HB.out RE.out g1)
    replace R1 := Lib.hid R1
    clear g1
    refine ⟨⟨⟨_, B1.out.mono HL1.out⟩, rfl⟩, ?_⟩
    try simp only [Act.put, List.setIfInBounds_toArray, List.set_cons_zero, List.set_cons_succ]
    exact st_0_3_6_s HJ HL1 FE FK FD HE HK HD LE LK LD OE OK OD HU B1 R1 hQ
  · skip
    go_wp2_with fail
    obtain ⟨x1, ex1⟩ : ∃ x, x = xx.alloc (.cells #[] 48) := ⟨_, rfl⟩
    rw [← ex1]
    have R1 := Lib.hid (empty_row wr xx 48 2 x1 ex1 HB.out)
    have b1 := alloc_bel ex1
    have Q1E := Lib.hid (row_below RE.out b1)
    have B1 := Lib.hid (HB.out.trans (b1.mono HB.out.size))
    clear b1 ex1
    refine ⟨⟨⟨_, B1.out.mono HL1.out⟩, rfl⟩, ?_⟩
    try simp only [Act.put, List.setIfInBounds_toArray, List.set_cons_zero, List.set_cons_succ]
    exact st_0_3_7 HJ HL1 FE FK FD HE HK HD LE LK LD OE OK OD HU B1 Q1E R1 hQ
  · skip
    go_wp2_with fail
    obtain ⟨x1, ex1⟩ : ∃ x, x = xx.alloc (.cells #[] 3) := ⟨_, rfl⟩
    rw [← ex1]
    have R1 := Lib.hid (empty_row wr xx 3 1 x1 ex1 HB.out)
    have b1 := alloc_bel ex1
    have Q1E := Lib.hid (row_below RE.out b1)
    have B1 := Lib.hid (HB.out.trans (b1.mono HB.out.size))
    clear b1 ex1
    refine ⟨⟨⟨_, B1.out.mono HL1.out⟩, rfl⟩, ?_⟩
    try simp only [Act.put, List.setIfInBounds_toArray, List.set_cons_zero, List.set_cons_succ]
    exact st_0_3_14 HJ HL1 FE FK FD HE HK HD LE LK LD OE OK OD HU B1 Q1E R1 hQ

set_option maxRecDepth 100000 in
set_option maxHeartbeats 4000000 in
theorem st_0_7_14 {w wr xx : World} {lf : Bool} {k : Nat} {D D2 : NodeD} {lD : NdL} {uE uK uD : List Value} {n2E n2K n2D : Nat} {Q : Exit → Act → World → Prop} {v0 v1 v3 v4 v5 v6 v7 v8 v9 v10 v11 v12 v13 v14 v15 v16 v17 v18 v19 v22 v25 v26 v29 v32 v33 v36 v39 v40 v41 v42 v43 v44 v45 v46 v47 v48 v49 v50 v51 v52 v53 v54 v55 v56 v57 v58 v59 v60 v61 v62 v63 v64 v65 v66 v67 v68 v69 v70 v71 v72 v73 v74 v75 v76 v77 v78 v79 v80 v81 v82 v83 v84 v85 v86 v87 v88 v89 v90 v91 v92 v93 v94 v95 v96 v97 v98 v99 v100 v101 v102 v103 v104 v105 v106 v107 v108 v109 v110 v111 v112 v113 v114 v115 v116 v117 v118 v119 v120 v121 v122 v123 v124 v125 v126 v127 v128 v129 v130 v131 v132 v133 v134 : Value} (HJ : Hid (JoS w wr lf k D lD)) (HL1 : Hid (w.heap.size + 1 ≤ wr.heap.size)) (FE : Hid (n2E = D.es.length + D.es.length ∧ D.es.length ≤ 8000000)) (FK : Hid (n2K = D.ks.length + D.ks.length ∧ D.ks.length ≤ 8000000)) (FD : Hid (n2D = D.ds.length + D.ds.length ∧ D.ds.length ≤ 8000000)) (HE : Hid (CellsAt wr lD.EA uE)) (HK : Hid (CellsAt wr lD.KA uK)) (HD : Hid (CellsAt wr lD.DA uD)) (LE : Hid (uE.length = D.es.length * 8)) (LK : Hid (uK.length = D.ks.length * 2)) (LD : Hid (uD.length = D.ds.length * 1)) (OE : Hid (∀ u ∈ uE, u.oneCell' = true)) (OK : Hid (∀ u ∈ uK, u.oneCell' = true)) (OD : Hid (∀ u ∈ uD, u.oneCell' = true)) (HU : Hid (uE = D.es.flatMap enC ∧ uK = D.ks.flatMap kyC ∧ uD = D.ds.map kdC ∧ D2 = ⟨D.leaf, D.es ++ D.es, D.ks ++ D.ks, D.ds ++ D.ds⟩)) (HB : Hid (Below wr.heap.size wr xx)) (RE : Hid (xx.ownsRow wr.heap.size 51 8 (v19) 0 [])) (RK : Hid (xx.ownsRow wr.heap.size 48 2 (v26) 0 [])) (RD : Hid (xx.ownsRow wr.heap.size 3 1 (v33) 0 [])) (hQ : Hid (∀ b19 b20 b21 b22 b23 b24 b25 b26 b27 b28 b29 b30 b31 b32 b33 b34 b35 b36 b37 b38 b39 b40 b41 b42 : Value, ∀ x2 : World, Hid (∃ l2, JoS w x2 lf (k + 1) D2 l2) → Q .normal { tmps := #[v0, v1, .pointer (some ⟨w.heap.size, 0, none⟩), v3, v4, v5, v6, v7, v8, v9, v10, v11, v12, v13, v14, v15, v16, v17, v18, b19, b20, b21, b22, b23, b24, b25, b26, b27, b28, b29, b30, b31, b32, b33, b34, b35, b36, b37, b38, b39, b40, b41, b42, v43, v44, v45, v46, v47, v48, v49, v50, v51, v52, v53, v54, v55, v56, v57, v58, v59, v60, v61, v62, v63, v64, v65, v66, v67, v68, v69, v70, v71, v72, v73, v74, v75, v76, v77, v78, v79, v80, v81, v82, v83, v84, v85, v86, v87, v88, v89, v90, v91, v92, v93, v94, v95, v96, v97, v98, v99, v100, v101, v102, v103, v104, v105, v106, v107, v108, v109, v110, v111, v112, v113, v114, v115, v116, v117, v118, v119, v120, v121, v122, v123, v124, v125, v126, v127, v128, v129, v130, v131, v132, v133, v134], defers := [] } x2)) :
    wpWaysT Try.prog reg4ops.toArray Q (fun w' => ∃ y : SubW (w.heap.size + 1) wr, w' = y.at_) (reg4ops.drop 22) (.one [] 3 (.one [] 6 (.one [21] 10 (.one [] 13 (.one [] 17 (.one [] 20 (.done []))))))) { tmps := #[v0, v1, .pointer (some ⟨w.heap.size, 0, none⟩), v3, v4, v5, v6, v7, v8, v9, v10, v11, v12, v13, v14, v15, v16, v17, v18, v19, .pointer (some ⟨w.heap.size, 1, none⟩), .slice lD.EA D.es.length lD.ec, v22, .pointer (some ⟨w.heap.size, 1, none⟩), .slice lD.EA D.es.length lD.ec, v25, v26, .pointer (some ⟨w.heap.size, 2, none⟩), .slice lD.KA D.ks.length lD.kc, v29, .pointer (some ⟨w.heap.size, 2, none⟩), .slice lD.KA D.ks.length lD.kc, v32, v33, .pointer (some ⟨w.heap.size, 3, none⟩), .slice lD.DA D.ds.length lD.dc, v36, .pointer (some ⟨w.heap.size, 3, none⟩), .slice lD.DA D.ds.length lD.dc, v39, v40, v41, v42, v43, v44, v45, v46, v47, v48, v49, v50, v51, v52, v53, v54, v55, v56, v57, v58, v59, v60, v61, v62, v63, v64, v65, v66, v67, v68, v69, v70, v71, v72, v73, v74, v75, v76, v77, v78, v79, v80, v81, v82, v83, v84, v85, v86, v87, v88, v89, v90, v91, v92, v93, v94, v95, v96, v97, v98, v99, v100, v101, v102, v103, v104, v105, v106, v107, v108, v109, v110, v111, v112, v113, v114, v115, v116, v117, v118, v119, v120, v121, v122, v123, v124, v125, v126, v127, v128, v129, v130, v131, v132, v133, v134], defers := [] } xx := by
  rw [wpWaysT_one]
  try simp only [reg4ops, List.map_cons, List.map_nil, opAt, List.getElem?_toArray, List.getElem?_cons_zero, List.getElem?_cons_succ, Option.getD_some]
  refine wpQuiet_nil ?_
  · skip
    go_wp2_with (at_builtin; refine appE1 rfl (.tmp 19) (.tmp 21) rfl _ rfl RE.out rfl HE.out HB.out LE.out OE.out FE.out ?_; intro A1 c1 x1 R1 g1)
    have Q1K := Lib.hid (row_keep RK.out (fun k cur _ hc => typed_kept RE.out g1 (by decide) hc))
    have Q1D := Lib.hid (row_keep RD.out (fun k cur _ hc => typed_kept RE.out g1 (by decide) hc))
    have B1 := Lib.hid (grown_bel HB.out RE.out g1)
    replace R1 := Lib.hid R1
    clear g1
    refine ⟨⟨⟨_, B1.out.mono HL1.out⟩, rfl⟩, ?_⟩
    try simp only [Act.put, List.setIfInBounds_toArray, List.set_cons_zero, List.set_cons_succ]
    exact st_0_3_7_14 HJ HL1 FE FK FD HE HK HD LE LK LD OE OK OD HU B1 R1 Q1K Q1D hQ

set_option maxRecDepth 100000 in
set_option maxHeartbeats 4000000 in
theorem st_0_7 {w wr xx : World} {lf : Bool} {k : Nat} {D D2 : NodeD} {lD : NdL} {uE uK uD : List Value} {n2E n2K n2D : Nat} {Q : Exit → Act → World → Prop} {v0 v1 v3 v4 v5 v6 v7 v8 v9 v10 v11 v12 v13 v14 v15 v16 v17 v18 v19 v22 v25 v26 v29 v32 v33 v36 v39 v40 v41 v42 v43 v44 v45 v46 v47 v48 v49 v50 v51 v52 v53 v54 v55 v56 v57 v58 v59 v60 v61 v62 v63 v64 v65 v66 v67 v68 v69 v70 v71 v72 v73 v74 v75 v76 v77 v78 v79 v80 v81 v82 v83 v84 v85 v86 v87 v88 v89 v90 v91 v92 v93 v94 v95 v96 v97 v98 v99 v100 v101 v102 v103 v104 v105 v106 v107 v108 v109 v110 v111 v112 v113 v114 v115 v116 v117 v118 v119 v120 v121 v122 v123 v124 v125 v126 v127 v128 v129 v130 v131 v132 v133 v134 : Value} (HJ : Hid (JoS w wr lf k D lD)) (HL1 : Hid (w.heap.size + 1 ≤ wr.heap.size)) (FE : Hid (n2E = D.es.length + D.es.length ∧ D.es.length ≤ 8000000)) (FK : Hid (n2K = D.ks.length + D.ks.length ∧ D.ks.length ≤ 8000000)) (FD : Hid (n2D = D.ds.length + D.ds.length ∧ D.ds.length ≤ 8000000)) (HE : Hid (CellsAt wr lD.EA uE)) (HK : Hid (CellsAt wr lD.KA uK)) (HD : Hid (CellsAt wr lD.DA uD)) (LE : Hid (uE.length = D.es.length * 8)) (LK : Hid (uK.length = D.ks.length * 2)) (LD : Hid (uD.length = D.ds.length * 1)) (OE : Hid (∀ u ∈ uE, u.oneCell' = true)) (OK : Hid (∀ u ∈ uK, u.oneCell' = true)) (OD : Hid (∀ u ∈ uD, u.oneCell' = true)) (HU : Hid (uE = D.es.flatMap enC ∧ uK = D.ks.flatMap kyC ∧ uD = D.ds.map kdC ∧ D2 = ⟨D.leaf, D.es ++ D.es, D.ks ++ D.ks, D.ds ++ D.ds⟩)) (HB : Hid (Below wr.heap.size wr xx)) (RE : Hid (xx.ownsRow wr.heap.size 51 8 (v19) 0 [])) (RK : Hid (xx.ownsRow wr.heap.size 48 2 (v26) 0 [])) (hQ : Hid (∀ b19 b20 b21 b22 b23 b24 b25 b26 b27 b28 b29 b30 b31 b32 b33 b34 b35 b36 b37 b38 b39 b40 b41 b42 : Value, ∀ x2 : World, Hid (∃ l2, JoS w x2 lf (k + 1) D2 l2) → Q .normal { tmps := #[v0, v1, .pointer (some ⟨w.heap.size, 0, none⟩), v3, v4, v5, v6, v7, v8, v9, v10, v11, v12, v13, v14, v15, v16, v17, v18, b19, b20, b21, b22, b23, b24, b25, b26, b27, b28, b29, b30, b31, b32, b33, b34, b35, b36, b37, b38, b39, b40, b41, b42, v43, v44, v45, v46, v47, v48, v49, v50, v51, v52, v53, v54, v55, v56, v57, v58, v59, v60, v61, v62, v63, v64, v65, v66, v67, v68, v69, v70, v71, v72, v73, v74, v75, v76, v77, v78, v79, v80, v81, v82, v83, v84, v85, v86, v87, v88, v89, v90, v91, v92, v93, v94, v95, v96, v97, v98, v99, v100, v101, v102, v103, v104, v105, v106, v107, v108, v109, v110, v111, v112, v113, v114, v115, v116, v117, v118, v119, v120, v121, v122, v123, v124, v125, v126, v127, v128, v129, v130, v131, v132, v133, v134], defers := [] } x2)) :
    wpWaysT Try.prog reg4ops.toArray Q (fun w' => ∃ y : SubW (w.heap.size + 1) wr, w' = y.at_) (reg4ops.drop 22) (.two [] 3 (.two [] 6 (.two [21] 10 (.two [] 13 (.one [] 14 (.one [] 17 (.one [] 20 (.done [])))) 14 (.one [] 13 (.one [] 17 (.one [] 20 (.done []))))) 14 (.one [] 10 (.one [] 13 (.one [] 17 (.one [] 20 (.done [])))))) 14 (.one [] 6 (.one [21] 10 (.one [] 13 (.one [] 17 (.one [] 20 (.done []))))))) 14 (.one [] 3 (.one [] 6 (.one [21] 10 (.one [] 13 (.one [] 17 (.one [] 20 (.done [])))))))) { tmps := #[v0, v1, .pointer (some ⟨w.heap.size, 0, none⟩), v3, v4, v5, v6, v7, v8, v9, v10, v11, v12, v13, v14, v15, v16, v17, v18, v19, .pointer (some ⟨w.heap.size, 1, none⟩), .slice lD.EA D.es.length lD.ec, v22, .pointer (some ⟨w.heap.size, 1, none⟩), .slice lD.EA D.es.length lD.ec, v25, v26, .pointer (some ⟨w.heap.size, 2, none⟩), .slice lD.KA D.ks.length lD.kc, v29, .pointer (some ⟨w.heap.size, 2, none⟩), .slice lD.KA D.ks.length lD.kc, v32, v33, .pointer (some ⟨w.heap.size, 3, none⟩), .slice lD.DA D.ds.length lD.dc, v36, .pointer (some ⟨w.heap.size, 3, none⟩), .slice lD.DA D.ds.length lD.dc, v39, v40, v41, v42, v43, v44, v45, v46, v47, v48, v49, v50, v51, v52, v53, v54, v55, v56, v57, v58, v59, v60, v61, v62, v63, v64, v65, v66, v67, v68, v69, v70, v71, v72, v73, v74, v75, v76, v77, v78, v79, v80, v81, v82, v83, v84, v85, v86, v87, v88, v89, v90, v91, v92, v93, v94, v95, v96, v97, v98, v99, v100, v101, v102, v103, v104, v105, v106, v107, v108, v109, v110, v111, v112, v113, v114, v115, v116, v117, v118, v119, v120, v121, v122, v123, v124, v125, v126, v127, v128, v129, v130, v131, v132, v133, v134], defers := [] } xx := by
  rw [wpWaysT_two]
  try simp only [reg4ops, List.map_cons, List.map_nil, opAt, List.getElem?_toArray, List.getElem?_cons_zero, List.getElem?_cons_succ, Option.getD_some]
  refine wpQuiet_nil ⟨?_, ?_⟩
  · skip
    go_wp2_with (at_builtin; refine appE1 rfl (.tmp 19) (.tmp 21) rfl _ rfl RE.out rfl HE.out HB.out LE.out OE.out FE.out ?_; intro A1 c1 x1 R1 g1)
    have Q1K := Lib.hid (row_keep RK.out (fun k cur _ hc => typed_kept RE.out g1 (by decide) hc))
    have B1 := Lib.hid (grown_bel HB.out RE.out g1)
    replace R1 := Lib.hid R1
    clear g1
    refine ⟨⟨⟨_, B1.out.mono HL1.out⟩, rfl⟩, ?_⟩
    try simp only [Act.put, List.setIfInBounds_toArray, List.set_cons_zero, List.set_cons_succ]
    exact st_0_3_7 HJ HL1 FE FK FD HE HK HD LE LK LD OE OK OD HU B1 R1 Q1K hQ
  · skip
    go_wp2_with fail
    obtain ⟨x1, ex1⟩ : ∃ x, x = xx.alloc (.cells #[] 3) := ⟨_, rfl⟩
    rw [← ex1]
    have R1 := Lib.hid (empty_row wr xx 3 1 x1 ex1 HB.out)
    have b1 := alloc_bel ex1
    have Q1E := Lib.hid (row_below RE.out b1)
    have Q1K := Lib.hid (row_below RK.out b1)
    have B1 := Lib.hid (HB.out.trans (b1.mono HB.out.size))
    clear b1 ex1
    refine ⟨⟨⟨_, B1.out.mono HL1.out⟩, rfl⟩, ?_⟩
    try simp only [Act.put, List.setIfInBounds_toArray, List.set_cons_zero, List.set_cons_succ]
    exact st_0_7_14 HJ HL1 FE FK FD HE HK HD LE LK LD OE OK OD HU B1 Q1E Q1K R1 hQ

set_option maxRecDepth 100000 in
set_option maxHeartbeats 4000000 in
theorem st_0_14 {w wr xx : World} {lf : Bool} {k : Nat} {D D2 : NodeD} {lD : NdL} {uE uK uD : List Value} {n2E n2K n2D : Nat} {Q : Exit → Act → World → Prop} {v0 v1 v3 v4 v5 v6 v7 v8 v9 v10 v11 v12 v13 v14 v15 v16 v17 v18 v19 v22 v25 v26 v29 v32 v33 v36 v39 v40 v41 v42 v43 v44 v45 v46 v47 v48 v49 v50 v51 v52 v53 v54 v55 v56 v57 v58 v59 v60 v61 v62 v63 v64 v65 v66 v67 v68 v69 v70 v71 v72 v73 v74 v75 v76 v77 v78 v79 v80 v81 v82 v83 v84 v85 v86 v87 v88 v89 v90 v91 v92 v93 v94 v95 v96 v97 v98 v99 v100 v101 v102 v103 v104 v105 v106 v107 v108 v109 v110 v111 v112 v113 v114 v115 v116 v117 v118 v119 v120 v121 v122 v123 v124 v125 v126 v127 v128 v129 v130 v131 v132 v133 v134 : Value} (HJ : Hid (JoS w wr lf k D lD)) (HL1 : Hid (w.heap.size + 1 ≤ wr.heap.size)) (FE : Hid (n2E = D.es.length + D.es.length ∧ D.es.length ≤ 8000000)) (FK : Hid (n2K = D.ks.length + D.ks.length ∧ D.ks.length ≤ 8000000)) (FD : Hid (n2D = D.ds.length + D.ds.length ∧ D.ds.length ≤ 8000000)) (HE : Hid (CellsAt wr lD.EA uE)) (HK : Hid (CellsAt wr lD.KA uK)) (HD : Hid (CellsAt wr lD.DA uD)) (LE : Hid (uE.length = D.es.length * 8)) (LK : Hid (uK.length = D.ks.length * 2)) (LD : Hid (uD.length = D.ds.length * 1)) (OE : Hid (∀ u ∈ uE, u.oneCell' = true)) (OK : Hid (∀ u ∈ uK, u.oneCell' = true)) (OD : Hid (∀ u ∈ uD, u.oneCell' = true)) (HU : Hid (uE = D.es.flatMap enC ∧ uK = D.ks.flatMap kyC ∧ uD = D.ds.map kdC ∧ D2 = ⟨D.leaf, D.es ++ D.es, D.ks ++ D.ks, D.ds ++ D.ds⟩)) (HB : Hid (Below wr.heap.size wr xx)) (RE : Hid (xx.ownsRow wr.heap.size 51 8 (v19) 0 [])) (RD : Hid (xx.ownsRow wr.heap.size 3 1 (v33) 0 [])) (hQ : Hid (∀ b19 b20 b21 b22 b23 b24 b25 b26 b27 b28 b29 b30 b31 b32 b33 b34 b35 b36 b37 b38 b39 b40 b41 b42 : Value, ∀ x2 : World, Hid (∃ l2, JoS w x2 lf (k + 1) D2 l2) → Q .normal { tmps := #[v0, v1, .pointer (some ⟨w.heap.size, 0, none⟩), v3, v4, v5, v6, v7, v8, v9, v10, v11, v12, v13, v14, v15, v16, v17, v18, b19, b20, b21, b22, b23, b24, b25, b26, b27, b28, b29, b30, b31, b32, b33, b34, b35, b36, b37, b38, b39, b40, b41, b42, v43, v44, v45, v46, v47, v48, v49, v50, v51, v52, v53, v54, v55, v56, v57, v58, v59, v60, v61, v62, v63, v64, v65, v66, v67, v68, v69, v70, v71, v72, v73, v74, v75, v76, v77, v78, v79, v80, v81, v82, v83, v84, v85, v86, v87, v88, v89, v90, v91, v92, v93, v94, v95, v96, v97, v98, v99, v100, v101, v102, v103, v104, v105, v106, v107, v108, v109, v110, v111, v112, v113, v114, v115, v116, v117, v118, v119, v120, v121, v122, v123, v124, v125, v126, v127, v128, v129, v130, v131, v132, v133, v134], defers := [] } x2)) :
    wpWaysT Try.prog reg4ops.toArray Q (fun w' => ∃ y : SubW (w.heap.size + 1) wr, w' = y.at_) (reg4ops.drop 22) (.two [] 3 (.two [] 6 (.one [21] 7 (.one [] 10 (.one [] 13 (.one [] 17 (.one [] 20 (.done [])))))) 7 (.one [] 6 (.one [21] 10 (.one [] 13 (.one [] 17 (.one [] 20 (.done []))))))) 7 (.one [] 3 (.one [] 6 (.one [21] 10 (.one [] 13 (.one [] 17 (.one [] 20 (.done [])))))))) { tmps := #[v0, v1, .pointer (some ⟨w.heap.size, 0, none⟩), v3, v4, v5, v6, v7, v8, v9, v10, v11, v12, v13, v14, v15, v16, v17, v18, v19, .pointer (some ⟨w.heap.size, 1, none⟩), .slice lD.EA D.es.length lD.ec, v22, .pointer (some ⟨w.heap.size, 1, none⟩), .slice lD.EA D.es.length lD.ec, v25, v26, .pointer (some ⟨w.heap.size, 2, none⟩), .slice lD.KA D.ks.length lD.kc, v29, .pointer (some ⟨w.heap.size, 2, none⟩), .slice lD.KA D.ks.length lD.kc, v32, v33, .pointer (some ⟨w.heap.size, 3, none⟩), .slice lD.DA D.ds.length lD.dc, v36, .pointer (some ⟨w.heap.size, 3, none⟩), .slice lD.DA D.ds.length lD.dc, v39, v40, v41, v42, v43, v44, v45, v46, v47, v48, v49, v50, v51, v52, v53, v54, v55, v56, v57, v58, v59, v60, v61, v62, v63, v64, v65, v66, v67, v68, v69, v70, v71, v72, v73, v74, v75, v76, v77, v78, v79, v80, v81, v82, v83, v84, v85, v86, v87, v88, v89, v90, v91, v92, v93, v94, v95, v96, v97, v98, v99, v100, v101, v102, v103, v104, v105, v106, v107, v108, v109, v110, v111, v112, v113, v114, v115, v116, v117, v118, v119, v120, v121, v122, v123, v124, v125, v126, v127, v128, v129, v130, v131, v132, v133, v134], defers := [] } xx := by
  rw [wpWaysT_two]
  try simp only [reg4ops, List.map_cons, List.map_nil, opAt, List.getElem?_toArray, List.getElem?_cons_zero, List.getElem?_cons_succ, Option.getD_some]
  refine wpQuiet_nil ⟨?_, ?_⟩
  · skip
    go_wp2_with (at_builtin; refine appE1 rfl (.tmp 19) (.tmp 21) rfl _ rfl RE.out rfl HE.out HB.out LE.out OE.out FE.out ?_; intro A1 c1 x1 R1 g1)
    have Q1D := Lib.hid (row_keep RD.out (fun k cur _ hc => typed_kept RE.out g1 (by decide) hc))
    have B1 := Lib.hid (grown_bel HB.out RE.out g1)
    replace R1 := Lib.hid R1
    clear g1
    refine ⟨⟨⟨_, B1.out.mono HL1.out⟩, rfl⟩, ?_⟩
    try simp only [Act.put, List.setIfInBounds_toArray, List.set_cons_zero, List.set_cons_succ]
    exact st_0_3_14 HJ HL1 FE FK FD HE HK HD LE LK LD OE OK OD HU B1 R1 Q1D hQ
  · skip
    go_wp2_with fail
    obtain ⟨x1, ex1⟩ : ∃ x, x = xx.alloc (.cells #[] 48) := ⟨_, rfl⟩
    rw [← ex1]
    have R1 := Lib.hid (empty_row wr xx 48 2 x1 ex1 HB.out)
    have b1 := alloc_bel ex1
    have Q1E := Lib.hid (row_below RE.out b1)
    have Q1D := Lib.hid (row_below RD.out b1)
    have B1 := Lib.hid (HB.out.trans (b1.mono HB.out.size))
    clear b1 ex1
    refine ⟨⟨⟨_, B1.out.mono HL1.out⟩, rfl⟩, ?_⟩
    try simp only [Act.put, List.setIfInBounds_toArray, List.set_cons_zero, List.set_cons_succ]
    exact st_0_7_14 HJ HL1 FE FK FD HE HK HD LE LK LD OE OK OD HU B1 Q1E R1 Q1D hQ

set_option maxRecDepth 100000 in
set_option maxHeartbeats 4000000 in
theorem st_0 {w wr xx : World} {lf : Bool} {k : Nat} {D D2 : NodeD} {lD : NdL} {uE uK uD : List Value} {n2E n2K n2D : Nat} {Q : Exit → Act → World → Prop} {v0 v1 v3 v4 v5 v6 v7 v8 v9 v10 v11 v12 v13 v14 v15 v16 v17 v18 v19 v22 v25 v26 v29 v32 v33 v36 v39 v40 v41 v42 v43 v44 v45 v46 v47 v48 v49 v50 v51 v52 v53 v54 v55 v56 v57 v58 v59 v60 v61 v62 v63 v64 v65 v66 v67 v68 v69 v70 v71 v72 v73 v74 v75 v76 v77 v78 v79 v80 v81 v82 v83 v84 v85 v86 v87 v88 v89 v90 v91 v92 v93 v94 v95 v96 v97 v98 v99 v100 v101 v102 v103 v104 v105 v106 v107 v108 v109 v110 v111 v112 v113 v114 v115 v116 v117 v118 v119 v120 v121 v122 v123 v124 v125 v126 v127 v128 v129 v130 v131 v132 v133 v134 : Value} (HJ : Hid (JoS w wr lf k D lD)) (HL1 : Hid (w.heap.size + 1 ≤ wr.heap.size)) (FE : Hid (n2E = D.es.length + D.es.length ∧ D.es.length ≤ 8000000)) (FK : Hid (n2K = D.ks.length + D.ks.length ∧ D.ks.length ≤ 8000000)) (FD : Hid (n2D = D.ds.length + D.ds.length ∧ D.ds.length ≤ 8000000)) (HE : Hid (CellsAt wr lD.EA uE)) (HK : Hid (CellsAt wr lD.KA uK)) (HD : Hid (CellsAt wr lD.DA uD)) (LE : Hid (uE.length = D.es.length * 8)) (LK : Hid (uK.length = D.ks.length * 2)) (LD : Hid (uD.length = D.ds.length * 1)) (OE : Hid (∀ u ∈ uE, u.oneCell' = true)) (OK : Hid (∀ u ∈ uK, u.oneCell' = true)) (OD : Hid (∀ u ∈ uD, u.oneCell' = true)) (HU : Hid (uE = D.es.flatMap enC ∧ uK = D.ks.flatMap kyC ∧ uD = D.ds.map kdC ∧ D2 = ⟨D.leaf, D.es ++ D.es, D.ks ++ D.ks, D.ds ++ D.ds⟩)) (HB : Hid (Below wr.heap.size wr xx)) (RE : Hid (xx.ownsRow wr.heap.size 51 8 (v19) 0 [])) (hQ : Hid (∀ b19 b20 b21 b22 b23 b24 b25 b26 b27 b28 b29 b30 b31 b32 b33 b34 b35 b36 b37 b38 b39 b40 b41 b42 : Value, ∀ x2 : World, Hid (∃ l2, JoS w x2 lf (k + 1) D2 l2) → Q .normal { tmps := #[v0, v1, .pointer (some ⟨w.heap.size, 0, none⟩), v3, v4, v5, v6, v7, v8, v9, v10, v11, v12, v13, v14, v15, v16, v17, v18, b19, b20, b21, b22, b23, b24, b25, b26, b27, b28, b29, b30, b31, b32, b33, b34, b35, b36, b37, b38, b39, b40, b41, b42, v43, v44, v45, v46, v47, v48, v49, v50, v51, v52, v53, v54, v55, v56, v57, v58, v59, v60, v61, v62, v63, v64, v65, v66, v67, v68, v69, v70, v71, v72, v73, v74, v75, v76, v77, v78, v79, v80, v81, v82, v83, v84, v85, v86, v87, v88, v89, v90, v91, v92, v93, v94, v95, v96, v97, v98, v99, v100, v101, v102, v103, v104, v105, v106, v107, v108, v109, v110, v111, v112, v113, v114, v115, v116, v117, v118, v119, v120, v121, v122, v123, v124, v125, v126, v127, v128, v129, v130, v131, v132, v133, v134], defers := [] } x2)) :
    wpWaysT Try.prog reg4ops.toArray Q (fun w' => ∃ y : SubW (w.heap.size + 1) wr, w' = y.at_) (reg4ops.drop 22) (.three [] 3 (.three [] 6 (.two [21] 7 (.two [] 10 (.two [] 13 (.one [] 14 (.one [] 17 (.one [] 20 (.done [])))) 14 (.one [] 13 (.one [] 17 (.one [] 20 (.done []))))) 14 (.one [] 10 (.one [] 13 (.one [] 17 (.one [] 20 (.done [])))))) 14 (.one [] 7 (.one [] 10 (.one [] 13 (.one [] 17 (.one [] 20 (.done []))))))) 7 (.two [] 6 (.two [21] 10 (.two [] 13 (.one [] 14 (.one [] 17 (.one [] 20 (.done [])))) 14 (.one [] 13 (.one [] 17 (.one [] 20 (.done []))))) 14 (.one [] 10 (.one [] 13 (.one [] 17 (.one [] 20 (.done [])))))) 14 (.one [] 6 (.one [21] 10 (.one [] 13 (.one [] 17 (.one [] 20 (.done []))))))) 14 (.two [] 6 (.one [21] 7 (.one [] 10 (.one [] 13 (.one [] 17 (.one [] 20 (.done [])))))) 7 (.one [] 6 (.one [21] 10 (.one [] 13 (.one [] 17 (.one [] 20 (.done [])))))))) 7 (.two [] 3 (.two [] 6 (.two [21] 10 (.two [] 13 (.one [] 14 (.one [] 17 (.one [] 20 (.done [])))) 14 (.one [] 13 (.one [] 17 (.one [] 20 (.done []))))) 14 (.one [] 10 (.one [] 13 (.one [] 17 (.one [] 20 (.done [])))))) 14 (.one [] 6 (.one [21] 10 (.one [] 13 (.one [] 17 (.one [] 20 (.done []))))))) 14 (.one [] 3 (.one [] 6 (.one [21] 10 (.one [] 13 (.one [] 17 (.one [] 20 (.done [])))))))) 14 (.two [] 3 (.two [] 6 (.one [21] 7 (.one [] 10 (.one [] 13 (.one [] 17 (.one [] 20 (.done [])))))) 7 (.one [] 6 (.one [21] 10 (.one [] 13 (.one [] 17 (.one [] 20 (.done []))))))) 7 (.one [] 3 (.one [] 6 (.one [21] 10 (.one [] 13 (.one [] 17 (.one [] 20 (.done []))))))))) { tmps := #[v0, v1, .pointer (some ⟨w.heap.size, 0, none⟩), v3, v4, v5, v6, v7, v8, v9, v10, v11, v12, v13, v14, v15, v16, v17, v18, v19, .pointer (some ⟨w.heap.size, 1, none⟩), .slice lD.EA D.es.length lD.ec, v22, .pointer (some ⟨w.heap.size, 1, none⟩), .slice lD.EA D.es.length lD.ec, v25, v26, .pointer (some ⟨w.heap.size, 2, none⟩), .slice lD.KA D.ks.length lD.kc, v29, .pointer (some ⟨w.heap.size, 2, none⟩), .slice lD.KA D.ks.length lD.kc, v32, v33, .pointer (some ⟨w.heap.size, 3, none⟩), .slice lD.DA D.ds.length lD.dc, v36, .pointer (some ⟨w.heap.size, 3, none⟩), .slice lD.DA D.ds.length lD.dc, v39, v40, v41, v42, v43, v44, v45, v46, v47, v48, v49, v50, v51, v52, v53, v54, v55, v56, v57, v58, v59, v60, v61, v62, v63, v64, v65, v66, v67, v68, v69, v70, v71, v72, v73, v74, v75, v76, v77, v78, v79, v80, v81, v82, v83, v84, v85, v86, v87, v88, v89, v90, v91, v92, v93, v94, v95, v96, v97, v98, v99, v100, v101, v102, v103, v104, v105, v106, v107, v108, v109, v110, v111, v112, v113, v114, v115, v116, v117, v118, v119, v120, v121, v122, v123, v124, v125, v126, v127, v128, v129, v130, v131, v132, v133, v134], defers := [] } xx := by
  rw [wpWaysT_three]
  try simp only [reg4ops, List.map_cons, List.map_nil, opAt, List.getElem?_toArray, List.getElem?_cons_zero, List.getElem?_cons_succ, Option.getD_some]
  refine wpQuiet_nil ⟨?_, ?_, ?_⟩
  · skip
    go_wp2_with (at_builtin; refine appE1 rfl (.tmp 19) (.tmp 21) rfl _ rfl RE.out rfl HE.out HB.out LE.out OE.out FE.out ?_; intro A1 c1 x1 R1 g1)
    have B1 := Lib.hid (grown_bel HB.out RE.out g1)
    replace R1 := Lib.hid R1
    clear g1
    refine ⟨⟨⟨_, B1.out.mono HL1.out⟩, rfl⟩, ?_⟩
    try simp only [Act.put, List.setIfInBounds_toArray, List.set_cons_zero, List.set_cons_succ]
    exact st_0_3 HJ HL1 FE FK FD HE HK HD LE LK LD OE OK OD HU B1 R1 hQ
  · skip
    go_wp2_with fail
    obtain ⟨x1, ex1⟩ : ∃ x, x = xx.alloc (.cells #[] 48) := ⟨_, rfl⟩
    rw [← ex1]
    have R1 := Lib.hid (empty_row wr xx 48 2 x1 ex1 HB.out)
    have b1 := alloc_bel ex1
    have Q1E := Lib.hid (row_below RE.out b1)
    have B1 := Lib.hid (HB.out.trans (b1.mono HB.out.size))
    clear b1 ex1
    refine ⟨⟨⟨_, B1.out.mono HL1.out⟩, rfl⟩, ?_⟩
    try simp only [Act.put, List.setIfInBounds_toArray, List.set_cons_zero, List.set_cons_succ]
    exact st_0_7 HJ HL1 FE FK FD HE HK HD LE LK LD OE OK OD HU B1 Q1E R1 hQ
  · skip
    go_wp2_with fail
    obtain ⟨x1, ex1⟩ : ∃ x, x = xx.alloc (.cells #[] 3) := ⟨_, rfl⟩
    rw [← ex1]
    have R1 := Lib.hid (empty_row wr xx 3 1 x1 ex1 HB.out)
    have b1 := alloc_bel ex1
    have Q1E := Lib.hid (row_below RE.out b1)
    have B1 := Lib.hid (HB.out.trans (b1.mono HB.out.size))
    clear b1 ex1
    refine ⟨⟨⟨_, B1.out.mono HL1.out⟩, rfl⟩, ?_⟩
    try simp only [Act.put, List.setIfInBounds_toArray, List.set_cons_zero, List.set_cons_succ]
    exact st_0_14 HJ HL1 FE FK FD HE HK HD LE LK LD OE OK OD HU B1 Q1E R1 hQ

set_option maxRecDepth 100000 in
set_option maxHeartbeats 4000000 in
theorem st_7_14 {w wr xx : World} {lf : Bool} {k : Nat} {D D2 : NodeD} {lD : NdL} {uE uK uD : List Value} {n2E n2K n2D : Nat} {Q : Exit → Act → World → Prop} {v0 v1 v3 v4 v5 v6 v7 v8 v9 v10 v11 v12 v13 v14 v15 v16 v17 v18 v19 v22 v25 v26 v29 v32 v33 v36 v39 v40 v41 v42 v43 v44 v45 v46 v47 v48 v49 v50 v51 v52 v53 v54 v55 v56 v57 v58 v59 v60 v61 v62 v63 v64 v65 v66 v67 v68 v69 v70 v71 v72 v73 v74 v75 v76 v77 v78 v79 v80 v81 v82 v83 v84 v85 v86 v87 v88 v89 v90 v91 v92 v93 v94 v95 v96 v97 v98 v99 v100 v101 v102 v103 v104 v105 v106 v107 v108 v109 v110 v111 v112 v113 v114 v115 v116 v117 v118 v119 v120 v121 v122 v123 v124 v125 v126 v127 v128 v129 v130 v131 v132 v133 v134 : Value} (HJ : Hid (JoS w wr lf k D lD)) (HL1 : Hid (w.heap.size + 1 ≤ wr.heap.size)) (FE : Hid (n2E = D.es.length + D.es.length ∧ D.es.length ≤ 8000000)) (FK : Hid (n2K = D.ks.length + D.ks.length ∧ D.ks.length ≤ 8000000)) (FD : Hid (n2D = D.ds.length + D.ds.length ∧ D.ds.length ≤ 8000000)) (HE : Hid (CellsAt wr lD.EA uE)) (HK : Hid (CellsAt wr lD.KA uK)) (HD : Hid (CellsAt wr lD.DA uD)) (LE : Hid (uE.length = D.es.length * 8)) (LK : Hid (uK.length = D.ks.length * 2)) (LD : Hid (uD.length = D.ds.length * 1)) (OE : Hid (∀ u ∈ uE, u.oneCell' = true)) (OK : Hid (∀ u ∈ uK, u.oneCell' = true)) (OD : Hid (∀ u ∈ uD, u.oneCell' = true)) (HU : Hid (uE = D.es.flatMap enC ∧ uK = D.ks.flatMap kyC ∧ uD = D.ds.map kdC ∧ D2 = ⟨D.leaf, D.es ++ D.es, D.ks ++ D.ks, D.ds ++ D.ds⟩)) (HB : Hid (Below wr.heap.size wr xx)) (RK : Hid (xx.ownsRow wr.heap.size 48 2 (v26) 0 [])) (RD : Hid (xx.ownsRow wr.heap.size 3 1 (v33) 0 [])) (hQ : Hid (∀ b19 b20 b21 b22 b23 b24 b25 b26 b27 b28 b29 b30 b31 b32 b33 b34 b35 b36 b37 b38 b39 b40 b41 b42 : Value, ∀ x2 : World, Hid (∃ l2, JoS w x2 lf (k + 1) D2 l2) → Q .normal { tmps := #[v0, v1, .pointer (some ⟨w.heap.size, 0, none⟩), v3, v4, v5, v6, v7, v8, v9, v10, v11, v12, v13, v14, v15, v16, v17, v18, b19, b20, b21, b22, b23, b24, b25, b26, b27, b28, b29, b30, b31, b32, b33, b34, b35, b36, b37, b38, b39, b40, b41, b42, v43, v44, v45, v46, v47, v48, v49, v50, v51, v52, v53, v54, v55, v56, v57, v58, v59, v60, v61, v62, v63, v64, v65, v66, v67, v68, v69, v70, v71, v72, v73, v74, v75, v76, v77, v78, v79, v80, v81, v82, v83, v84, v85, v86, v87, v88, v89, v90, v91, v92, v93, v94, v95, v96, v97, v98, v99, v100, v101, v102, v103, v104, v105, v106, v107, v108, v109, v110, v111, v112, v113, v114, v115, v116, v117, v118, v119, v120, v121, v122, v123, v124, v125, v126, v127, v128, v129, v130, v131, v132, v133, v134], defers := [] } x2)) :
    wpWaysT Try.prog reg4ops.toArray Q (fun w' => ∃ y : SubW (w.heap.size + 1) wr, w' = y.at_) (reg4ops.drop 22) (.one [] 0 (.one [] 3 (.one [] 6 (.one [21] 10 (.one [] 13 (.one [] 17 (.one [] 20 (.done [])))))))) { tmps := #[v0, v1, .pointer (some ⟨w.heap.size, 0, none⟩), v3, v4, v5, v6, v7, v8, v9, v10, v11, v12, v13, v14, v15, v16, v17, v18, v19, .pointer (some ⟨w.heap.size, 1, none⟩), .slice lD.EA D.es.length lD.ec, v22, .pointer (some ⟨w.heap.size, 1, none⟩), .slice lD.EA D.es.length lD.ec, v25, v26, .pointer (some ⟨w.heap.size, 2, none⟩), .slice lD.KA D.ks.length lD.kc, v29, .pointer (some ⟨w.heap.size, 2, none⟩), .slice lD.KA D.ks.length lD.kc, v32, v33, .pointer (some ⟨w.heap.size, 3, none⟩), .slice lD.DA D.ds.length lD.dc, v36, .pointer (some ⟨w.heap.size, 3, none⟩), .slice lD.DA D.ds.length lD.dc, v39, v40, v41, v42, v43, v44, v45, v46, v47, v48, v49, v50, v51, v52, v53, v54, v55, v56, v57, v58, v59, v60, v61, v62, v63, v64, v65, v66, v67, v68, v69, v70, v71, v72, v73, v74, v75, v76, v77, v78, v79, v80, v81, v82, v83, v84, v85, v86, v87, v88, v89, v90, v91, v92, v93, v94, v95, v96, v97, v98, v99, v100, v101, v102, v103, v104, v105, v106, v107, v108, v109, v110, v111, v112, v113, v114, v115, v116, v117, v118, v119, v120, v121, v122, v123, v124, v125, v126, v127, v128, v129, v130, v131, v132, v133, v134], defers := [] } xx := by
  rw [wpWaysT_one]
  try simp only [reg4ops, List.map_cons, List.map_nil, opAt, List.getElem?_toArray, List.getElem?_cons_zero, List.getElem?_cons_succ, Option.getD_some]
  refine wpQuiet_nil ?_
  · skip
    go_wp2_with fail
    obtain ⟨x1, ex1⟩ : ∃ x, x = xx.alloc (.cells #[] 51) := ⟨_, rfl⟩
    rw [← ex1]
    have R1 := Lib.hid (empty_row wr xx 51 8 x1 ex1 HB.out)
    have b1 := alloc_bel ex1
    have Q1K := Lib.hid (row_below RK.out b1)
    have Q1D := Lib.hid (row_below RD.out b1)
    have B1 := Lib.hid (HB.out.trans (b1.mono HB.out.size))
    clear b1 ex1
    refine ⟨⟨⟨_, B1.out.mono HL1.out⟩, rfl⟩, ?_⟩
    try simp only [Act.put, List.setIfInBounds_toArray, List.set_cons_zero, List.set_cons_succ]
    exact st_0_7_14 HJ HL1 FE FK FD HE HK HD LE LK LD OE OK OD HU B1 R1 Q1K Q1D hQ

set_option maxRecDepth 100000 in
set_option maxHeartbeats 4000000 in
theorem st_7 {w wr xx : World} {lf : Bool} {k : Nat} {D D2 : NodeD} {lD : NdL} {uE uK uD : List Value} {n2E n2K n2D : Nat} {Q : Exit → Act → World → Prop} {v0 v1 v3 v4 v5 v6 v7 v8 v9 v10 v11 v12 v13 v14 v15 v16 v17 v18 v19 v22 v25 v26 v29 v32 v33 v36 v39 v40 v41 v42 v43 v44 v45 v46 v47 v48 v49 v50 v51 v52 v53 v54 v55 v56 v57 v58 v59 v60 v61 v62 v63 v64 v65 v66 v67 v68 v69 v70 v71 v72 v73 v74 v75 v76 v77 v78 v79 v80 v81 v82 v83 v84 v85 v86 v87 v88 v89 v90 v91 v92 v93 v94 v95 v96 v97 v98 v99 v100 v101 v102 v103 v104 v105 v106 v107 v108 v109 v110 v111 v112 v113 v114 v115 v116 v117 v118 v119 v120 v121 v122 v123 v124 v125 v126 v127 v128 v129 v130 v131 v132 v133 v134 : Value} (HJ : Hid (JoS w wr lf k D lD)) (HL1 : Hid (w.heap.size + 1 ≤ wr.heap.size)) (FE : Hid (n2E = D.es.length + D.es.length ∧ D.es.length ≤ 8000000)) (FK : Hid (n2K = D.ks.length + D.ks.length ∧ D.ks.length ≤ 8000000)) (FD : Hid (n2D = D.ds.length + D.ds.length ∧ D.ds.length ≤ 8000000)) (HE : Hid (CellsAt wr lD.EA uE)) (HK : Hid (CellsAt wr lD.KA uK)) (HD : Hid (CellsAt wr lD.DA uD)) (LE : Hid (uE.length = D.es.length * 8)) (LK : Hid (uK.length = D.ks.length * 2)) (LD : Hid (uD.length = D.ds.length * 1)) (OE : Hid (∀ u ∈ uE, u.oneCell' = true)) (OK : Hid (∀ u ∈ uK, u.oneCell' = true)) (OD : Hid (∀ u ∈ uD, u.oneCell' = true)) (HU : Hid (uE = D.es.flatMap enC ∧ uK = D.ks.flatMap kyC ∧ uD = D.ds.map kdC ∧ D2 = ⟨D.leaf, D.es ++ D.es, D.ks ++ D.ks, D.ds ++ D.ds⟩)) (HB : Hid (Below wr.heap.size wr xx)) (RK : Hid (xx.ownsRow wr.heap.size 48 2 (v26) 0 [])) (hQ : Hid (∀ b19 b20 b21 b22 b23 b24 b25 b26 b27 b28 b29 b30 b31 b32 b33 b34 b35 b36 b37 b38 b39 b40 b41 b42 : Value, ∀ x2 : World, Hid (∃ l2, JoS w x2 lf (k + 1) D2 l2) → Q .normal { tmps := #[v0, v1, .pointer (some ⟨w.heap.size, 0, none⟩), v3, v4, v5, v6, v7, v8, v9, v10, v11, v12, v13, v14, v15, v16, v17, v18, b19, b20, b21, b22, b23, b24, b25, b26, b27, b28, b29, b30, b31, b32, b33, b34, b35, b36, b37, b38, b39, b40, b41, b42, v43, v44, v45, v46, v47, v48, v49, v50, v51, v52, v53, v54, v55, v56, v57, v58, v59, v60, v61, v62, v63, v64, v65, v66, v67, v68, v69, v70, v71, v72, v73, v74, v75, v76, v77, v78, v79, v80, v81, v82, v83, v84, v85, v86, v87, v88, v89, v90, v91, v92, v93, v94, v95, v96, v97, v98, v99, v100, v101, v102, v103, v104, v105, v106, v107, v108, v109, v110, v111, v112, v113, v114, v115, v116, v117, v118, v119, v120, v121, v122, v123, v124, v125, v126, v127, v128, v129, v130, v131, v132, v133, v134], defers := [] } x2)) :
    wpWaysT Try.prog reg4ops.toArray Q (fun w' => ∃ y : SubW (w.heap.size + 1) wr, w' = y.at_) (reg4ops.drop 22) (.two [] 0 (.two [] 3 (.two [] 6 (.two [21] 10 (.two [] 13 (.one [] 14 (.one [] 17 (.one [] 20 (.done [])))) 14 (.one [] 13 (.one [] 17 (.one [] 20 (.done []))))) 14 (.one [] 10 (.one [] 13 (.one [] 17 (.one [] 20 (.done [])))))) 14 (.one [] 6 (.one [21] 10 (.one [] 13 (.one [] 17 (.one [] 20 (.done []))))))) 14 (.one [] 3 (.one [] 6 (.one [21] 10 (.one [] 13 (.one [] 17 (.one [] 20 (.done [])))))))) 14 (.one [] 0 (.one [] 3 (.one [] 6 (.one [21] 10 (.one [] 13 (.one [] 17 (.one [] 20 (.done []))))))))) { tmps := #[v0, v1, .pointer (some ⟨w.heap.size, 0, none⟩), v3, v4, v5, v6, v7, v8, v9, v10, v11, v12, v13, v14, v15, v16, v17, v18, v19, .pointer (some ⟨w.heap.size, 1, none⟩), .slice lD.EA D.es.length lD.ec, v22, .pointer (some ⟨w.heap.size, 1, none⟩), .slice lD.EA D.es.length lD.ec, v25, v26, .pointer (some ⟨w.heap.size, 2, none⟩), .slice lD.KA D.ks.length lD.kc, v29, .pointer (some ⟨w.heap.size, 2, none⟩), .slice lD.KA D.ks.length lD.kc, v32, v33, .pointer (some ⟨w.heap.size, 3, none⟩), .slice lD.DA D.ds.length lD.dc, v36, .pointer (some ⟨w.heap.size, 3, none⟩), .slice lD.DA D.ds.length lD.dc, v39, v40, v41, v42, v43, v44, v45, v46, v47, v48, v49, v50, v51, v52, v53, v54, v55, v56, v57, v58, v59, v60, v61, v62, v63, v64, v65, v66, v67, v68, v69, v70, v71, v72, v73, v74, v75, v76, v77, v78, v79, v80, v81, v82, v83, v84, v85, v86, v87, v88, v89, v90, v91, v92, v93, v94, v95, v96, v97, v98, v99, v100, v101, v102, v103, v104, v105, v106, v107, v108, v109, v110, v111, v112, v113, v114, v115, v116, v117, v118, v119, v120, v121, v122, v123, v124, v125, v126, v127, v128, v129, v130, v131, v132, v133, v134], defers := [] } xx := by
  rw [wpWaysT_two]
  try simp only [reg4ops, List.map_cons, List.map_nil, opAt, List.getElem?_toArray, List.getElem?_cons_zero, List.getElem?_cons_succ, Option.getD_some]
  refine wpQuiet_nil ⟨?_, ?_⟩
  · skip
    go_wp2_with fail
    obtain ⟨x1, ex1⟩ : ∃ x, x = xx.alloc (.cells #[] 51) := ⟨_, rfl⟩
    rw [← ex1]
    have R1 := Lib.hid (empty_row wr xx 51 8 x1 ex1 HB.out)
    have b1 := alloc_bel ex1
    have Q1K := Lib.hid (row_below RK.out b1)
    have B1 := Lib.hid (HB.out.trans (b1.mono HB.out.size))
    clear b1 ex1
    refine ⟨⟨⟨_, B1.out.mono HL1.out⟩, rfl⟩, ?_⟩
    try simp only [Act.put, List.setIfInBounds_toArray, List.set_cons_zero, List.set_cons_succ]
    exact st_0_7 HJ HL1 FE FK FD HE HK HD LE LK LD OE OK OD HU B1 R1 Q1K hQ
  · skip
    go_wp2_with fail
    obtain ⟨x1, ex1⟩ : ∃ x, x = xx.alloc (.cells #[] 3) := ⟨_, rfl⟩
    rw [← ex1]
    have R1 := Lib.hid (empty_row wr xx 3 1 x1 ex1 HB.out)
    have b1 := alloc_bel ex1
    have Q1K := Lib.hid (row_below RK.out b1)
    have B1 := Lib.hid (HB.out.trans (b1.mono HB.out.size))
    clear b1 ex1
    refine ⟨⟨⟨_, B1.out.mono HL1.out⟩, rfl⟩, ?_⟩
    try simp only [Act.put, List.setIfInBounds_toArray, List.set_cons_zero, List.set_cons_succ]
    exact st_7_14 HJ HL1 FE FK FD HE HK HD LE LK LD OE OK OD HU B1 Q1K R1 hQ

set_option maxRecDepth 100000 in
set_option maxHeartbeats 4000000 in
theorem st_14 {w wr xx : World} {lf : Bool} {k : Nat} {D D2 : NodeD} {lD : NdL} {uE uK uD : List Value} {n2E n2K n2D : Nat} {Q : Exit → Act → World → Prop} {v0 v1 v3 v4 v5 v6 v7 v8 v9 v10 v11 v12 v13 v14 v15 v16 v17 v18 v19 v22 v25 v26 v29 v32 v33 v36 v39 v40 v41 v42 v43 v44 v45 v46 v47 v48 v49 v50 v51 v52 v53 v54 v55 v56 v57 v58 v59 v60 v61 v62 v63 v64 v65 v66 v67 v68 v69 v70 v71 v72 v73 v74 v75 v76 v77 v78 v79 v80 v81 v82 v83 v84 v85 v86 v87 v88 v89 v90 v91 v92 v93 v94 v95 v96 v97 v98 v99 v100 v101 v102 v103 v104 v105 v106 v107 v108 v109 v110 v111 v112 v113 v114 v115 v116 v117 v118 v119 v120 v121 v122 v123 v124 v125 v126 v127 v128 v129 v130 v131 v132 v133 v134 : Value} (HJ : Hid (JoS w wr lf k D lD)) (HL1 : Hid (w.heap.size + 1 ≤ wr.heap.size)) (FE : Hid (n2E = D.es.length + D.es.length ∧ D.es.length ≤ 8000000)) (FK : Hid (n2K = D.ks.length + D.ks.length ∧ D.ks.length ≤ 8000000)) (FD : Hid (n2D = D.ds.length + D.ds.length ∧ D.ds.length ≤ 8000000)) (HE : Hid (CellsAt wr lD.EA uE)) (HK : Hid (CellsAt wr lD.KA uK)) (HD : Hid (CellsAt wr lD.DA uD)) (LE : Hid (uE.length = D.es.length * 8)) (LK : Hid (uK.length = D.ks.length * 2)) (LD : Hid (uD.length = D.ds.length * 1)) (OE : Hid (∀ u ∈ uE, u.oneCell' = true)) (OK : Hid (∀ u ∈ uK, u.oneCell' = true)) (OD : Hid (∀ u ∈ uD, u.oneCell' = true)) (HU : Hid (uE = D.es.flatMap enC ∧ uK = D.ks.flatMap kyC ∧ uD = D.ds.map kdC ∧ D2 = ⟨D.leaf, D.es ++ D.es, D.ks ++ D.ks, D.ds ++ D.ds⟩)) (HB : Hid (Below wr.heap.size wr xx)) (RD : Hid (xx.ownsRow wr.heap.size 3 1 (v33) 0 [])) (hQ : Hid (∀ b19 b20 b21 b22 b23 b24 b25 b26 b27 b28 b29 b30 b31 b32 b33 b34 b35 b36 b37 b38 b39 b40 b41 b42 : Value, ∀ x2 : World, Hid (∃ l2, JoS w x2 lf (k + 1) D2 l2) → Q .normal { tmps := #[v0, v1, .pointer (some ⟨w.heap.size, 0, none⟩), v3, v4, v5, v6, v7, v8, v9, v10, v11, v12, v13, v14, v15, v16, v17, v18, b19, b20, b21, b22, b23, b24, b25, b26, b27, b28, b29, b30, b31, b32, b33, b34, b35, b36, b37, b38, b39, b40, b41, b42, v43, v44, v45, v46, v47, v48, v49, v50, v51, v52, v53, v54, v55, v56, v57, v58, v59, v60, v61, v62, v63, v64, v65, v66, v67, v68, v69, v70, v71, v72, v73, v74, v75, v76, v77, v78, v79, v80, v81, v82, v83, v84, v85, v86, v87, v88, v89, v90, v91, v92, v93, v94, v95, v96, v97, v98, v99, v100, v101, v102, v103, v104, v105, v106, v107, v108, v109, v110, v111, v112, v113, v114, v115, v116, v117, v118, v119, v120, v121, v122, v123, v124, v125, v126, v127, v128, v129, v130, v131, v132, v133, v134], defers := [] } x2)) :
    wpWaysT Try.prog reg4ops.toArray Q (fun w' => ∃ y : SubW (w.heap.size + 1) wr, w' = y.at_) (reg4ops.drop 22) (.two [] 0 (.two [] 3 (.two [] 6 (.one [21] 7 (.one [] 10 (.one [] 13 (.one [] 17 (.one [] 20 (.done [])))))) 7 (.one [] 6 (.one [21] 10 (.one [] 13 (.one [] 17 (.one [] 20 (.done []))))))) 7 (.one [] 3 (.one [] 6 (.one [21] 10 (.one [] 13 (.one [] 17 (.one [] 20 (.done [])))))))) 7 (.one [] 0 (.one [] 3 (.one [] 6 (.one [21] 10 (.one [] 13 (.one [] 17 (.one [] 20 (.done []))))))))) { tmps := #[v0, v1, .pointer (some ⟨w.heap.size, 0, none⟩), v3, v4, v5, v6, v7, v8, v9, v10, v11, v12, v13, v14, v15, v16, v17, v18, v19, .pointer (some ⟨w.heap.size, 1, none⟩), .slice lD.EA D.es.length lD.ec, v22, .pointer (some ⟨w.heap.size, 1, none⟩), .slice lD.EA D.es.length lD.ec, v25, v26, .pointer (some ⟨w.heap.size, 2, none⟩), .slice lD.KA D.ks.length lD.kc, v29, .pointer (some ⟨w.heap.size, 2, none⟩), .slice lD.KA D.ks.length lD.kc, v32, v33, .pointer (some ⟨w.heap.size, 3, none⟩), .slice lD.DA D.ds.length lD.dc, v36, .pointer (some ⟨w.heap.size, 3, none⟩), .slice lD.DA D.ds.length lD.dc, v39, v40, v41, v42, v43, v44, v45, v46, v47, v48, v49, v50, v51, v52, v53, v54, v55, v56, v57, v58, v59, v60, v61, v62, v63, v64, v65, v66, v67, v68, v69, v70, v71, v72, v73, v74, v75, v76, v77, v78, v79, v80, v81, v82, v83, v84, v85, v86, v87, v88, v89, v90, v91, v92, v93, v94, v95, v96, v97, v98, v99, v100, v101, v102, v103, v104, v105, v106, v107, v108, v109, v110, v111, v112, v113, v114, v115, v116, v117, v118, v119, v120, v121, v122, v123, v124, v125, v126, v127, v128, v129, v130, v131, v132, v133, v134], defers := [] } xx := by
  rw [wpWaysT_two]
  try simp only [reg4ops, List.map_cons, List.map_nil, opAt, List.getElem?_toArray, List.getElem?_cons_zero, List.getElem?_cons_succ, Option.getD_some]
  refine wpQuiet_nil ⟨?_, ?_⟩
  · skip
    go_wp2_with fail
    obtain ⟨x1, ex1⟩ : ∃ x, x = xx.alloc (.cells #[] 51) := ⟨_, rfl⟩
    rw [← ex1]
    have R1 := Lib.hid (empty_row wr xx 51 8 x1 ex1 HB.out)
    have b1 := alloc_bel ex1
    have Q1D := Lib.hid (row_below RD.out b1)
    have B1 := Lib.hid (HB.out.trans (b1.mono HB.out.size))
    clear b1 ex1
    refine ⟨⟨⟨_, B1.out.mono HL1.out⟩, rfl⟩, ?_⟩
    try simp only [Act.put, List.setIfInBounds_toArray, List.set_cons_zero, List.set_cons_succ]
    exact st_0_14 HJ HL1 FE FK FD HE HK HD LE LK LD OE OK OD HU B1 R1 Q1D hQ
  · skip
    go_wp2_with fail
    obtain ⟨x1, ex1⟩ : ∃ x, x = xx.alloc (.cells #[] 48) := ⟨_, rfl⟩
    rw [← ex1]
    have R1 := Lib.hid (empty_row wr xx 48 2 x1 ex1 HB.out)
    have b1 := alloc_bel ex1
    have Q1D := Lib.hid (row_below RD.out b1)
    have B1 := Lib.hid (HB.out.trans (b1.mono HB.out.size))
    clear b1 ex1
    refine ⟨⟨⟨_, B1.out.mono HL1.out⟩, rfl⟩, ?_⟩
    try simp only [Act.put, List.setIfInBounds_toArray, List.set_cons_zero, List.set_cons_succ]
    exact st_7_14 HJ HL1 FE FK FD HE HK HD LE LK LD OE OK OD HU B1 R1 Q1D hQ

end Go.Proofs.Ytgkddhncfaeidaa
