/- A region that draws its order, where what touches memory comes in one forced order, and all else only reads what no one there writes: walked once, in an order of one's own. No program is named here. -/
import Derived.Test.YtgkddhncfaeidaaCom
import Derived.OrdersHeld
import Derived.Deep.RegionHeld3
namespace Go.Proofs.Ytgkddhncfaeidaa
open Go.RowKit

/-- An operation that yields a value, or panics: no call of a Go function, no store. -/
def softB (o : Oper) : Bool := match o.op with
  | .move _ | .assign _ | .pick _ _ _ | .load _ _ | .binOp _ _ _ _ _ | .unOp _ _ _ | .convert _ _ _ | .slice _ _ _ _ _ | .fieldAddr _ _ _ | .field _ _ _ | .indexAddr _ _ _ | .index _ _ _ | .extract _ _ => true
  | .call c => match c.callee with
    | .builtin .len | .builtin .cap | .builtin .min | .builtin .max => true
    | _ => false
  | _ => false

theorem andThen_value {m : Result Value} {n : Next} {w' : World} (h : (m.andThen fun a w => Result.ok (Next.value a) w) = .ok n w') : ∃ u, n = .value u := by
  cases m with
  | ok v w => simp [Result.andThen] at h; exact ⟨v, h.1.symm⟩
  | halt x w => simp [Result.andThen] at h

theorem soft_value {P : Program} {o : Oper} (hs : softB o = true) {ρ : Operand → Value} {w w' : World} {n : Next} (h : (execOp ρ o).run P w = .ok n w') : ∃ u, n = .value u := by
  obtain ⟨dst, op, type, pos, after, guard⟩ := o
  cases op <;> simp only [softB, Bool.false_eq_true] at hs <;> simp only [execOp, Sem.run_bind, Sem.run_pure] at h
  case move => exact ⟨_, by injection h with h1; exact h1.symm⟩
  case assign => exact ⟨_, by injection h with h1; exact h1.symm⟩
  case call c =>
    obtain ⟨callee, args, argTypes⟩ := c
    cases callee with
    | builtin b =>
      cases b <;> simp only [Bool.false_eq_true] at hs <;> simp only [resolve, invoke, builtin, Sem.run_bind, Sem.run_pure, Result.andThen_ok] at h <;> exact andThen_value h
    | _ => simp only [Bool.false_eq_true] at hs
  case pick c a b =>
    generalize (asBool _).run P w = m at h
    cases m with
    | ok v w2 => simp [Result.andThen] at h; exact ⟨_, h.1.symm⟩
    | halt x w2 => simp [Result.andThen] at h
  all_goals exact andThen_value h

section
variable {P : Program} {ops : Array Oper} {md : Region.Mode} {S : World → Prop}

def opAt (ops : Array Oper) (i : Nat) : Oper := (ops[i]?).getD ⟨none, .move (.const undef), 0, "", #[], none⟩

theorem opAt_some {i : Nat} (h : i < ops.size) : ops[i]? = some (opAt ops i) := by
  unfold opAt
  rw [Array.getElem?_eq_getElem h]
  rfl

/-- Soft ones, one behind the other: what is listed behind them. -/
def softs (md : Region.Mode) (ops : Array Oper) : List Nat → Array Bool → Option (Array Bool)
  | [], listed => some listed
  | i :: r, listed => if (decide (i < ops.size) && softB (opAt ops i) && Region.free md ops listed i && (Region.ready md ops listed).contains i) = true then softs md ops r (listed.setIfInBounds i true) else none

theorem softs_take {Q : Exit → Act → World → Prop} {K : Act → Prop} (hsel : Region.noSelect ops = true) {fuel : Nat} {l' : Array Bool} {w : World} (hS : S w) (hK : ∀ a, K a → wpAnyH P md ops (NoPanic Q) S fuel l' a w) :
    ∀ (qs : List Nat) (listed : Array Bool) (a : Act), softs md ops qs listed = some l' → wpQuiet P ops S K (qs.map (opAt ops)) a → wpAnyH P md ops (NoPanic Q) S (qs.length + fuel) listed a w
  | [], listed, a, h, hq => by
    simp only [softs, Option.some.injEq] at h
    subst h
    rw [List.length_nil, Nat.zero_add]
    exact hK a hq
  | i :: r, listed, a, h, hq => by
    simp only [softs] at h
    split at h
    · rename_i hc
      simp only [Bool.and_eq_true, decide_eq_true_eq] at hc
      obtain ⟨⟨⟨h1, h2⟩, h3⟩, h4⟩ := hc
      have ho := opAt_some h1
      rw [List.length_cons, show r.length + 1 + fuel = (r.length + fuel) + 1 by omega]
      simp only [List.map_cons, wpQuiet] at hq
      split at hq
      · rename_i hw
        obtain ⟨v, hv, hn⟩ := hq
        refine wpAnyH_take ho hsel h3 h4 (fun _ _ _ h => h) (v := v) (.inl ⟨hw, fun w2 hw2 => ?_⟩) hS (softs_take hsel hS hK r _ _ h hn)
        have hv2 := hv w2 hw2
        unfold Oper.quietAt at hv2
        generalize hr : (execOp a.eval (opAt ops i)).run P w2 = x at hv2
        cases x with
        | ok n w3 =>
          obtain ⟨u, rfl⟩ := soft_value h2 hr
          obtain ⟨rfl, rfl⟩ := hv2
          rfl
        | halt x w3 => exact hv2.elim
      · rename_i hw
        exact wpAnyH_take ho hsel h3 h4 (fun _ _ _ h => h) (v := undef) (.inr ⟨by simpa using hw, rfl⟩) hS (softs_take hsel hS hK r _ _ h hq)
    · cases h

/-- The order of one's own: soft ones, then one that touches memory, and so on; soft ones at the end. -/
def blB (md : Region.Mode) (ops : Array Oper) : List (List Nat × Nat) → List Nat → Array Bool → Bool
  | [], last, listed => match softs md ops last listed with
    | some l' => (Region.ready md ops l').isEmpty
    | none => false
  | (qs, h) :: r, last, listed => match softs md ops qs listed with
    | some l' => decide (Region.ready md ops l' = [h]) && blB md ops r last (l'.setIfInBounds h true)
    | none => false

def blN : List (List Nat × Nat) → List Nat → Nat
  | [], last => last.length
  | (qs, _) :: r, last => qs.length + (blN r last + 1)

/-- The walk in that order. -/
def wpBl (P : Program) (ops : Array Oper) (Q : Exit → Act → World → Prop) (S : World → Prop) : List (List Nat × Nat) → List Nat → Act → World → Prop
  | [], last, a, w => wpQuiet P ops S (fun a' => Q .normal a' w) (last.map (opAt ops)) a
  | (qs, h) :: r, last, a, w => wpQuiet P ops S (fun a' => wpList P ops (Exit.then (fun a2 w2 => S w2 ∧ wpBl P ops Q S r last a2 w2) (NoPanic Q)) [opAt ops h] a' w) (qs.map (opAt ops)) a

theorem wpBl_cons {Q : Exit → Act → World → Prop} {qs : List Nat} {h : Nat} {r : List (List Nat × Nat)} {last : List Nat} {a : Act} {w : World} :
    wpBl P ops Q S ((qs, h) :: r) last a w = wpQuiet P ops S (fun a' => wpList P ops (Exit.then (fun a2 w2 => S w2 ∧ wpBl P ops Q S r last a2 w2) (NoPanic Q)) [opAt ops h] a' w) (qs.map (opAt ops)) a := rfl
theorem wpBl_nil {Q : Exit → Act → World → Prop} {last : List Nat} {a : Act} {w : World} : wpBl P ops Q S [] last a w = wpQuiet P ops S (fun a' => Q .normal a' w) (last.map (opAt ops)) a := rfl

theorem wpAnyH_of_bl {Q : Exit → Act → World → Prop} (hsel : Region.noSelect ops = true) :
    ∀ (bl : List (List Nat × Nat)) (last : List Nat) (listed : Array Bool) (a : Act) (w : World), S w → blB md ops bl last listed = true → wpBl P ops Q S bl last a w → wpAnyH P md ops (NoPanic Q) S (blN bl last) listed a w
  | [], last, listed, a, w, hS, hB, h => by
    simp only [blB] at hB
    split at hB
    · rename_i l' hl
      have hr : Region.ready md ops l' = [] := by simpa using hB
      have := softs_take (P := P) (Q := Q) (K := fun a' => Q .normal a' w) (fuel := 0) hsel hS (fun a' ha => wpAnyH_done hr (NoPanic.normal ha) 0) last listed a hl h
      simpa [blN] using this
    · cases hB
  | (qs, i) :: r, last, listed, a, w, hS, hB, h => by
    simp only [blB] at hB
    split at hB
    · rename_i l' hl
      simp only [Bool.and_eq_true, decide_eq_true_eq] at hB
      obtain ⟨hr, hB2⟩ := hB
      have hi : i < ops.size := by
        have : i ∈ Region.ready md ops l' := by rw [hr]; simp
        obtain ⟨_, o, ho, _⟩ := mem_ready.1 this
        exact (Array.getElem?_eq_some_iff.1 ho).1
      refine softs_take (fuel := blN r last + 1) hsel hS (fun a' ha => ?_) qs listed a hl h
      refine wpAnyH_all hr (by simp) fun j hj => ?_
      obtain rfl : j = i := by simpa using hj
      unfold wpOp
      rw [opAt_some hi]
      simp only [wpList] at ha
      have key : ∀ a2 w2, Exit.then (fun a2 w2 => S w2 ∧ wpBl P ops Q S r last a2 w2) (NoPanic Q) .normal a2 w2 → S w2 ∧ wpAnyH P md ops (NoPanic Q) S (blN r last) (l'.setIfInBounds j true) a2 w2 :=
        fun a2 w2 h2 => ⟨h2.1, wpAnyH_of_bl hsel r last _ a2 w2 h2.1 hB2 h2.2⟩
      simp only
      split at ha
      · rename_i hw
        rw [if_pos hw]
        rcases ha with ha | ⟨h1, h2⟩
        · left
          unfold Oper.wp at *
          generalize (execOp a'.eval (opAt ops j)).run P w = x at *
          cases x with
          | ok n w3 =>
            cases n <;> simp only [Oper.upon] at ha ⊢
            case value u => exact key _ _ ha
            case skip => exact key _ _ ha
            case defer d => exact key _ _ ha
            case enter f args =>
              refine Calls.mono ha fun e w'' he => ?_
              cases e with
              | returned u => exact key _ _ he
              | panicked c => exact he
              | outgrown => exact he
            case row row args => exact Rows.mono ha fun u w'' he => key _ _ he
          | halt x w3 => cases x <;> simp only [Oper.upon] at ha ⊢ <;> exact ha
        · right
          exact ⟨h1, h2⟩
      · rename_i hw
        rw [if_neg hw]
        exact key _ _ ha
    · cases hB

def blOK (ops : Array Oper) (bl : List (List Nat × Nat)) (last : List Nat) : Bool :=
  Region.noSelect ops && decide (blN bl last = ops.size) && blB .any ops bl last (Array.replicate ops.size false)

/-- A region that draws its order, by an order of one's own. -/
theorem region_bl {id : Nat} {Q : Exit → Act → World → Prop} {a : Act} {w : World} (bl : List (List Nat × Nat)) (last : List Nat) (S : World → Prop) (hm : P.follows .mixedOrders = true) (hB : blOK ops bl last = true) (hS : S { w with drawn := w.drawn + 1 })
    (h : wpBl P ops Q S bl last a { w with drawn := w.drawn + 1 }) : (Code.region id ops true).wp P Q a w := by
  simp only [blOK, Bool.and_eq_true, decide_eq_true_eq] at hB
  obtain ⟨⟨h1, h2⟩, h3⟩ := hB
  refine wp_region_noPanic (wp_region_held (S := S) hm ?_)
  have := wpAnyH_of_bl (P := P) (Q := Q) (S := S) (md := .any) h1 bl last _ a _ hS h3 h
  rwa [h2] at this

/-- The same, the world behind the draw being whatever stands over the old one. -/
theorem region_bl' {id : Nat} {Q : Exit → Act → World → Prop} {a : Act} {w : World} (bl : List (List Nat × Nat)) (last : List Nat) (S : World → Prop) (hm : P.follows .mixedOrders = true) (hB : blOK ops bl last = true)
    (hS : ∀ w', Below w.heap.size w w' → S w') (h : ∀ w', Below w.heap.size w w' → w'.heap = w.heap → wpBl P ops Q S bl last a w') : (Code.region id ops true).wp P Q a w :=
  region_bl bl last S hm hB (hS _ (below_drewN (Below.refl _ _) 1)) (h _ (below_drewN (Below.refl _ _) 1) rfl)

/-- The class of all worlds over the one at hand. -/
def Over (w0 : World) (w' : World) : Prop := ∃ x : SubW w0.heap.size w0, w' = x.at_

theorem region_over {id : Nat} {Q : Exit → Act → World → Prop} {a : Act} {w : World} (bl : List (List Nat × Nat)) (last : List Nat) (hm : P.follows .mixedOrders = true) (hB : blOK ops bl last = true)
    (h : ∀ w', Below w.heap.size w w' → wpBl P ops Q (fun w' => ∃ x : SubW w.heap.size w, w' = x.at_) bl last a w') : (Code.region id ops true).wp P Q a w :=
  region_bl' bl last _ hm hB (fun w' hw => ⟨⟨w', hw⟩, rfl⟩) (fun w' hw _ => h w' hw)

/-- The same, where blocks from B on may change. -/
theorem region_overB {id : Nat} {Q : Exit → Act → World → Prop} {a : Act} {w : World} (B : Nat) (hBw : B ≤ w.heap.size) (bl : List (List Nat × Nat)) (last : List Nat) (hm : P.follows .mixedOrders = true) (hB : blOK ops bl last = true)
    (h : ∀ w', Below w.heap.size w w' → wpBl P ops Q (fun w' => ∃ x : SubW B w, w' = x.at_) bl last a w') : (Code.region id ops true).wp P Q a w :=
  region_bl' bl last _ hm hB (fun w' hw => ⟨⟨w', hw.mono hBw⟩, rfl⟩) (fun w' hw _ => h w' hw)

/-- A cell is read that holds the same in every world of the class. -/
theorem quiet_load_cell {o : Oper} {a : Act} {K : Act → Prop} (ty : TypeId) (x : Operand) (ho : o.op = .load ty x) (ad : Addr) (hx : a.eval x = .pointer (some ad)) (v : Value) (d : TypeDesc)
    (hu : P.underlying ty = some d) (hd : (match d with | .struct _ | .array _ _ => true | _ => false) = false) (hc : ∀ w', S w' → w'.cell? ad = some v) (h : K (a.put o.dst v)) : o.quiet P a S K := by
  refine ⟨v, fun w hw => ?_, h⟩
  have hagg : (isAgg ty).run P w = .ok false w := by
    unfold isAgg
    rw [Sem.run_bind, run_underlying hu w]
    cases d <;> simp_all
  unfold Oper.quietAt execOp
  simp only [ho, hx, Instr.loadAt, Instr.sureAddr, Sem.run_bind, Sem.run_pure, Result.andThen_ok, loadVar, hagg, Bool.false_eq_true, if_false, run_load, hc w hw]
  exact ⟨rfl, rfl⟩
end
end Go.Proofs.Ytgkddhncfaeidaa
