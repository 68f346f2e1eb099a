/- '==' of an array of numbers and itself, in the model: true. No program is named here. -/
import Derived.Laws.StructEq
import Derived.Laws.Rows
namespace Go.Proofs.Ytnfbebfgllldgaa
variable {P : Program}

theorem equalIn_self (w : World) (d : Nat) {t e : TypeId} {n : Nat} {k : IntKind} {f : Nat → Int} {xs : Array Value} (ht : P.underlying t = some (.array n e)) (he : P.underlying e = some (.int k))
    (hi : (P.info? e).map (·.size) = some 1) (hx : ∀ i, i < n → xs[i]? = some (.int k (f i))) : (Op.equalIn (d + 2) t (.agg xs) (.agg xs)).run P w = .ok true w := by
  have hsz : ∀ w, (sizeOf e).run P w = .ok 1 w := fun w => by
    cases hq : P.info? e with
    | none => simp [hq] at hi
    | some i => simp [hq] at hi; simp [sizeOf, typeInfo, hq, hi]
  have hagg : ∀ w, (isAgg e).run P w = .ok false w := fun w => by
    unfold isAgg
    rw [Sem.run_bind, run_underlying he w]
    simp
  have hpart : ∀ w i, i < n → (part e xs (i * 1)).run P w = .ok (.int k (f i)) w := fun w i h => by
    simp [part, Sem.run_bind, hagg, hx i h]
  rw [Op.equalIn]
  simp only [Sem.run_bind, run_underlying ht, Result.andThen_ok, hsz]
  rw [Std.Legacy.Range.forIn_eq_forIn_range']
  have key : ∀ (l : List Nat), (∀ i ∈ l, i < n) → ∀ w, (forIn (m := Sem) l ((none, ()) : Option Bool × Unit) fun i r => do
      let a ← part e xs (i * 1)
      let b ← part e xs (i * 1)
      let r ← Op.equalIn (d + 1) e a b
      if (!r) = true then pure (ForInStep.done (some false, ())) else pure (ForInStep.yield (none, ()))).run P w = .ok (none, ()) w := by
    intro l
    induction l with
    | nil => intro _ w; simp
    | cons i l ih =>
      intro hl w
      have hi := hl i (by simp)
      simp only [List.forIn_cons, Sem.run_bind, hpart w i hi, Result.andThen_ok, run_equalIn_int w d e k k (f i) (f i) he, beq_self_eq_true, Bool.not_true, Bool.false_eq_true, if_false, Sem.run_pure]
      exact ih (fun j hj => hl j (by simp [hj])) w
  have := key (List.range' 0 n 1) (fun i hi => by simp [List.mem_range'] at hi; omega) w
  have e0 : List.range' [:n].start [:n].size [:n].step = List.range' 0 n 1 := by simp [Std.Legacy.Range.size]
  rw [e0, this]
  simp
end Go.Proofs.Ytnfbebfgllldgaa
