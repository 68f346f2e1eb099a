/- Rows that a call makes grow, and where they lie behind it. No program is named here. -/
import Derived.Test.YtgkddhncfaeidaaOwnS
namespace Go.Proofs.Ytgkddhncfaeidaa
open Go.RowKit
theorem grown_chain' {w wr w3 : World} {r0 r : Option Nat} (hg : w.grownBy wr r0) (o : Obj) (hr : r = r0 ∨ ∃ q, r = some q ∧ w.heap.size ≤ q) (h3 : (wr.alloc o).grownBy w3 r) : w.grownBy w3 r0 := by
  refine ⟨h3.os.trans hg.os, h3.tape.trans hg.tape, h3.output.trans hg.output, ?_, fun k hk hkr => ?_⟩
  · have := h3.size
    have := hg.size
    simp at *
    omega
  · have hk2 : k < wr.heap.size := Nat.lt_of_lt_of_le hk hg.size
    rw [h3.block k (by simp; omega) (by
      rcases hr with rfl | ⟨q, rfl, hq⟩
      · exact hkr
      · intro h
        injection h with h
        omega), Below.heap_alloc wr o k hk2]
    exact hg.block k hk hkr
theorem own_chain' {w wr : World} {r0 r r3 : Option Nat} (hs : w.heap.size ≤ wr.heap.size) (o : Obj) (hr : r = r0 ∨ ∃ q, r = some q ∧ w.heap.size ≤ q) (h3 : r3 = r ∨ r3 = some (wr.alloc o).heap.size) : r3 = r0 ∨ ∃ q, r3 = some q ∧ w.heap.size ≤ q := by
  rcases h3 with rfl | rfl
  · exact hr
  · exact .inr ⟨_, rfl, by simp; omega⟩

section
variable {w w' : World} {base : Nat} {v : Value} {E : TypeId} {xs ys : List UInt8} {P : Program}
theorem run_append_s2' (t ty : TypeId) (ht : P.underlying t = some (.slice E)) (hi : (P.info? E).map (fun i => (i.zero, i.size, i.bytes)) = some (some (.int .u8 0), 1, 1))
    (hown : OwnS w base v E xs) (A : Option Addr) (c n : Nat) (hn : ys.length = n) (hA : BytesAt w A ys) (hl : xs.length + n ≤ 140737488355328) (hbase : base ≤ w.heap.size) :
    ∃ A' c' w', (Builtin.append_ #[t, t] ty #[v, .slice A n c]).run P w = .ok (.slice A' (xs ++ ys).length c') w' ∧
      OwnS w' base (.slice A' (xs ++ ys).length c') E (xs ++ ys) ∧ w.grownBy w' v.ownBlock ∧ ((Value.slice A' (xs ++ ys).length c').ownBlock = v.ownBlock ∨ (Value.slice A' (xs ++ ys).length c').ownBlock = some w.heap.size) := by
  obtain ⟨i, hi0, hz, hs, hb⟩ := info_parts hi
  subst hn
  by_cases hy : ys = []
  · subst hy
    rcases hown.cases with ⟨rfl, rfl⟩ | ⟨g, cap, rfl, ho⟩
    · refine ⟨none, 0, w, ?_, OwnS.nil w base E, World.grownBy.refl w _, .inl rfl⟩
      cases A <;> simp [Builtin.append_, run_underlying ht, sizeOf, typeInfo, hi0, Builtin.lenOf, Builtin.firstCells, loadCells, loadCellsFrom]
    · obtain ⟨_, hn, _⟩ := ho.parts
      refine ⟨some ⟨g, 0, none⟩, cap, w, ?_, by simpa using hown, World.grownBy.refl w _, .inl rfl⟩
      cases A <;> simp [Builtin.append_, run_underlying ht, sizeOf, typeInfo, hi0, Builtin.lenOf, Builtin.firstCells, hn, storeCells, loadCells, loadCellsFrom]
  · obtain ⟨ad, rfl, hc⟩ := byteV_cells hA hy
    obtain ⟨v', w', hr, h2, h3, _, h5⟩ := run_append_own_at (P := P) w base t ty E i _ 1 1 ht hi0 hz hs hb rfl (by omega) v xs.length (xs.map bv) hown
      ad ys.length c (ys.map bv) (by simp) hc (bv_one ys) (by unfold maxLen; omega) (by omega) hbase
    have h2' : OwnS w' base v' E (xs ++ ys) := by
      unfold OwnS
      rw [List.length_append, List.map_append]
      exact h2
    obtain ⟨A', c', rfl, _⟩ := h2'.slice
    exact ⟨A', c', w', hr, h2', h3, h5⟩

theorem wpList_append_s2' {ops : Array Oper} {rest : List Oper} {o : Oper} {a : Act} {Q : Exit → Act → World → Prop} (hgd : o.guard = none) (s x : Operand) (t : TypeId)
    (ho : o.op = .call { callee := .builtin .append, args := #[s, x], argTypes := #[t, t] }) (ht : P.underlying t = some (.slice E)) (hi : (P.info? E).map (fun i => (i.zero, i.size, i.bytes)) = some (some (.int .u8 0), 1, 1))
    (hs : a.eval s = v) (hown : OwnS w base v E xs) (A : Option Addr) (c n : Nat) (ys : List UInt8) (hx : a.eval x = .slice A n c) (hn : ys.length = n) (hA : BytesAt w A ys)
    (hl : xs.length + n ≤ 140737488355328) (hbase : base ≤ w.heap.size)
    (h : ∀ A' c' w', OwnS w' base (.slice A' (xs ++ ys).length c') E (xs ++ ys) → w.grownBy w' v.ownBlock → ((Value.slice A' (xs ++ ys).length c').ownBlock = v.ownBlock ∨ (Value.slice A' (xs ++ ys).length c').ownBlock = some w.heap.size) → wpList P ops Q rest (a.put o.dst (.slice A' (xs ++ ys).length c')) w') : wpList P ops Q (o :: rest) a w :=
  wpList_plain hgd fun _ hK => by
    obtain ⟨A', c', w', hr, h2, h3, h5⟩ := run_append_s2' (P := P) t o.type ht hi hown A c n hn hA hl hbase
    unfold Oper.wp execOp
    simp only [ho, resolve, invoke, builtin, Sem.run_bind, Sem.run_pure, Result.andThen_ok, List.map_toArray, List.map_cons, List.map_nil, hs, hx, hr]
    exact hK _ _ (h A' c' w' h2 h3 h5)

theorem wpList_append_z2' {ops : Array Oper} {rest : List Oper} {o : Oper} {a : Act} {Q : Exit → Act → World → Prop} (hgd : o.guard = none) (s x : Operand) (t : TypeId)
    (ho : o.op = .call { callee := .builtin .append, args := #[s, x], argTypes := #[t, t] }) (ht : P.underlying t = some (.slice E)) (hi : (P.info? E).map (fun i => (i.zero, i.size, i.bytes)) = some (some (.int .u8 0), 1, 1))
    (hs : a.eval s = v) (hown : OwnS w base v E xs) (A : Option Addr) (c n : Nat) (ys zs : List UInt8) (hx : a.eval x = .slice A n c) (hn : ys.length = n) (hA : BytesAt w A ys) (hz : xs ++ ys = zs)
    (hl : xs.length + n ≤ 140737488355328) (hbase : base ≤ w.heap.size)
    (h : ∀ A' c' w', OwnS w' base (.slice A' zs.length c') E zs → w.grownBy w' v.ownBlock → ((Value.slice A' zs.length c').ownBlock = v.ownBlock ∨ (Value.slice A' zs.length c').ownBlock = some w.heap.size) → wpList P ops Q rest (a.put o.dst (.slice A' zs.length c')) w') : wpList P ops Q (o :: rest) a w := by
  subst hz
  exact wpList_append_s2' hgd s x t ho ht hi hs hown A c n ys hx hn hA hl hbase h

end


/-- Where the row of a slice lies behind a call: where it lay, or in new memory. -/
def Moved (w : World) (r0 r : Option Nat) : Prop := r = r0 ∨ ∃ q, r = some q ∧ w.heap.size ≤ q
theorem Moved.trans {w w1 : World} {r0 r1 r2 : Option Nat} (h1 : Moved w r0 r1) (hs : w.heap.size ≤ w1.heap.size) (h2 : Moved w1 r1 r2) : Moved w r0 r2 := by
  rcases h2 with rfl | ⟨q, rfl, hq⟩
  · exact h1
  · exact .inr ⟨q, rfl, by omega⟩
theorem Moved.of_alloc {w : World} {o : Obj} {r0 r : Option Nat} (h : Moved (w.alloc o) r0 r) : Moved w r0 r := by
  rcases h with rfl | ⟨q, rfl, hq⟩
  · exact .inl rfl
  · exact .inr ⟨q, rfl, by simp at hq; omega⟩
theorem grown_trans {w w1 w2 : World} {r0 r1 : Option Nat} (h1 : w.grownBy w1 r0) (hm : Moved w r0 r1) (h2 : w1.grownBy w2 r1) : w.grownBy w2 r0 := by
  refine ⟨h2.os.trans h1.os, h2.tape.trans h1.tape, h2.output.trans h1.output, Nat.le_trans h1.size h2.size, fun k hk hkr => ?_⟩
  refine (h2.block k (Nat.lt_of_lt_of_le hk h1.size) ?_).trans (h1.block k hk hkr)
  rcases hm with rfl | ⟨q, rfl, hq⟩
  · exact hkr
  · intro h
    injection h with h
    omega
theorem grown_alloc (w : World) (o : Obj) (r : Option Nat) : w.grownBy (w.alloc o) r :=
  ⟨rfl, rfl, rfl, by simp, fun k hk _ => Below.heap_alloc w o k hk⟩
theorem _root_.Go.World.grownBy.trans' {w w1 w2 : World} {r : Option Nat} (h1 : w.grownBy w1 r) (h2 : w1.grownBy w2 r) : w.grownBy w2 r := grown_trans h1 (.inl rfl) h2
end Go.Proofs.Ytgkddhncfaeidaa
