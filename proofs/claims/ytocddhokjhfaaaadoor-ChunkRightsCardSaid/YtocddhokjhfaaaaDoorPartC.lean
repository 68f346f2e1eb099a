/- Several texts in one: The reference's Put beside a Writer; rows of puts; what is read back of many puts. math/bits.Len64: its contract. What pack lays: mathematics over puts. No program is named here. Values as what is another bit in them: plain mathematics. LeadingZeros64 and TrailingZeros64: their contracts. slices.Min and slices.Max of uint64s: their contracts; nothing is made. pack.Put: its contract. xors.Put: its contract. The reference's Raw: a number in eight bytes. The reference's Put of layer 6: its contract. The reference's Put of layer 8: its contract. Same of layer 6's reference, the statements' small test of layer 9: their contracts. The walk of RunsPuts. A region that draws its order, where now and then one of two may come next: both ways are walked. No program is named here. -/
import Derived.Test.YtocddhokjhfaaaaDoorPartB
import Derived.Test.YtocddhokjhfaaaaDoorPartA
import Derived.Deep.SlicePairs
namespace BitM
/-- Behind the puts of a row: how many bits, and their value. -/
def tot : List (Nat × Int) → Nat × Nat := fun ps => ps.foldl (fun s q => (s.1 + Go.Proofs.YtocddhokjhfaaaaDoor.wi q.2, s.2 * 2 ^ Go.Proofs.YtocddhokjhfaaaaDoor.wi q.2 + q.1 % 2 ^ Go.Proofs.YtocddhokjhfaaaaDoor.wi q.2)) (0, 0)
theorem tot_succ (ps : List (Nat × Int)) (k : Nat) (h : k < ps.length) : tot (ps.take (k + 1)) = ((tot (ps.take k)).1 + Go.Proofs.YtocddhokjhfaaaaDoor.wi ps[k].2, (tot (ps.take k)).2 * 2 ^ Go.Proofs.YtocddhokjhfaaaaDoor.wi ps[k].2 + ps[k].1 % 2 ^ Go.Proofs.YtocddhokjhfaaaaDoor.wi ps[k].2) := by
  unfold tot
  rw [List.take_succ_eq_append_getElem h, List.foldl_append]
  rfl
theorem tot_le (ps : List (Nat × Int)) : ∀ k, k ≤ ps.length → (tot (ps.take k)).1 ≤ 64 * k
  | 0, _ => by simp [tot]
  | k + 1, h => by
    rw [tot_succ ps k (by omega)]
    have h1 := tot_le ps k (by omega)
    have h2 := Go.Proofs.YtocddhokjhfaaaaDoor.wi_le ps[k].2
    simp only
    omega
theorem tot_mono (ps : List (Nat × Int)) (j : Nat) : ∀ d, j + d ≤ ps.length → (tot (ps.take j)).1 ≤ (tot (ps.take (j + d))).1 ∧ (tot (ps.take (j + d))).2 / 2 ^ ((tot (ps.take (j + d))).1 - (tot (ps.take j)).1) = (tot (ps.take j)).2
  | 0, _ => by simp
  | d + 1, h => by
    obtain ⟨h1, h2⟩ := tot_mono ps j d (by omega)
    have h3 := tot_succ ps (j + d) (by omega)
    rw [show j + (d + 1) = j + d + 1 by omega, h3]
    simp only
    refine ⟨by omega, ?_⟩
    rw [show (tot (ps.take (j + d))).1 + Go.Proofs.YtocddhokjhfaaaaDoor.wi ps[j + d].2 - (tot (ps.take j)).1 = Go.Proofs.YtocddhokjhfaaaaDoor.wi ps[j + d].2 + ((tot (ps.take (j + d))).1 - (tot (ps.take j)).1) by omega, Nat.pow_add, ← Nat.div_div_eq_div_mul]
    rw [Nat.mul_comm, Nat.mul_add_div (Nat.pow_pos (by omega)), Nat.div_eq_of_lt (Nat.mod_lt _ (Nat.pow_pos (by omega))), Nat.add_zero, h2]
/-- The i-th of K puts, read back. -/
theorem tot_mid (ps : List (Nat × Int)) (i K : Nat) (hi : i < K) (hK : K ≤ ps.length) :
    mid (tot (ps.take K)).2 (tot (ps.take K)).1 (tot (ps.take i)).1 ((tot (ps.take i)).1 + Go.Proofs.YtocddhokjhfaaaaDoor.wi (ps[i]'(by omega)).2) = (ps[i]'(by omega)).1 % 2 ^ Go.Proofs.YtocddhokjhfaaaaDoor.wi (ps[i]'(by omega)).2 := by
  obtain ⟨h1, h2⟩ := tot_mono ps (i + 1) (K - (i + 1)) (by omega)
  rw [show i + 1 + (K - (i + 1)) = K by omega] at h1 h2
  have h3 := tot_succ ps i (by omega)
  have e1 : (tot (ps.take (i + 1))).1 = (tot (ps.take i)).1 + Go.Proofs.YtocddhokjhfaaaaDoor.wi (ps[i]'(by omega)).2 := by rw [h3]
  unfold mid
  rw [← e1, h2, e1, Nat.add_sub_cancel_left, h3]
  simp only
  rw [Nat.mul_comm, Nat.mul_add_mod, Nat.mod_mod]
end BitM
namespace Go.Proofs.YtocddhokjhfaaaaDoor
open Go.RowKit BitM Go.Deep
set_option linter.unusedVariables false

/-- A row of puts in memory. -/
def PutsAt (w : World) (A : Option Addr) (ps : List (Nat × Int)) : Prop :=
  (∀ q ∈ ps, q.1 < 18446744073709551616) ∧ (ps ≠ [] → ∃ b off, A = some ⟨b, off, none⟩ ∧ ∀ i (h : i < ps.length), w.cell? ⟨b, off + i * 2, none⟩ = some (.int .u64 (ps[i].1 : Int)) ∧ w.cell? ⟨b, off + i * 2 + 1, none⟩ = some (.int .i64 ps[i].2))

theorem putsRow_of {H : Type} {enc : TypeId × Value → H} {W : World} {base : Nat} {spare : Nat → Bool} {held : Bool} {t e : TypeId} {f0 f1 : Field} {a : Option Addr} {len cap fuel : Nat} {x : DataW H × List MemPlace}
    (ht : Tryd.prog.underlying t = some (.slice e)) (he : Tryd.prog.underlying e = some (.struct #[f0, f1])) (ce : Tryd.prog.cellsOf e = 2) (o0 : f0.offset = 0) (o1 : f1.offset = 1) (c0 : Tryd.prog.cellsOf f0.type = 1) (c1 : Tryd.prog.cellsOf f1.type = 1)
    (u0 : Tryd.prog.underlying f0.type = some (.int .u64)) (u1 : Tryd.prog.underlying f1.type = some (.int .i64))
    (h : DataW.trod enc Tryd.prog W base spare held fuel t [.slice a len cap] = some x) : ∃ ps : List (Nat × Int), ps.length = len ∧ len ≤ cap ∧ cap ≤ maxLen ∧ PutsAt W a ps := by
  rcases open_slice_pairs ht he ce o0 o1 c0 c1 h with ⟨hcs, _⟩ | ⟨ad, l, c, m, n, V0, V1, D0, D1, P0, P1, hcs, _, hl, hm, hmm, _, hx⟩
  · simp at hcs
    obtain ⟨rfl, rfl, rfl⟩ := hcs
    exact ⟨[], rfl, Nat.le_refl _, by unfold maxLen; omega, by simp, fun h => absurd rfl h⟩
  · simp at hcs
    obtain ⟨rfl, rfl, rfl⟩ := hcs
    have hlm : len ≤ m := by rw [hmm]; split <;> omega
    have hone : ∀ i, i < len → ∃ q : Nat × Int, q.1 < 18446744073709551616 ∧ W.cell? (ad.add (i * 2)) = some (.int .u64 (q.1 : Int)) ∧ W.cell? (ad.add (i * 2 + 1)) = some (.int .i64 q.2) := fun i hi => by
      obtain ⟨e0, e1, t0, t1⟩ := hx i (by omega)
      obtain ⟨n0, g0, _, w0⟩ := DataW.trod_int u0 t0
      obtain ⟨n1, g1, _, w1⟩ := DataW.trod_int u1 t1
      have b0 := bounds_u64 w0
      simp at g0 g1
      refine ⟨(n0.toNat, n1), by simp only; omega, ?_, ?_⟩
      · rw [e0, g0, Int.toNat_of_nonneg (by omega)]
      · rw [e1, g1]
    obtain ⟨q, hq⟩ := choose_lt hone
    refine ⟨(List.range len).map q, by simp, hl, hm, fun y hy => ?_, fun hne => ?_⟩
    · obtain ⟨i, hi, rfl⟩ := List.mem_map.1 hy
      exact (hq i (List.mem_range.1 hi)).1
    · have hpos : 0 < len := by
        rcases Nat.eq_zero_or_pos len with h0 | h0
        · subst h0; simp at hne
        · exact h0
      obtain ⟨b, off, spot⟩ := ad
      have hc0 := (hq 0 hpos).2.1
      have hspot : spot = none := by simpa [Addr.add] using World.cell?_spot hc0
      subst hspot
      refine ⟨b, off, rfl, fun i hi => ?_⟩
      have hi' : i < len := by simpa using hi
      obtain ⟨_, h1, h2⟩ := hq i hi'
      have hadd : ∀ k, (⟨b, off, none⟩ : Addr).add k = ⟨b, off + k, none⟩ := fun k => by unfold Addr.add; split <;> simp_all
      rw [hadd] at h1 h2
      rw [List.getElem_map, List.getElem_range]
      exact ⟨h1, by rw [Nat.add_assoc]; exact h2⟩

theorem grown_chain {w wr w3 : World} {r0 r : Option Nat} (hg : w.grownBy wr r0) (o : Obj) (hr : r = r0 ∨ ∃ q, r = some q ∧ w.heap.size ≤ q) (h3 : (wr.alloc o).grownBy w3 r) : w.grownBy w3 r0 := by
  refine ⟨h3.os.trans hg.os, h3.tape.trans hg.tape, h3.output.trans hg.output, ?_, fun k hk hkr => ?_⟩
  · have := h3.size
    have := hg.size
    simp at *
    omega
  · have hk2 : k < wr.heap.size := Nat.lt_of_lt_of_le hk hg.size
    rw [h3.block k (by simp; omega) (by
      rcases hr with rfl | ⟨q, rfl, hq⟩
      · exact hkr
      · intro h
        injection h with h
        omega), Below.heap_alloc wr o k hk2]
    exact hg.block k hk hkr
theorem own_chain {w wr : World} {r0 r r3 : Option Nat} (hs : w.heap.size ≤ wr.heap.size) (o : Obj) (hr : r = r0 ∨ ∃ q, r = some q ∧ w.heap.size ≤ q) (h3 : r3 = r ∨ r3 = some (wr.alloc o).heap.size) : r3 = r0 ∨ ∃ q, r3 = some q ∧ w.heap.size ≤ q := by
  rcases h3 with rfl | rfl
  · exact hr
  · exact .inr ⟨_, rfl, by simp; omega⟩

theorem OwnS.cellsAt {w : World} {base : Nat} {v : Value} {E : TypeId} {xs : List UInt8} (h : OwnS w base v E xs) {q : Nat} (hq : v.ownBlock = some q) : ∃ cur, w.heap[q]? = some (.cells cur E (0, 0)) := by
  rcases h.2 with ⟨h0, h1⟩ | ⟨g', cap', cur, hv, hb, hh, _⟩
  · subst h0
    simp [Value.ownBlock] at hq
  · subst hv
    simp [Value.ownBlock] at hq
    subst hq
    exact ⟨_, hh⟩

theorem WSt.past {w w' : World} {base g L V base' : Nat} {v : Value} {xs : List UInt8} (h : WSt w base g L V) (ho : OwnS w base' v 5 xs) (hg : w.grownBy w' v.ownBlock) : WSt w' base g L V := by
  obtain ⟨ws, r, m, ⟨f, h1, h2, h3, h4, h5, h6⟩, e1, e2⟩ := h
  refine ⟨ws, r, m, ⟨f, ?_, h2, h3, h4, h5, h6.keep fun b x f' _ hx => ?_⟩, e1, e2⟩
  · refine (hg.block g (Array.getElem?_eq_some_iff.1 h1).1 fun hq => ?_).trans h1
    obtain ⟨cur, hc⟩ := ho.cellsAt hq.symm
    rw [h1] at hc
    simp at hc
  · refine hg.block b (Array.getElem?_eq_some_iff.1 hx).1 fun hq => ?_
    obtain ⟨cur, hc⟩ := ho.cellsAt hq.symm
    rw [hx] at hc
    simp at hc
theorem OwnS.past {w w' : World} {base g L V base' : Nat} {v : Value} {xs : List UInt8} (ho : OwnS w base' v 5 xs) (h : WSt w base g L V) (hg : w.grownBy w' (some g)) : OwnS w' base' v 5 xs := by
  refine ho.keep fun q hq => hg.block q (ho.block q hq).2 fun he => ?_
  injection he with he
  subst he
  obtain ⟨cur, hc⟩ := ho.cellsAt hq
  obtain ⟨ws, r, m, ⟨f, h1, _⟩, _⟩ := h
  rw [h1] at hc
  simp at hc

section
variable {w w' : World} {base : Nat} {v : Value} {E : TypeId} {xs ys : List UInt8} {P : Program}
theorem run_append_s2 (t ty : TypeId) (ht : P.underlying t = some (.slice E)) (hi : (P.info? E).map (fun i => (i.zero, i.size, i.bytes)) = some (some (.int .u8 0), 1, 1))
    (hown : OwnS w base v E xs) (A : Option Addr) (c n : Nat) (hn : ys.length = n) (hA : BytesAt w A ys) (hl : xs.length + n ≤ 140737488355328) (hbase : base ≤ w.heap.size) :
    ∃ A' c' w', (Builtin.append_ #[t, t] ty #[v, .slice A n c]).run P w = .ok (.slice A' (xs ++ ys).length c') w' ∧
      OwnS w' base (.slice A' (xs ++ ys).length c') E (xs ++ ys) ∧ w.grownBy w' v.ownBlock ∧ ((Value.slice A' (xs ++ ys).length c').ownBlock = v.ownBlock ∨ (Value.slice A' (xs ++ ys).length c').ownBlock = some w.heap.size) := by
  obtain ⟨i, hi0, hz, hs, hb⟩ := info_parts hi
  subst hn
  by_cases hy : ys = []
  · subst hy
    rcases hown.cases with ⟨rfl, rfl⟩ | ⟨g, cap, rfl, ho⟩
    · refine ⟨none, 0, w, ?_, OwnS.nil w base E, World.grownBy.refl w _, .inl rfl⟩
      cases A <;> simp [Builtin.append_, run_underlying ht, sizeOf, typeInfo, hi0, Builtin.lenOf, Builtin.firstCells, storeCells, loadCells, loadCellsFrom]
    · obtain ⟨_, hn, _⟩ := ho.parts
      refine ⟨some ⟨g, 0, none⟩, cap, w, ?_, by simpa using hown, World.grownBy.refl w _, .inl rfl⟩
      cases A <;> simp [Builtin.append_, run_underlying ht, sizeOf, typeInfo, hi0, Builtin.lenOf, Builtin.firstCells, hn, storeCells, loadCells, loadCellsFrom]
  · obtain ⟨ad, rfl, hc⟩ := byteV_cells hA hy
    obtain ⟨v', w', hr, h2, h3, _, h5⟩ := run_append_own_at (P := P) w base t ty E i _ 1 1 ht hi0 hz hs hb rfl (by omega) v xs.length (xs.map bv) hown
      ad ys.length c (ys.map bv) (by simp) hc (bv_one ys) (by unfold maxLen; omega) (by omega) hbase
    have h2' : OwnS w' base v' E (xs ++ ys) := by
      unfold OwnS
      rw [List.length_append, List.map_append]
      exact h2
    obtain ⟨A', c', rfl, _⟩ := h2'.slice
    exact ⟨A', c', w', hr, h2', h3, h5⟩

theorem wpList_append_s2 {ops : Array Oper} {rest : List Oper} {o : Oper} {a : Act} {Q : Exit → Act → World → Prop} (hgd : o.guard = none) (s x : Operand) (t : TypeId)
    (ho : o.op = .call { callee := .builtin .append, args := #[s, x], argTypes := #[t, t] }) (ht : P.underlying t = some (.slice E)) (hi : (P.info? E).map (fun i => (i.zero, i.size, i.bytes)) = some (some (.int .u8 0), 1, 1))
    (hs : a.eval s = v) (hown : OwnS w base v E xs) (A : Option Addr) (c n : Nat) (ys : List UInt8) (hx : a.eval x = .slice A n c) (hn : ys.length = n) (hA : BytesAt w A ys)
    (hl : xs.length + n ≤ 140737488355328) (hbase : base ≤ w.heap.size)
    (h : ∀ A' c' w', OwnS w' base (.slice A' (xs ++ ys).length c') E (xs ++ ys) → w.grownBy w' v.ownBlock → ((Value.slice A' (xs ++ ys).length c').ownBlock = v.ownBlock ∨ (Value.slice A' (xs ++ ys).length c').ownBlock = some w.heap.size) → wpList P ops Q rest (a.put o.dst (.slice A' (xs ++ ys).length c')) w') : wpList P ops Q (o :: rest) a w :=
  wpList_plain hgd fun _ hK => by
    obtain ⟨A', c', w', hr, h2, h3, h5⟩ := run_append_s2 (P := P) t o.type ht hi hown A c n hn hA hl hbase
    unfold Oper.wp execOp
    simp only [ho, resolve, invoke, builtin, Sem.run_bind, Sem.run_pure, Result.andThen_ok, List.map_toArray, List.map_cons, List.map_nil, hs, hx, hr]
    exact hK _ _ (h A' c' w' h2 h3 h5)

theorem wpList_append_z2 {ops : Array Oper} {rest : List Oper} {o : Oper} {a : Act} {Q : Exit → Act → World → Prop} (hgd : o.guard = none) (s x : Operand) (t : TypeId)
    (ho : o.op = .call { callee := .builtin .append, args := #[s, x], argTypes := #[t, t] }) (ht : P.underlying t = some (.slice E)) (hi : (P.info? E).map (fun i => (i.zero, i.size, i.bytes)) = some (some (.int .u8 0), 1, 1))
    (hs : a.eval s = v) (hown : OwnS w base v E xs) (A : Option Addr) (c n : Nat) (ys zs : List UInt8) (hx : a.eval x = .slice A n c) (hn : ys.length = n) (hA : BytesAt w A ys) (hz : xs ++ ys = zs)
    (hl : xs.length + n ≤ 140737488355328) (hbase : base ≤ w.heap.size)
    (h : ∀ A' c' w', OwnS w' base (.slice A' zs.length c') E zs → w.grownBy w' v.ownBlock → ((Value.slice A' zs.length c').ownBlock = v.ownBlock ∨ (Value.slice A' zs.length c').ownBlock = some w.heap.size) → wpList P ops Q rest (a.put o.dst (.slice A' zs.length c')) w') : wpList P ops Q (o :: rest) a w := by
  subst hz
  exact wpList_append_s2 hgd s x t ho ht hi hs hown A c n ys hx hn hA hl hbase h

end

end Go.Proofs.YtocddhokjhfaaaaDoor

namespace BitM
/-- How many bits a number has. -/
def lenB (x : Nat) : Nat := if x = 0 then 0 else Nat.log2 x + 1
theorem lenB_lt (x : Nat) : x < 2 ^ lenB x := by
  unfold lenB
  split
  · subst x; decide
  · exact (Nat.log2_lt (by assumption)).1 (Nat.lt_succ_self _)
theorem lenB_le (x m : Nat) (h : x < 2 ^ m) : lenB x ≤ m := by
  unfold lenB
  split
  · omega
  · exact (Nat.log2_lt (by assumption)).2 h
theorem lenB_ge (x : Nat) (h : x ≠ 0) : 2 ^ (lenB x - 1) ≤ x := by
  unfold lenB
  rw [if_neg h, Nat.add_sub_cancel]
  exact Nat.log2_self_le h
theorem lenB_eq (x m : Nat) (h1 : x < 2 ^ m) (h2 : m = 0 ∨ 2 ^ (m - 1) ≤ x) : lenB x = m := by
  have a := lenB_le x m h1
  rcases h2 with rfl | h2
  · omega
  · rcases Nat.lt_or_ge (lenB x) m with h | h
    · have h3 := lenB_lt x
      have h4 : 2 ^ lenB x ≤ 2 ^ (m - 1) := Nat.pow_le_pow_right (by omega) (by omega)
      omega
    · omega
theorem lenB_shift (x k : Nat) (h : 2 ^ k ≤ x) : lenB x = k + lenB (x / 2 ^ k) := by
  have hp : 0 < 2 ^ k := Nat.pow_pos (by omega)
  have h0 : x / 2 ^ k ≠ 0 := by
    have := Nat.div_pos h hp
    omega
  refine lenB_eq _ _ ?_ (.inr ?_)
  · rw [Nat.pow_add]
    have := lenB_lt (x / 2 ^ k)
    rw [Nat.mul_comm]
    exact (Nat.div_lt_iff_lt_mul hp).1 this
  · have h1 := lenB_ge (x / 2 ^ k) h0
    have h2 : 1 ≤ lenB (x / 2 ^ k) := by unfold lenB; rw [if_neg h0]; omega
    rw [show k + lenB (x / 2 ^ k) - 1 = (lenB (x / 2 ^ k) - 1) + k by omega, Nat.pow_add]
    exact (Nat.le_div_iff_mul_le hp).1 h1
end BitM
namespace Go.Proofs.YtocddhokjhfaaaaDoor
open Go.RowKit BitM
set_option linter.unusedVariables false

set_option maxRecDepth 100000 in
theorem len64_000 (x : Nat) (hx : x < 18446744073709551616) (h32 : x < 4294967296) (h16 : x < 65536) (h8 : x < 256) (hL : lenB x = 0 + lenB x) (w : World) : Calls Tryd.prog 51 #[.int .u64 (x : Int)] w fun e w' => e = .returned (.int .i64 (lenB x : Int)) ∧ w = w' := by
  have d32 : decide ((x : Int) ≥ 4294967296) = false := by rw [decide_eq_false_iff_not]; omega
  have d16 : decide ((x : Int) ≥ 65536) = false := by rw [decide_eq_false_iff_not]; omega
  have d8 : decide ((x : Int) ≥ 256) = false := by rw [decide_eq_false_iff_not]; omega
  have hc : x < 256 := by omega
  have HL := Lib.hid hL
  clear hL
  go_enter Tryd.func51, Tryd.ntmps51
  go_wp2_with fail
  go_ret
  refine ⟨congrArg (fun z : Int => Ending.returned (.int .i64 z)) ?_, rfl⟩
  rw [HL.out]
  clear HL
  try clear hx
  try clear d8
  try clear e8
  try clear d16
  try clear e16
  try clear d32
  try clear e32
  try clear h8
  try clear h16
  try clear h32
  revert hc
  revert x
  intro y h hc
  revert h
  revert hc
  revert y
  decide +kernel

set_option maxRecDepth 100000 in
theorem len64_001 (x y3 : Nat) (hx : x < 18446744073709551616) (h32 : x < 4294967296) (h16 : x < 65536) (h8 : 256 ≤ x) (q8 : y3 = x / 256) (hL : lenB x = 8 + lenB y3) (w : World) : Calls Tryd.prog 51 #[.int .u64 (x : Int)] w fun e w' => e = .returned (.int .i64 (lenB x : Int)) ∧ w = w' := by
  have d32 : decide ((x : Int) ≥ 4294967296) = false := by rw [decide_eq_false_iff_not]; omega
  have d16 : decide ((x : Int) ≥ 65536) = false := by rw [decide_eq_false_iff_not]; omega
  have d8 : decide ((x : Int) ≥ 256) = true := by rw [decide_eq_true_iff]; omega
  have e8 : (x : Int) / 256 = (y3 : Int) := by omega
  have hc : y3 < 256 := by omega
  have HL := Lib.hid hL
  clear hL q8
  go_enter Tryd.func51, Tryd.ntmps51
  go_wp2_with fail
  go_ret
  refine ⟨congrArg (fun z : Int => Ending.returned (.int .i64 z)) ?_, rfl⟩
  rw [HL.out]
  clear HL
  try clear hx
  try clear d8
  try clear e8
  try clear d16
  try clear e16
  try clear d32
  try clear e32
  try clear h8
  try clear h16
  try clear h32
  revert hc
  revert y3
  intro y h hc
  revert h
  revert hc
  revert y
  decide +kernel

set_option maxRecDepth 100000 in
theorem len64_010 (x y2 : Nat) (hx : x < 18446744073709551616) (h32 : x < 4294967296) (h16 : 65536 ≤ x) (q16 : y2 = x / 65536) (h8 : y2 < 256) (hL : lenB x = 16 + lenB y2) (w : World) : Calls Tryd.prog 51 #[.int .u64 (x : Int)] w fun e w' => e = .returned (.int .i64 (lenB x : Int)) ∧ w = w' := by
  have d32 : decide ((x : Int) ≥ 4294967296) = false := by rw [decide_eq_false_iff_not]; omega
  have d16 : decide ((x : Int) ≥ 65536) = true := by rw [decide_eq_true_iff]; omega
  have e16 : (x : Int) / 65536 = (y2 : Int) := by omega
  have d8 : decide ((y2 : Int) ≥ 256) = false := by rw [decide_eq_false_iff_not]; omega
  have hc : y2 < 256 := by omega
  have HL := Lib.hid hL
  clear hL q16
  go_enter Tryd.func51, Tryd.ntmps51
  go_wp2_with fail
  go_ret
  refine ⟨congrArg (fun z : Int => Ending.returned (.int .i64 z)) ?_, rfl⟩
  rw [HL.out]
  clear HL
  try clear hx
  try clear d8
  try clear e8
  try clear d16
  try clear e16
  try clear d32
  try clear e32
  try clear h8
  try clear h16
  try clear h32
  revert hc
  revert y2
  intro y h hc
  revert h
  revert hc
  revert y
  decide +kernel

set_option maxRecDepth 100000 in
theorem len64_011 (x y2 y3 : Nat) (hx : x < 18446744073709551616) (h32 : x < 4294967296) (h16 : 65536 ≤ x) (q16 : y2 = x / 65536) (h8 : 256 ≤ y2) (q8 : y3 = y2 / 256) (hL : lenB x = 24 + lenB y3) (w : World) : Calls Tryd.prog 51 #[.int .u64 (x : Int)] w fun e w' => e = .returned (.int .i64 (lenB x : Int)) ∧ w = w' := by
  have d32 : decide ((x : Int) ≥ 4294967296) = false := by rw [decide_eq_false_iff_not]; omega
  have d16 : decide ((x : Int) ≥ 65536) = true := by rw [decide_eq_true_iff]; omega
  have e16 : (x : Int) / 65536 = (y2 : Int) := by omega
  have d8 : decide ((y2 : Int) ≥ 256) = true := by rw [decide_eq_true_iff]; omega
  have e8 : (y2 : Int) / 256 = (y3 : Int) := by omega
  have hc : y3 < 256 := by omega
  have HL := Lib.hid hL
  clear hL q16 q8
  go_enter Tryd.func51, Tryd.ntmps51
  go_wp2_with fail
  go_ret
  refine ⟨congrArg (fun z : Int => Ending.returned (.int .i64 z)) ?_, rfl⟩
  rw [HL.out]
  clear HL
  try clear hx
  try clear d8
  try clear e8
  try clear d16
  try clear e16
  try clear d32
  try clear e32
  try clear h8
  try clear h16
  try clear h32
  revert hc
  revert y3
  intro y h hc
  revert h
  revert hc
  revert y
  decide +kernel

set_option maxRecDepth 100000 in
theorem len64_100 (x y1 : Nat) (hx : x < 18446744073709551616) (h32 : 4294967296 ≤ x) (q32 : y1 = x / 4294967296) (h16 : y1 < 65536) (h8 : y1 < 256) (hL : lenB x = 32 + lenB y1) (w : World) : Calls Tryd.prog 51 #[.int .u64 (x : Int)] w fun e w' => e = .returned (.int .i64 (lenB x : Int)) ∧ w = w' := by
  have d32 : decide ((x : Int) ≥ 4294967296) = true := by rw [decide_eq_true_iff]; omega
  have e32 : (x : Int) / 4294967296 = (y1 : Int) := by omega
  have d16 : decide ((y1 : Int) ≥ 65536) = false := by rw [decide_eq_false_iff_not]; omega
  have d8 : decide ((y1 : Int) ≥ 256) = false := by rw [decide_eq_false_iff_not]; omega
  have hc : y1 < 256 := by omega
  have HL := Lib.hid hL
  clear hL q32
  go_enter Tryd.func51, Tryd.ntmps51
  go_wp2_with fail
  go_ret
  refine ⟨congrArg (fun z : Int => Ending.returned (.int .i64 z)) ?_, rfl⟩
  rw [HL.out]
  clear HL
  try clear hx
  try clear d8
  try clear e8
  try clear d16
  try clear e16
  try clear d32
  try clear e32
  try clear h8
  try clear h16
  try clear h32
  revert hc
  revert y1
  intro y h hc
  revert h
  revert hc
  revert y
  decide +kernel

set_option maxRecDepth 100000 in
theorem len64_101 (x y1 y3 : Nat) (hx : x < 18446744073709551616) (h32 : 4294967296 ≤ x) (q32 : y1 = x / 4294967296) (h16 : y1 < 65536) (h8 : 256 ≤ y1) (q8 : y3 = y1 / 256) (hL : lenB x = 40 + lenB y3) (w : World) : Calls Tryd.prog 51 #[.int .u64 (x : Int)] w fun e w' => e = .returned (.int .i64 (lenB x : Int)) ∧ w = w' := by
  have d32 : decide ((x : Int) ≥ 4294967296) = true := by rw [decide_eq_true_iff]; omega
  have e32 : (x : Int) / 4294967296 = (y1 : Int) := by omega
  have d16 : decide ((y1 : Int) ≥ 65536) = false := by rw [decide_eq_false_iff_not]; omega
  have d8 : decide ((y1 : Int) ≥ 256) = true := by rw [decide_eq_true_iff]; omega
  have e8 : (y1 : Int) / 256 = (y3 : Int) := by omega
  have hc : y3 < 256 := by omega
  have HL := Lib.hid hL
  clear hL q32 q8
  go_enter Tryd.func51, Tryd.ntmps51
  go_wp2_with fail
  go_ret
  refine ⟨congrArg (fun z : Int => Ending.returned (.int .i64 z)) ?_, rfl⟩
  rw [HL.out]
  clear HL
  try clear hx
  try clear d8
  try clear e8
  try clear d16
  try clear e16
  try clear d32
  try clear e32
  try clear h8
  try clear h16
  try clear h32
  revert hc
  revert y3
  intro y h hc
  revert h
  revert hc
  revert y
  decide +kernel

set_option maxRecDepth 100000 in
theorem len64_110 (x y1 y2 : Nat) (hx : x < 18446744073709551616) (h32 : 4294967296 ≤ x) (q32 : y1 = x / 4294967296) (h16 : 65536 ≤ y1) (q16 : y2 = y1 / 65536) (h8 : y2 < 256) (hL : lenB x = 48 + lenB y2) (w : World) : Calls Tryd.prog 51 #[.int .u64 (x : Int)] w fun e w' => e = .returned (.int .i64 (lenB x : Int)) ∧ w = w' := by
  have d32 : decide ((x : Int) ≥ 4294967296) = true := by rw [decide_eq_true_iff]; omega
  have e32 : (x : Int) / 4294967296 = (y1 : Int) := by omega
  have d16 : decide ((y1 : Int) ≥ 65536) = true := by rw [decide_eq_true_iff]; omega
  have e16 : (y1 : Int) / 65536 = (y2 : Int) := by omega
  have d8 : decide ((y2 : Int) ≥ 256) = false := by rw [decide_eq_false_iff_not]; omega
  have hc : y2 < 256 := by omega
  have HL := Lib.hid hL
  clear hL q32 q16
  go_enter Tryd.func51, Tryd.ntmps51
  go_wp2_with fail
  go_ret
  refine ⟨congrArg (fun z : Int => Ending.returned (.int .i64 z)) ?_, rfl⟩
  rw [HL.out]
  clear HL
  try clear hx
  try clear d8
  try clear e8
  try clear d16
  try clear e16
  try clear d32
  try clear e32
  try clear h8
  try clear h16
  try clear h32
  revert hc
  revert y2
  intro y h hc
  revert h
  revert hc
  revert y
  decide +kernel

set_option maxRecDepth 100000 in
theorem len64_111 (x y1 y2 y3 : Nat) (hx : x < 18446744073709551616) (h32 : 4294967296 ≤ x) (q32 : y1 = x / 4294967296) (h16 : 65536 ≤ y1) (q16 : y2 = y1 / 65536) (h8 : 256 ≤ y2) (q8 : y3 = y2 / 256) (hL : lenB x = 56 + lenB y3) (w : World) : Calls Tryd.prog 51 #[.int .u64 (x : Int)] w fun e w' => e = .returned (.int .i64 (lenB x : Int)) ∧ w = w' := by
  have d32 : decide ((x : Int) ≥ 4294967296) = true := by rw [decide_eq_true_iff]; omega
  have e32 : (x : Int) / 4294967296 = (y1 : Int) := by omega
  have d16 : decide ((y1 : Int) ≥ 65536) = true := by rw [decide_eq_true_iff]; omega
  have e16 : (y1 : Int) / 65536 = (y2 : Int) := by omega
  have d8 : decide ((y2 : Int) ≥ 256) = true := by rw [decide_eq_true_iff]; omega
  have e8 : (y2 : Int) / 256 = (y3 : Int) := by omega
  have hc : y3 < 256 := by omega
  have HL := Lib.hid hL
  clear hL q32 q16 q8
  go_enter Tryd.func51, Tryd.ntmps51
  go_wp2_with fail
  go_ret
  refine ⟨congrArg (fun z : Int => Ending.returned (.int .i64 z)) ?_, rfl⟩
  rw [HL.out]
  clear HL
  try clear hx
  try clear d8
  try clear e8
  try clear d16
  try clear e16
  try clear d32
  try clear e32
  try clear h8
  try clear h16
  try clear h32
  revert hc
  revert y3
  intro y h hc
  revert h
  revert hc
  revert y
  decide +kernel

theorem len64_any (x : Nat) (hx : x < 18446744073709551616) (w : World) : Calls Tryd.prog 51 #[.int .u64 (x : Int)] w fun e w' => e = .returned (.int .i64 (lenB x : Int)) ∧ w = w' := by
  have s32 := fun y (h : 4294967296 ≤ y) => lenB_shift y 32 (by simpa using h)
  have s16 := fun y (h : 65536 ≤ y) => lenB_shift y 16 (by simpa using h)
  have s8 := fun y (h : 256 ≤ y) => lenB_shift y 8 (by simpa using h)
  simp only [show (2 : Nat) ^ 32 = 4294967296 from rfl] at s32
  simp only [show (2 : Nat) ^ 16 = 65536 from rfl] at s16
  simp only [show (2 : Nat) ^ 8 = 256 from rfl] at s8
  rcases Nat.lt_or_ge x 4294967296 with h32 | h32
  · rcases Nat.lt_or_ge x 65536 with h16 | h16
    · rcases Nat.lt_or_ge x 256 with h8 | h8
      · exact len64_000 x hx h32 h16 h8 (by omega) w
      · exact len64_001 x (x / 256) hx h32 h16 h8 rfl (by rw [s8 x h8]) w
    · rcases Nat.lt_or_ge (x / 65536) 256 with h8 | h8
      · exact len64_010 x (x / 65536) hx h32 h16 rfl h8 (by rw [s16 x h16]) w
      · exact len64_011 x (x / 65536) (x / 65536 / 256) hx h32 h16 rfl h8 rfl (by rw [s16 x h16, s8 _ h8]; omega) w
  · rcases Nat.lt_or_ge (x / 4294967296) 65536 with h16 | h16
    · rcases Nat.lt_or_ge (x / 4294967296) 256 with h8 | h8
      · exact len64_100 x (x / 4294967296) hx h32 rfl h16 h8 (by rw [s32 x h32]) w
      · exact len64_101 x (x / 4294967296) (x / 4294967296 / 256) hx h32 rfl h16 h8 rfl (by rw [s32 x h32, s8 _ h8]; omega) w
    · rcases Nat.lt_or_ge (x / 4294967296 / 65536) 256 with h8 | h8
      · exact len64_110 x (x / 4294967296) (x / 4294967296 / 65536) hx h32 rfl h16 rfl h8 (by rw [s32 x h32, s16 _ h16]; omega) w
      · exact len64_111 x (x / 4294967296) (x / 4294967296 / 65536) (x / 4294967296 / 65536 / 256) hx h32 rfl h16 rfl h8 rfl (by rw [s32 x h32, s16 _ h16, s8 _ h8]; omega) w
end Go.Proofs.YtocddhokjhfaaaaDoor

namespace BitM
open Go.Proofs.YtocddhokjhfaaaaDoor (wi)

/-- The least and the greatest of numbers. -/
def lmin : List Nat → Nat
  | [] => 0
  | x :: r => r.foldl min x
def lmax : List Nat → Nat
  | [] => 0
  | x :: r => r.foldl max x
theorem foldl_min_le : ∀ (r : List Nat) (x : Nat), r.foldl min x ≤ x ∧ ∀ y ∈ r, r.foldl min x ≤ y
  | [], x => by simp
  | a :: r, x => by
    obtain ⟨h1, h2⟩ := foldl_min_le r (min x a)
    simp only [List.foldl_cons]
    refine ⟨by omega, fun y hy => ?_⟩
    rcases List.mem_cons.1 hy with rfl | hy
    · omega
    · exact h2 y hy
theorem foldl_max_ge : ∀ (r : List Nat) (x : Nat), x ≤ r.foldl max x ∧ ∀ y ∈ r, y ≤ r.foldl max x
  | [], x => by simp
  | a :: r, x => by
    obtain ⟨h1, h2⟩ := foldl_max_ge r (max x a)
    simp only [List.foldl_cons]
    refine ⟨by omega, fun y hy => ?_⟩
    rcases List.mem_cons.1 hy with rfl | hy
    · omega
    · exact h2 y hy
theorem lmin_le {l : List Nat} {y : Nat} (hy : y ∈ l) : lmin l ≤ y := by
  cases l with
  | nil => cases hy
  | cons x r =>
    rcases List.mem_cons.1 hy with rfl | hy
    · exact (foldl_min_le r y).1
    · exact (foldl_min_le r x).2 y hy
theorem le_lmax {l : List Nat} {y : Nat} (hy : y ∈ l) : y ≤ lmax l := by
  cases l with
  | nil => cases hy
  | cons x r =>
    rcases List.mem_cons.1 hy with rfl | hy
    · exact (foldl_max_ge r y).1
    · exact (foldl_max_ge r x).2 y hy
theorem lmin_take (l : List Nat) (k : Nat) (h0 : 0 < k) (h : k < l.length) : lmin (l.take (k + 1)) = min (lmin (l.take k)) l[k] := by
  cases l with
  | nil => simp at h
  | cons x r =>
    obtain ⟨j, rfl⟩ : ∃ j, k = j + 1 := ⟨k - 1, by omega⟩
    have hj : j < r.length := by simpa using h
    simp only [List.take_succ_cons, lmin, List.getElem_cons_succ]
    rw [List.take_succ_eq_append_getElem hj, List.foldl_append]
    rfl
theorem lmax_take (l : List Nat) (k : Nat) (h0 : 0 < k) (h : k < l.length) : lmax (l.take (k + 1)) = max (lmax (l.take k)) l[k] := by
  cases l with
  | nil => simp at h
  | cons x r =>
    obtain ⟨j, rfl⟩ : ∃ j, k = j + 1 := ⟨k - 1, by omega⟩
    have hj : j < r.length := by simpa using h
    simp only [List.take_succ_cons, lmax, List.getElem_cons_succ]
    rw [List.take_succ_eq_append_getElem hj, List.foldl_append]
    rfl
/-- How many bits each difference with the least one has. -/
def wid (l : List Nat) : Nat := lenB (lmax l - lmin l)
/-- What a Writer is told of numbers. -/
def pks (l : List Nat) : List (Nat × Int) := l.map fun n => (n - lmin l, (wid l : Int))
/-- The bytes of numbers. -/
def pk (l : List Nat) : List UInt8 :=
  if l = [] then [] else beN (lmin l) 8 ++ beN (wid l) 1 ++ bytesW (tot (pks l)).1 (tot (pks l)).2
theorem tot_lt (ps : List (Nat × Int)) : ∀ k, k ≤ ps.length → (tot (ps.take k)).2 < 2 ^ (tot (ps.take k)).1
  | 0, _ => by simp [tot]
  | k + 1, h => by
    have h1 := tot_lt ps k (by omega)
    rw [tot_succ ps k (by omega)]
    simp only
    rw [Nat.pow_add]
    have h2 := Nat.mod_lt ps[k].1 (show 0 < 2 ^ wi ps[k].2 from Nat.pow_pos (by omega))
    have h3 : ((tot (ps.take k)).2 + 1) * 2 ^ wi ps[k].2 ≤ 2 ^ (tot (ps.take k)).1 * 2 ^ wi ps[k].2 := Nat.mul_le_mul_right _ h1
    rw [Nat.add_mul] at h3
    omega
/-- A head of whole bytes in front of bits. -/
theorem bytesW_head (h a L V : Nat) (hV : V < 2 ^ L) : bytesW (8 * h + L) (a * 2 ^ L + V) = beN a h ++ bytesW L V := by
  unfold bytesW
  have e1 : (8 * h + L + 7) / 8 = h + (L + 7) / 8 := by omega
  have e2 : 8 * (h + (L + 7) / 8) - (8 * h + L) = 8 * ((L + 7) / 8) - L := by omega
  rw [e1, e2, Nat.add_mul, Nat.mul_assoc, ← Nat.pow_add, show L + (8 * ((L + 7) / 8) - L) = 8 * ((L + 7) / 8) by omega, Nat.pow_mul, show (2 : Nat) ^ 8 = 256 from rfl]
  refine beN_cat _ _ _ _ ?_
  rw [show (256 : Nat) = 2 ^ 8 from rfl, ← Nat.pow_mul, show 8 * ((L + 7) / 8) = L + (8 * ((L + 7) / 8) - L) by omega, Nat.pow_add, Nat.add_sub_cancel_left]
  exact Nat.mul_lt_mul_of_pos_right hV (Nat.pow_pos (by omega))
end BitM

namespace BitM
/-- How many noughts a number ends in. -/
def tz (x : Nat) : Nat := if h : x % 2 = 1 ∨ x = 0 then 0 else tz (x / 2) + 1
termination_by x
decreasing_by omega
theorem tz_odd (x : Nat) (h : x ≠ 0) : ∃ a, x = 2 ^ tz x * (2 * a + 1) := by
  induction x using Nat.strongRecOn with
  | ind x ih =>
    unfold tz
    split
    · rename_i h1
      rcases h1 with h1 | h1
      · exact ⟨x / 2, by rw [Nat.pow_zero]; omega⟩
      · exact absurd h1 h
    · rename_i h1
      obtain ⟨a, ha⟩ := ih (x / 2) (by omega) (by omega)
      refine ⟨a, ?_⟩
      rw [Nat.pow_succ, Nat.mul_comm _ 2, Nat.mul_assoc, ← ha]
      omega
theorem tz_lt (x m : Nat) (h : x ≠ 0) (hx : x < 2 ^ m) : tz x < m := by
  obtain ⟨a, ha⟩ := tz_odd x h
  rcases Nat.lt_or_ge (tz x) m with h1 | h1
  · exact h1
  · have h2 : 2 ^ m ≤ 2 ^ tz x := Nat.pow_le_pow_right (by omega) h1
    have h3 : 2 ^ tz x * 1 ≤ 2 ^ tz x * (2 * a + 1) := Nat.mul_le_mul_left _ (by omega)
    omega
/-- The lowest bit that is one, by what Go reckons. -/
theorem low_bit (x : Nat) (h : x ≠ 0) (hx : x < 18446744073709551616) : x &&& (18446744073709551616 - x) = 2 ^ tz x := by
  obtain ⟨a, ha⟩ := tz_odd x h
  obtain ⟨t, ht⟩ : ∃ t, t = tz x := ⟨_, rfl⟩
  have ht64 := tz_lt x 64 h hx
  rw [← ht] at ha ht64 ⊢
  have e1 : x = 2 ^ t * (2 * a + 1) + 0 := by omega
  have hp : 0 < 2 ^ t := Nat.pow_pos (by omega)
  have e2 : x - 1 = 2 ^ t * (2 * a) + (2 ^ t - 1) := by rw [ha, Nat.mul_add, Nat.mul_one]; omega
  apply Nat.eq_of_testBit_eq
  intro j
  rw [Nat.testBit_and, show 18446744073709551616 - x = 2 ^ 64 - ((x - 1) + 1) by omega, Nat.testBit_two_pow_sub_succ (by omega)]
  rw [show x.testBit j = if j < t then Nat.testBit 0 j else Nat.testBit (2 * a + 1) (j - t) by
    conv => lhs; rw [e1]
    exact Nat.testBit_two_pow_mul_add _ hp j]
  rw [show (x - 1).testBit j = if j < t then Nat.testBit (2 ^ t - 1) j else Nat.testBit (2 * a) (j - t) by
    rw [e2]
    exact Nat.testBit_two_pow_mul_add _ (by omega) j]
  rw [Nat.testBit_two_pow]
  by_cases hj : j < t
  · simp [hj]
    omega
  · rw [if_neg hj, if_neg hj]
    by_cases hj2 : j = t
    · subst hj2
      simp [ht64]
    · obtain ⟨k, hk⟩ : ∃ k, j - t = k + 1 := ⟨j - t - 1, by omega⟩
      rw [hk]
      have : Nat.testBit (2 * a + 1) (k + 1) = Nat.testBit (2 * a) (k + 1) := by
        rw [Nat.testBit_succ, Nat.testBit_succ]
        congr 1
        omega
      rw [this]
      have hne : ¬ t = j := fun h => hj2 h.symm
      simp [hne]
      intro h1 h2
      exact h1
theorem shr_tz (x : Nat) (h : x ≠ 0) : x / 2 ^ tz x * 2 ^ tz x = x := by
  obtain ⟨a, ha⟩ := tz_odd x h
  have hp : 0 < 2 ^ tz x := Nat.pow_pos (by omega)
  obtain ⟨p, hpe⟩ : ∃ p, p = 2 ^ tz x := ⟨_, rfl⟩
  rw [← hpe] at ha hp ⊢
  rw [ha, Nat.mul_div_cancel_left _ hp, Nat.mul_comm]
theorem tz_len (x : Nat) (h : x ≠ 0) : tz x < lenB x := by
  have h1 := lenB_lt x
  exact tz_lt x _ h h1
theorem shr_lt (x : Nat) (h : x ≠ 0) : x / 2 ^ tz x < 2 ^ (lenB x - tz x) := by
  have h1 := lenB_lt x
  have h2 := tz_len x h
  rw [Nat.div_lt_iff_lt_mul (Nat.pow_pos (by omega)), ← Nat.pow_add, show lenB x - tz x + tz x = lenB x by omega]
  exact h1
theorem lenB_pos (x : Nat) (h : x ≠ 0) : 1 ≤ lenB x := by
  unfold lenB
  rw [if_neg h]
  omega
end BitM

namespace BitM
def deB : List Nat := [0, 1, 56, 2, 57, 49, 28, 3, 61, 58, 42, 50, 38, 29, 17, 4, 62, 47, 59, 36, 45, 43, 51, 22, 53, 39, 33, 30, 24, 18, 12, 5, 63, 55, 48, 27, 60, 41, 37, 16, 46, 35, 44, 21, 52, 32, 23, 11, 54, 26, 40, 15, 34, 20, 31, 10, 25, 14, 19, 9, 13, 8, 7, 6]
theorem deB_at : ∀ t, t < 64 → 2 ^ t * 285870213051353865 % 18446744073709551616 / 288230376151711744 < 64 ∧ deB.getD (2 ^ t * 285870213051353865 % 18446744073709551616 / 288230376151711744) 0 = t := by decide +kernel
end BitM
namespace Go.Proofs.YtocddhokjhfaaaaDoor
open Go.RowKit BitM
set_option linter.unusedVariables false

/-- The table of math/bits stands where it should. -/
def TabAt (w : World) : Prop := ∀ i, i < 64 → w.cell? ⟨1, i, none⟩ = some (.int .u8 (deB.getD i 0 : Nat))
theorem TabAt.below {w w' : World} (h : TabAt w) (hb : Below w.heap.size w w') : TabAt w' := fun i hi => (World.cell?_of_block (a := ⟨1, i, none⟩) (hb.block _ (World.block_lt_of_cell? _ _ (h i hi)))).trans (h i hi)
theorem TabAt.lt {w : World} (h : TabAt w) : 1 < w.heap.size := World.block_lt_of_cell? _ _ (h 0 (by omega))
theorem TabAt.grown {w w' : World} (h : TabAt w) {g : Nat} (hg : w.grownBy w' (some g)) (hne : 1 < g) : TabAt w' := fun i hi => (World.cell?_of_block (a := ⟨1, i, none⟩) (hg.block _ h.lt (by simp; omega))).trans (h i hi)

theorem lead_any (x : Nat) (hx : x < 18446744073709551616) (w : World) : Calls Tryd.prog 67 #[.int .u64 (x : Int)] w fun e w' => e = .returned (.int .i64 ((64 - lenB x : Nat) : Int)) ∧ w = w' := by
  have hl := lenB_le x 64 hx
  have hz : (64 : Int) - (lenB x : Int) = ((64 - lenB x : Nat) : Int) := by omega
  go_enter Tryd.func67, Tryd.ntmps67
  go_wp2_with (go_at_call 51; refine (len64_any x hx _).mono ?_; rintro e w1 ⟨rfl, rfl⟩)
  go_ret
  exact ⟨rfl, rfl⟩

theorem trail_any (x : Nat) (h0 : x ≠ 0) (hx : x < 18446744073709551616) (w : World) (ht : TabAt w) : Calls Tryd.prog 68 #[.int .u64 (x : Int)] w fun e w' => e = .returned (.int .i64 (tz x : Int)) ∧ w = w' := by
  have hlow := low_bit x h0 hx
  have ht64 := tz_lt x 64 h0 hx
  obtain ⟨hq, hd⟩ := deB_at (tz x) ht64
  obtain ⟨q, hqe⟩ : ∃ q, q = 2 ^ tz x * 285870213051353865 % 18446744073709551616 / 288230376151711744 := ⟨_, rfl⟩
  rw [← hqe] at hq hd
  have hc := ht q hq
  rw [hd] at hc
  have hneg : IntKind.u64.wrap (-(x : Int)) = ((18446744073709551616 - x : Nat) : Int) := by rw [IntKind.wrap_u64]; omega
  have hand : bits BinOp.and IntKind.u64 (x : Int) ((18446744073709551616 - x : Nat) : Int) = ((2 ^ tz x : Nat) : Int) := by
    rw [u64_and_nat _ _ hx (by omega), hlow]
  have hne : ((x : Int) == 0) = false := by rw [beq_eq_false_iff_ne]; omega
  obtain ⟨M, hM⟩ : ∃ M, M = 2 ^ tz x := ⟨_, rfl⟩
  rw [← hM] at hand hqe
  have hmul : IntKind.u64.wrap ((M : Int) * 285870213051353865) / 288230376151711744 = (q : Int) := by
    have e : (M : Int) * 285870213051353865 = ((M * 285870213051353865 : Nat) : Int) := by rw [Int.natCast_mul]; rfl
    rw [e, IntKind.wrap_u64, hqe]
    generalize M * 285870213051353865 = N
    clear hand hneg hc
    omega
  have hM64 : M < 18446744073709551616 := by rw [hM]; exact Nat.pow_lt_pow_right (by omega) ht64
  clear hqe hd hlow hM
  go_enter Tryd.func68, Tryd.ntmps68
  go_wp2_with fail
  go_ret
  exact ⟨rfl, rfl⟩
end Go.Proofs.YtocddhokjhfaaaaDoor

namespace Go.Proofs.YtocddhokjhfaaaaDoor
open Go.RowKit BitM
set_option linter.unusedVariables false

set_option maxRecDepth 100000 in
theorem min_any (A : Option Addr) (n c : Nat) (ns : List Nat) (w : World) (hn : ns.length = n) (hx : NatsAt w A ns) (hl : n ≤ 100000000) (h0 : 0 < n) :
    Calls Tryd.prog 50 #[.slice A n c] w fun e w' => e = .returned (.int .u64 (lmin ns : Int)) ∧ w = w' := by
  subst hn
  have hne : ns ≠ [] := by intro h; subst h; simp at h0
  obtain ⟨b, off, rfl⟩ := hx.addr hne
  have hc0 := hx.cell 0 h0
  have e0 : ns[0] = lmin (ns.take 1) := by
    cases ns with
    | nil => simp at h0
    | cons x r => rfl
  rw [e0, Nat.add_zero] at hc0
  clear e0
  go_enter Tryd.func50, Tryd.ntmps50
  go_wp2_with fail
  go_loopw [3, 4] (fun m i wr => ∃ k : Nat, 1 ≤ k ∧ k ≤ ns.length ∧ i = .int .i64 k ∧ m = .int .u64 (lmin (ns.take k) : Nat) ∧ w = wr) (fun _ i _ => ns.length - (intOf i).toNat)
  case atStart => exact ⟨1, by omega, by omega, rfl, rfl, rfl⟩
  case round =>
    obtain ⟨k, hk1, hk, rfl, rfl, rfl⟩ := hrel
    by_cases hlt : k < ns.length
    · have h1 := hx.cell k hlt
      have hm := lmin_take ns k hk1 hlt
      have HM := Lib.hid hm
      generalize lmin (ns.take k) = M at *
      generalize ns[k] = v at *
      clear hm hc0 hne
      go_wp2_with fail
      go_roundw
      case rel =>
        refine ⟨k + 1, by omega, by omega, by go_num, ?_, by first | rfl | trivial⟩
        rw [HM.out]
        go_num
      case measure => simp [intOf]; omega
    · obtain rfl : k = ns.length := by omega
      rw [List.take_length]
      go_wp2_with fail
      go_ret
      exact ⟨rfl, rfl⟩

set_option maxRecDepth 100000 in
theorem max_any (A : Option Addr) (n c : Nat) (ns : List Nat) (w : World) (hn : ns.length = n) (hx : NatsAt w A ns) (hl : n ≤ 100000000) (h0 : 0 < n) :
    Calls Tryd.prog 52 #[.slice A n c] w fun e w' => e = .returned (.int .u64 (lmax ns : Int)) ∧ w = w' := by
  subst hn
  have hne : ns ≠ [] := by intro h; subst h; simp at h0
  obtain ⟨b, off, rfl⟩ := hx.addr hne
  have hc0 := hx.cell 0 h0
  have e0 : ns[0] = lmax (ns.take 1) := by
    cases ns with
    | nil => simp at h0
    | cons x r => rfl
  rw [e0, Nat.add_zero] at hc0
  clear e0
  go_enter Tryd.func52, Tryd.ntmps52
  go_wp2_with fail
  go_loopw [3, 4] (fun m i wr => ∃ k : Nat, 1 ≤ k ∧ k ≤ ns.length ∧ i = .int .i64 k ∧ m = .int .u64 (lmax (ns.take k) : Nat) ∧ w = wr) (fun _ i _ => ns.length - (intOf i).toNat)
  case atStart => exact ⟨1, by omega, by omega, rfl, rfl, rfl⟩
  case round =>
    obtain ⟨k, hk1, hk, rfl, rfl, rfl⟩ := hrel
    by_cases hlt : k < ns.length
    · have h1 := hx.cell k hlt
      have hm := lmax_take ns k hk1 hlt
      have HM := Lib.hid hm
      generalize lmax (ns.take k) = M at *
      generalize ns[k] = v at *
      clear hm hc0 hne
      go_wp2_with fail
      go_roundw
      case rel =>
        refine ⟨k + 1, by omega, by omega, by go_num, ?_, by first | rfl | trivial⟩
        rw [HM.out]
        go_num
      case measure => simp [intOf]; omega
    · obtain rfl : k = ns.length := by omega
      rw [List.take_length]
      go_wp2_with fail
      go_ret
      exact ⟨rfl, rfl⟩
end Go.Proofs.YtocddhokjhfaaaaDoor

namespace BitM
open Go.Proofs.YtocddhokjhfaaaaDoor (wi)
theorem length_pks (l : List Nat) : (pks l).length = l.length := by simp [pks]
theorem lmax_lt (l : List Nat) (h : ∀ v ∈ l, v < 18446744073709551616) : lmax l < 18446744073709551616 := by
  cases l with
  | nil => simp [lmax]
  | cons x r =>
    have : ∀ (r : List Nat) (x : Nat), x < 18446744073709551616 → (∀ y ∈ r, y < 18446744073709551616) → r.foldl max x < 18446744073709551616 := by
      intro r
      induction r with
      | nil => intro x hx _; exact hx
      | cons a r ih => intro x hx hr; exact ih _ (by have := hr a (by simp); omega) (fun y hy => hr y (by simp [hy]))
    exact this r x (h x (by simp)) (fun y hy => h y (by simp [hy]))
theorem wid_le (l : List Nat) (h : ∀ v ∈ l, v < 18446744073709551616) : wid l ≤ 64 := by
  refine lenB_le _ _ ?_
  have := lmax_lt l h
  have e : (2 : Nat) ^ 64 = 18446744073709551616 := by decide
  omega
theorem pk_cons {l : List Nat} (h : l ≠ []) (hm : ∀ v ∈ l, v < 18446744073709551616) : pk l = bytesW (72 + (tot (pks l)).1) ((lmin l * 256 + wid l) * 2 ^ (tot (pks l)).1 + (tot (pks l)).2) := by
  have hV : (tot (pks l)).2 < 2 ^ (tot (pks l)).1 := by
    have := tot_lt (pks l) (pks l).length (Nat.le_refl _)
    rwa [List.take_length] at this
  unfold pk
  rw [if_neg h]
  have e := bytesW_head 9 (lmin l * 256 + wid l) _ _ hV
  rw [show 8 * 9 = 72 from rfl] at e
  have hw := wid_le l hm
  have e2 := beN_cat (lmin l) (wid l) 8 1 (by omega)
  rw [Nat.pow_one, show 8 + 1 = 9 from rfl] at e2
  rw [e, e2]
theorem pks_succ (l : List Nat) (k : Nat) (h : k < l.length) (hw : wid l ≤ 64) :
    tot ((pks l).take (k + 1)) = ((tot ((pks l).take k)).1 + wid l, (tot ((pks l).take k)).2 * 2 ^ wid l + (l[k] - lmin l) % 2 ^ wid l) := by
  have hk : k < (pks l).length := by rw [length_pks]; exact h
  have e := tot_succ (pks l) k hk
  have hq : (pks l)[k] = (l[k] - lmin l, (wid l : Int)) := by simp [pks]
  have hwi : wi (wid l : Int) = wid l := by unfold wi; omega
  rw [hq] at e
  simp only [hwi] at e
  exact e
theorem pks_step (a L V W d : Nat) : (a * 2 ^ L + V) * 2 ^ W + d % 2 ^ W = a * 2 ^ (L + W) + (V * 2 ^ W + d % 2 ^ W) := by
  rw [Nat.add_mul, Nat.mul_assoc, ← Nat.pow_add, Nat.add_assoc]
end BitM
namespace Go.Proofs.YtocddhokjhfaaaaDoor
open Go.RowKit BitM
set_option linter.unusedVariables false

theorem packPut_large (A : Option Addr) (n c : Nat) (w : World) (h : 200 < n) (hl : n ≤ 100000000) :
    Calls Tryd.prog 35 #[.slice A n c] w fun e w' => e = .returned (.tuple #[.slice none 0 0, .int .i64 1]) ∧ w = w' := by
  go_enter Tryd.func35, Tryd.ntmps35
  go_wp2_with fail
  go_ret2
  exact ⟨rfl, rfl⟩

set_option maxHeartbeats 400000 in
set_option maxRecDepth 100000 in
theorem packPut_any (A : Option Addr) (n c : Nat) (ns : List Nat) (w : World) (hn : ns.length = n) (hx : NatsAt w A ns) (hl : n ≤ 200) (hm : ∀ v ∈ ns, v < 18446744073709551616) :
    Calls Tryd.prog 35 #[.slice A n c] w fun e w' => ∃ A' c', e = .returned (.tuple #[.slice A' (pk ns).length c', .int .i64 0]) ∧ BytesAt w' A' (pk ns) ∧ Below w.heap.size w w' ∧ (pk ns).length ≤ c' ∧ c' ≤ maxLen := by
  by_cases hne : ns = []
  · subst hne
    have hn0 : n = 0 := by simpa using hn.symm
    subst hn0
    go_enter Tryd.func35, Tryd.ntmps35
    go_wp2_with fail
    go_ret2
    exact ⟨none, 0, rfl, fun h => absurd rfl h, Below.refl _ _, Nat.le_refl _, by unfold maxLen; omega⟩
  · have hpos : 0 < n := by
      rcases Nat.eq_zero_or_pos n with h | h
      · rw [h] at hn
        exact absurd (List.eq_nil_of_length_eq_zero hn) hne
      · exact h
    have hpk := pk_cons hne hm
    have hwl := wid_le ns hm
    obtain ⟨b, off, rfl⟩ := hx.addr hne
    obtain ⟨m, hmn⟩ : ∃ m, m = lmin ns := ⟨_, rfl⟩
    obtain ⟨M, hmx⟩ : ∃ M, M = lmax ns := ⟨_, rfl⟩
    obtain ⟨W, hW⟩ : ∃ W, W = wid ns := ⟨_, rfl⟩
    have hs : ∀ k (h : k < ns.length), tot ((pks ns).take (k + 1)) = ((tot ((pks ns).take k)).1 + W, (tot ((pks ns).take k)).2 * 2 ^ W + (ns[k] - m) % 2 ^ W) := fun k h => by rw [hW, hmn]; exact pks_succ ns k h hwl
    have hge : ∀ k (h : k < ns.length), m ≤ ns[k] := fun k h => by rw [hmn]; exact lmin_le (List.getElem_mem h)
    have hmM : m ≤ M := by
      have h1 := lmin_le (List.getElem_mem (show 0 < ns.length by omega))
      have h2 := le_lmax (List.getElem_mem (show 0 < ns.length by omega))
      omega
    have hM64 : M < 18446744073709551616 := by rw [hmx]; exact lmax_lt ns hm
    obtain ⟨d, hd⟩ : ∃ d, d = M - m := ⟨_, rfl⟩
    have hdi : (M : Int) - (m : Int) = (d : Int) := by omega
    have hWd : W = lenB d := by rw [hW, hd, hmx, hmn]; rfl
    have hd64 : d < 18446744073709551616 := by omega
    have hm64 : m < 18446744073709551616 := by omega
    rw [← hmn, ← hW] at hpk
    rw [← hW] at hwl
    have HS := Lib.hid hs
    have HGE := Lib.hid hge
    have HPK := Lib.hid hpk
    have HMN := Lib.hid hmn
    have HMX := Lib.hid hmx
    have HWD := Lib.hid hWd
    have hv1 : m = 0 * 2 ^ 64 + m % 2 ^ 64 := by rw [Nat.zero_mul, Nat.zero_add]; exact (Nat.mod_eq_of_lt (by omega)).symm
    have hv2 : m * 256 + W = m * 2 ^ 8 + W % 2 ^ 8 := by rw [Nat.mod_eq_of_lt (by omega)]
    have HV1 := Lib.hid hv1
    have HV2 := Lib.hid hv2
    have hN := Lib.hid hn
    have hmAll := Lib.hid hm
    clear hs hge hpk hmn hmx hW hWd hd hv1 hv2 hm hn
    have hb0 : Below w.heap.size w (w.alloc (.cells #[.pointer none, .int .u64 0, .int .i64 0] 64)) := (Below.refl _ _).alloc (Nat.le_refl _) _
    have hw0 := WSt.new w w.heap.size (Nat.le_refl _)
    go_enter Tryd.func35, Tryd.ntmps35
    go_wp2_with (first
      | (go_at_call 50; with_reducible refine (min_any _ n c ns _ hN.out hx (by omega) hpos).mono ?_; rw [← HMN.out]; rintro e w1 ⟨rfl, rfl⟩)
      | (go_at_call 52; with_reducible refine (max_any _ n c ns _ hN.out hx (by omega) hpos).mono ?_; rw [← HMX.out]; rintro e w1 ⟨rfl, rfl⟩)
      | (go_at_call 51; with_reducible refine (len64_any d hd64 _).mono ?_; rw [← HWD.out]; rintro e w1 ⟨rfl, rfl⟩)
      | (go_at_call 30; with_reducible refine (wput_to w.heap.size w.heap.size 0 0 64 m m 64 m _ hw0 rfl (by omega) 64 (by decide) (by decide) HV1.out).mono ?_; rintro e w1 ⟨rfl, hw1, hg1⟩; have hb1 := below_some (by simp) (Nat.le_refl _) hb0 hg1)
      | (go_at_call 30; with_reducible refine (wput_to w.heap.size w.heap.size 64 m 72 (m * 256 + W) W 8 W _ hw1 rfl (by omega) 8 (by decide) (by decide) HV2.out).mono ?_; rintro e w2 ⟨rfl, hw2, hg2⟩; have hb2 := below_some hb1.size (Nat.le_refl _) hb1 hg2))
    go_loopw [29] (fun i wr => ∃ (k L V : Nat), k ≤ n ∧ Hid (L = 72 + (tot ((pks ns).take k)).1) ∧ Hid (V = (m * 256 + W) * 2 ^ (tot ((pks ns).take k)).1 + (tot ((pks ns).take k)).2) ∧ i = .int .i64 k ∧ WSt wr w.heap.size w.heap.size L V ∧ Below w.heap.size w wr) (fun i _ => n - (intOf i).toNat)
    case atStart => exact ⟨0, 72, m * 256 + W, by omega, Lib.hid rfl, Lib.hid (by simp [tot]), rfl, hw2, hb2⟩
    case round =>
      obtain ⟨k, L, V, hk, HL, HV, rfl, hw, hb⟩ := hrel
      by_cases hlt : k < n
      · have hkl : k < ns.length := by rw [hN.out]; exact hlt
        have hc := (hx.below hb).cell k hkl
        have h1 := HGE.out k hkl
        have h2 := HS.out k hkl
        have hv64 := hmAll.out _ (List.getElem_mem hkl)
        obtain ⟨v, hv⟩ : ∃ v, v = ns[k] := ⟨_, rfl⟩
        rw [← hv] at hc h1 h2 hv64
        obtain ⟨q, hq⟩ : ∃ q, q = v - m := ⟨_, rfl⟩
        rw [← hq] at h2
        have hqi : (v : Int) - (m : Int) = (q : Int) := by omega
        have hq64 : q < 18446744073709551616 := by omega
        have H2 := Lib.hid h2
        have hL2 : L + W = 72 + (tot ((pks ns).take (k + 1))).1 := by have := HL.out; rw [h2]; simp only; omega
        have hV2 : V * 2 ^ W + q % 2 ^ W = (m * 256 + W) * 2 ^ (tot ((pks ns).take (k + 1))).1 + (tot ((pks ns).take (k + 1))).2 := by
          rw [h2, HV.out]
          exact pks_step _ _ _ _ _
        have HL2 := Lib.hid hL2
        have HV2' := Lib.hid hV2
        have hwi : W = wi (W : Int) := by unfold wi; omega
        have HWI := Lib.hid hwi
        clear h2 hv hq hL2 hV2 hwi
        go_wp2_with (go_at_call 30; with_reducible refine (wput_to w.heap.size w.heap.size L V (L + W) (V * 2 ^ W + q % 2 ^ W) q W q _ hw rfl hq64 W HWI.out rfl rfl).mono ?_; rintro e w3 ⟨rfl, hw3, hg3⟩; have hb3 := below_some hb.size (Nat.le_refl _) hb hg3)
        go_roundw
        case rel => exact ⟨k + 1, _, _, by omega, HL2, HV2', by go_num, hw3, hb3⟩
        case measure => simp [intOf]; omega
      · obtain rfl : k = n := by omega
        have hpk := HPK.out
        have htl : (pks ns).take k = pks ns := by rw [← hN.out, ← length_pks, List.take_length]
        have hL := HL.out
        have hV := HV.out
        rw [htl] at hL hV
        rw [← hL, ← hV] at hpk
        have hlen : (pk ns).length = (L + 7) / 8 := by rw [hpk, length_bytesW]
        have hLs : L ≤ 60000000 := by
          have := tot_le (pks ns) (pks ns).length (Nat.le_refl _)
          rw [List.take_length, length_pks, hN.out] at this
          omega
        have HPK2 := Lib.hid hpk
        have HLEN := Lib.hid hlen
        clear hpk htl hL hV hlen
        go_wp2_with (go_at_call 31; with_reducible refine (wbytes_st w.heap.size w.heap.size L V (pk ns).length _ hw hLs HLEN.out).mono ?_; rw [← HPK2.out]; rintro e w5 ⟨A5, c5, rfl, hx5, h5a, h5b, h5c, hb5⟩)
        go_ret2
        exact ⟨A5, c5, rfl, hx5, hb.trans (hb5.mono hb.size), h5a, h5b⟩
end Go.Proofs.YtocddhokjhfaaaaDoor

namespace BitM
open Go.Proofs.YtocddhokjhfaaaaDoor
/-- A number of so many bits more. -/
def stp (s : Nat × Nat) (q : Nat × Int) : Nat × Nat := (s.1 + wi q.2, s.2 * 2 ^ wi q.2 + q.1 % 2 ^ wi q.2)
/-- What is laid of a change. -/
def xch (x : Nat) : List (Nat × Int) := if x = 0 then [(0, 1)] else [(1, 1), (64 - lenB x, 6), (lenB x - tz x - 1, 6), (x / 2 ^ tz x, ((lenB x - tz x : Nat) : Int))]
def xadd (s : Nat × Nat) (x : Nat) : Nat × Nat := (xch x).foldl stp s
/-- The bits of values, up to so many changes. -/
def xt (l : List Nat) : Nat → Nat × Nat
  | 0 => stp (0, 0) (l.getD 0 0, 64)
  | k + 1 => xadd (xt l k) (l.getD (k + 1) 0 ^^^ l.getD k 0)
/-- The bytes of values. -/
def xb (l : List Nat) : List UInt8 := if l = [] then [] else bytesW (xt l (l.length - 1)).1 (xt l (l.length - 1)).2
theorem xadd_zero (L V : Nat) : xadd (L, V) 0 = (L + 1, V * 2 ^ 1 + 0 % 2 ^ 1) := rfl
theorem xadd_some (x n L V L1 V1 L2 V2 L3 V3 L4 V4 : Nat) (h0 : x ≠ 0) (hn : n = lenB x - tz x) (hn64 : n ≤ 64) (h1 : L1 = L + 1) (v1 : V1 = V * 2 ^ 1 + 1 % 2 ^ 1) (h2 : L2 = L1 + 6) (v2 : V2 = V1 * 2 ^ 6 + (64 - lenB x) % 2 ^ 6)
    (h3 : L3 = L2 + 6) (v3 : V3 = V2 * 2 ^ 6 + (n - 1) % 2 ^ 6) (h4 : L4 = L3 + n) (v4 : V4 = V3 * 2 ^ n + (x / 2 ^ tz x) % 2 ^ n) : xadd (L, V) x = (L4, V4) := by
  have hw : wi ((n : Nat) : Int) = n := by unfold wi; omega
  unfold xadd xch
  rw [if_neg h0, ← hn]
  simp only [List.foldl_cons, List.foldl_nil, stp, hw]
  rw [show wi 1 = 1 by decide, show wi 6 = 6 by decide]
  subst h1 v1 h2 v2 h3 v3 h4 v4
  rfl
theorem xadd_le (s : Nat × Nat) (x : Nat) (hx : x < 18446744073709551616) : (xadd s x).1 ≤ s.1 + 77 := by
  obtain ⟨L, V⟩ := s
  by_cases h0 : x = 0
  · subst h0
    rw [xadd_zero]
    simp only
    omega
  · have h1 := lenB_le x 64 hx
    rw [xadd_some x (lenB x - tz x) L V _ _ _ _ _ _ _ _ h0 rfl (by omega) rfl rfl rfl rfl rfl rfl rfl rfl]
    simp only
    omega
theorem xt_le (l : List Nat) (hm : ∀ v ∈ l, v < 18446744073709551616) : ∀ k, (xt l k).1 ≤ 64 + 77 * k
  | 0 => by
    show 0 + wi 64 ≤ _
    rw [show wi 64 = 64 by decide]
    omega
  | k + 1 => by
    have h1 := xt_le l hm k
    have hg : ∀ j, l.getD j 0 < 2 ^ 64 := by
      intro j
      rcases Nat.lt_or_ge j l.length with h | h
      · rw [List.getD_eq_getElem?_getD, List.getElem?_eq_getElem h]
        exact hm _ (List.getElem_mem h)
      · rw [List.getD_eq_getElem?_getD, List.getElem?_eq_none h]
        decide
    have h2 := xadd_le (xt l k) (l.getD (k + 1) 0 ^^^ l.getD k 0) (Nat.xor_lt_two_pow (hg _) (hg _))
    show (xadd (xt l k) _).1 ≤ _
    omega
end BitM
namespace Go.Proofs.YtocddhokjhfaaaaDoor
open Go.RowKit BitM
set_option linter.unusedVariables false

set_option maxRecDepth 100000 in
theorem putChange_any (base g L V x : Nat) (w : World) (h : WSt w base g L V) (hx : x < 18446744073709551616) (ht : TabAt w) (hg : 1 < g) :
    Calls Tryd.prog 60 #[.pointer (some ⟨g, 0, none⟩), .int .u64 (x : Int)] w fun e w' => e = .returned (.tuple #[]) ∧ WSt w' base g (xadd (L, V) x).1 (xadd (L, V) x).2 ∧ w.grownBy w' (some g) := by
  by_cases h0 : x = 0
  · subst h0
    rw [xadd_zero]
    go_enter Tryd.func60, Tryd.ntmps60
    go_wp2_with (go_at_call 30; with_reducible refine (wput_to base g L V (L + 1) (V * 2 ^ 1 + 0 % 2 ^ 1) 0 1 0 _ h rfl (by omega) 1 (by decide) rfl rfl).mono ?_; rintro e w1 ⟨rfl, hw1, hg1⟩)
    refine bodyPost_ret (results_none rfl _ _ _) rfl ?_
    exact ⟨rfl, hw1, hg1⟩
  · have hl := lenB_le x 64 hx
    have hlp := lenB_pos x h0
    have htl := tz_len x h0
    obtain ⟨n, hn⟩ : ∃ n, n = lenB x - tz x := ⟨_, rfl⟩
    obtain ⟨y, hy⟩ : ∃ y, y = x / 2 ^ tz x := ⟨_, rfl⟩
    have hyi : (x : Int) / 2 ^ tz x = (y : Int) := by rw [hy]; simp
    have hy64 : y < 18446744073709551616 := by rw [hy]; exact Nat.lt_of_le_of_lt (Nat.div_le_self _ _) hx
    obtain ⟨ld, hld⟩ : ∃ ld, ld = 64 - lenB x := ⟨_, rfl⟩
    obtain ⟨t, htz⟩ : ∃ t, t = tz x := ⟨_, rfl⟩
    obtain ⟨m, hm⟩ : ∃ m, m = n - 1 := ⟨_, rfl⟩
    have hni : (64 : Int) - (ld : Int) - (t : Int) = (n : Int) := by omega
    have hmi : (n : Int) - 1 = (m : Int) := by omega
    have hld64 : ld < 64 := by omega
    have ht64 : t < 64 := by omega
    have hn64 : n ≤ 64 := by omega
    have hm64 : m < 64 := by omega
    have hwi : n = wi (n : Int) := by unfold wi; omega
    obtain ⟨L1, h1⟩ : ∃ z, z = L + 1 := ⟨_, rfl⟩
    obtain ⟨V1, v1⟩ : ∃ z, z = V * 2 ^ 1 + 1 % 2 ^ 1 := ⟨_, rfl⟩
    obtain ⟨L2, h2⟩ : ∃ z, z = L1 + 6 := ⟨_, rfl⟩
    obtain ⟨V2, v2⟩ : ∃ z, z = V1 * 2 ^ 6 + ld % 2 ^ 6 := ⟨_, rfl⟩
    obtain ⟨L3, h3⟩ : ∃ z, z = L2 + 6 := ⟨_, rfl⟩
    obtain ⟨V3, v3⟩ : ∃ z, z = V2 * 2 ^ 6 + m % 2 ^ 6 := ⟨_, rfl⟩
    obtain ⟨L4, h4⟩ : ∃ z, z = L3 + n := ⟨_, rfl⟩
    obtain ⟨V4, v4⟩ : ∃ z, z = V3 * 2 ^ n + y % 2 ^ n := ⟨_, rfl⟩
    have hs := xadd_some x n L V L1 V1 L2 V2 L3 V3 L4 V4 h0 hn hn64 h1 v1 h2 (by rw [← hld]; exact v2) h3 (by rw [← hm]; exact v3) h4 (by rw [← hy]; exact v4)
    rw [hs]
    rw [← htz] at hyi
    have H1 := Lib.hid h1
    have H2 := Lib.hid h2
    have H3 := Lib.hid h3
    have H4 := Lib.hid h4
    have W1 := Lib.hid v1
    have W2 := Lib.hid v2
    have W3 := Lib.hid v3
    have W4 := Lib.hid v4
    have HLD := Lib.hid hld
    have HTZ := Lib.hid htz
    have HWI := Lib.hid hwi
    have hne : ((x : Int) == 0) = false := by rw [beq_eq_false_iff_ne]; omega
    clear h1 h2 h3 h4 v1 v2 v3 v4 hld htz hs hwi hn hy hl hlp htl hm
    go_enter Tryd.func60, Tryd.ntmps60
    go_wp2_with (first
      | (go_at_call 67; with_reducible refine (lead_any x hx _).mono ?_; rw [← HLD.out]; rintro e w1 ⟨rfl, rfl⟩)
      | (go_at_call 68; with_reducible refine (trail_any x h0 hx _ ht).mono ?_; rw [← HTZ.out]; rintro e w1 ⟨rfl, rfl⟩)
      | (go_at_call 30; with_reducible refine (wput_to base g L V L1 V1 1 1 1 _ h rfl (by omega) 1 (by decide) H1.out W1.out).mono ?_; rintro e w1 ⟨rfl, hw1, hg1⟩)
      | (go_at_call 30; with_reducible refine (wput_to base g L1 V1 L2 V2 ld 6 ld _ hw1 rfl (by omega) 6 (by decide) H2.out W2.out).mono ?_; rintro e w2 ⟨rfl, hw2, hg2⟩)
      | (go_at_call 30; with_reducible refine (wput_to base g L2 V2 L3 V3 m 6 m _ hw2 rfl (by omega) 6 (by decide) H3.out W3.out).mono ?_; rintro e w3 ⟨rfl, hw3, hg3⟩)
      | (go_at_call 30; with_reducible refine (wput_to base g L3 V3 L4 V4 y n y _ hw3 rfl hy64 n HWI.out H4.out W4.out).mono ?_; rintro e w4 ⟨rfl, hw4, hg4⟩))
    refine bodyPost_end (results_none rfl _ _ _) rfl ?_
    exact ⟨rfl, hw4, ((hg1.trans hg2).trans hg3).trans hg4⟩

theorem getD_lt (ns : List Nat) (hm : ∀ v ∈ ns, v < 18446744073709551616) (j : Nat) : ns.getD j 0 < 18446744073709551616 := by
  rcases Nat.lt_or_ge j ns.length with h | h
  · rw [List.getD_eq_getElem?_getD, List.getElem?_eq_getElem h]
    exact hm _ (List.getElem_mem h)
  · rw [List.getD_eq_getElem?_getD, List.getElem?_eq_none h]
    decide

set_option maxHeartbeats 800000 in
set_option maxRecDepth 100000 in
theorem xorsPut_any (A : Option Addr) (n c : Nat) (ns : List Nat) (w : World) (hn : ns.length = n) (hx : NatsAt w A ns) (hl : n ≤ 200) (hc : n ≤ c) (hcm : c ≤ maxLen) (hm : ∀ v ∈ ns, v < 18446744073709551616) (ht : TabAt w) :
    Calls Tryd.prog 40 #[.slice A n c] w fun e w' => ∃ A' c', e = .returned (.tuple #[.slice A' (xb ns).length c', .int .i64 0]) ∧ BytesAt w' A' (xb ns) ∧ Below w.heap.size w w' ∧ (xb ns).length ≤ c' ∧ c' ≤ maxLen := by
  by_cases hne : ns = []
  · subst hne
    have hn0 : n = 0 := by simpa using hn.symm
    subst hn0
    go_enter Tryd.func40, Tryd.ntmps40
    go_wp2_with fail
    go_ret2
    exact ⟨none, 0, rfl, fun h => absurd rfl h, Below.refl _ _, Nat.le_refl _, by unfold maxLen; omega⟩
  · have hpos : 0 < n := by
      rcases Nat.eq_zero_or_pos n with h | h
      · rw [h] at hn
        exact absurd (List.eq_nil_of_length_eq_zero hn) hne
      · exact h
    obtain ⟨b, off, rfl⟩ := hx.addr hne
    have hc0 := hx.cell 0 (by omega)
    have hle := xt_le ns hm
    have hgD := getD_lt ns hm
    have hce : ∀ j, j < n → w.cell? ⟨b, off + j, none⟩ = some (.int .u64 (ns.getD j 0 : Nat)) := by
      intro j hj
      have := hx.cell j (by omega)
      rw [this, List.getD_eq_getElem?_getD, List.getElem?_eq_getElem (by omega)]
      rfl
    have hbl := World.block_lt_of_cell? _ _ hc0
    clear hc0
    have hc0 := hce 0 hpos
    rw [Nat.add_zero] at hc0
    obtain ⟨v0, hv0⟩ : ∃ v, v = ns.getD 0 0 := ⟨_, rfl⟩
    have hv064 : v0 < 18446744073709551616 := by rw [hv0]; exact hgD 0
    have hx0 : xt ns 0 = (0 + 64, 0 * 2 ^ 64 + v0 % 2 ^ 64) := by rw [hv0]; rfl
    rw [← hv0] at hc0
    have hxb : xb ns = bytesW (xt ns (n - 1)).1 (xt ns (n - 1)).2 := by unfold xb; rw [if_neg hne, hn]
    have hsub : (n : Int) - 1 = ((n - 1 : Nat) : Int) := by omega
    obtain ⟨n1, hn1⟩ : ∃ n1, n1 = n - 1 := ⟨_, rfl⟩
    rw [← hn1] at hsub hxb
    have HX0 := Lib.hid hx0
    have HXB := Lib.hid hxb
    have HLE := Lib.hid hle
    have HGD := Lib.hid hgD
    have HCE := Lib.hid hce
    have HN := Lib.hid hn
    have HN1 := Lib.hid hn1
    have HX := Lib.hid hx
    have HT := Lib.hid ht
    have hgl := ht.lt
    clear hx0 hxb hle hgD hce hn hx ht hv0 hm hn1
    have hb0 : Below w.heap.size w (w.alloc (.cells #[.pointer none, .int .u64 0, .int .i64 0] 64)) := (Below.refl _ _).alloc (Nat.le_refl _) _
    have hw0 := WSt.new w w.heap.size (Nat.le_refl _)
    have hcl : ((n : Int) == 0) = false := by rw [beq_eq_false_iff_ne]; omega
    unfold maxLen at hcm
    by_cases hcc : c = 1
    · subst hcc
      have hn1e : n - 1 = n1 := by have := HN1.out; omega
      go_enter Tryd.func40, Tryd.ntmps40
      go_wp2_with (first
        | (go_at_call 30; go_loud (with_reducible refine (wput_to w.heap.size w.heap.size 0 0 _ _ v0 64 v0 _ hw0 rfl hv064 64 (by decide) rfl rfl).mono ?_); rintro e w1 ⟨rfl, hw1, hg1⟩; have hb1 := below_some (by simp) (Nat.le_refl _) hb0 hg1))
      go_loopw [20] (fun i wr => ∃ (k L V : Nat), k ≤ n1 ∧ Hid ((L, V) = xt ns k) ∧ i = .int .i64 k ∧ WSt wr w.heap.size w.heap.size L V ∧ Below w.heap.size w wr) (fun i _ => n1 - (intOf i).toNat)
      case atStart => exact ⟨0, _, _, by omega, Lib.hid HX0.out.symm, rfl, hw1, hb1⟩
      case round =>
        obtain ⟨k, L, V, hk, HLV, rfl, hw, hb⟩ := hrel
        by_cases hlt : k < n1
        · exfalso
          have := HN1.out
          omega
        · obtain rfl : k = n1 := by omega
          have hlen : (xb ns).length = (L + 7) / 8 := by rw [HXB.out, ← HLV.out, length_bytesW]
          have hxb2 : xb ns = bytesW L V := by rw [HXB.out, ← HLV.out]
          have hL : L ≤ 64 + 77 * k := by have := HLE.out k; rw [← HLV.out] at this; exact this
          have HLEN := Lib.hid hlen
          have HXB2 := Lib.hid hxb2
          clear hlen hxb2
          go_wp2_with (go_at_call 31; with_reducible refine (wbytes_st w.heap.size w.heap.size L V (xb ns).length _ hw (by omega) HLEN.out).mono ?_; rw [← HXB2.out]; rintro e w4 ⟨A4, c4, rfl, hx4, hc4, hm4, _, hb4⟩)
          go_ret2
          exact ⟨A4, c4, rfl, hx4, hb.trans (hb4.mono hb.size), hc4, hm4⟩
    · have hn1e : n - 1 = n1 := by have := HN1.out; omega
      go_enter Tryd.func40, Tryd.ntmps40
      go_wp2_with (first
        | (go_at_call 30; go_loud (with_reducible refine (wput_to w.heap.size w.heap.size 0 0 _ _ v0 64 v0 _ hw0 rfl hv064 64 (by decide) rfl rfl).mono ?_); rintro e w1 ⟨rfl, hw1, hg1⟩; have hb1 := below_some (by simp) (Nat.le_refl _) hb0 hg1))
      go_loopw [20] (fun i wr => ∃ (k L V : Nat), k ≤ n1 ∧ Hid ((L, V) = xt ns k) ∧ i = .int .i64 k ∧ WSt wr w.heap.size w.heap.size L V ∧ Below w.heap.size w wr) (fun i _ => n1 - (intOf i).toNat)
      case atStart => exact ⟨0, _, _, by omega, Lib.hid HX0.out.symm, rfl, hw1, hb1⟩
      case round =>
        obtain ⟨k, L, V, hk, HLV, rfl, hw, hb⟩ := hrel
        by_cases hlt : k < n1
        · have hkn : k + 1 < n := by have := HN1.out; omega
          have c1 := (hb.cell (p := ⟨b, off + (k + 1), none⟩) (World.block_lt_of_cell? _ _ (HCE.out (k + 1) hkn))).trans (HCE.out (k + 1) hkn)
          have c2 := (hb.cell (p := ⟨b, off + k, none⟩) (World.block_lt_of_cell? _ _ (HCE.out k (by omega)))).trans (HCE.out k (by omega))
          rw [show off + (k + 1) = off + 1 + k by omega] at c1
          have g1 := HGD.out (k + 1)
          have g2 := HGD.out k
          have hst : xt ns (k + 1) = xadd (L, V) (ns.getD (k + 1) 0 ^^^ ns.getD k 0) := by rw [HLV.out]; rfl
          obtain ⟨a1, ha1⟩ : ∃ a, a = ns.getD (k + 1) 0 := ⟨_, rfl⟩
          obtain ⟨a2, ha2⟩ : ∃ a, a = ns.getD k 0 := ⟨_, rfl⟩
          rw [← ha1] at c1 g1 hst
          rw [← ha2] at c2 g2 hst
          have hxo : bits BinOp.xor IntKind.u64 (a1 : Int) (a2 : Int) = ((a1 ^^^ a2 : Nat) : Int) := u64_xor_nat _ _ g1 g2
          have hx64 : a1 ^^^ a2 < 18446744073709551616 := Nat.xor_lt_two_pow (n := 64) g1 g2
          obtain ⟨x, hxx⟩ : ∃ x, x = a1 ^^^ a2 := ⟨_, rfl⟩
          rw [← hxx] at hxo hx64 hst
          have HST := Lib.hid hst
          clear hst ha1 ha2 hxx
          go_wp2_with (go_at_call 60; with_reducible refine (putChange_any w.heap.size w.heap.size L V x _ hw hx64 (HT.out.below hb) hgl).mono ?_; rintro e w2 ⟨rfl, hw2, hg2⟩; have hb2 := below_some hb.size (Nat.le_refl _) hb hg2)
          go_roundw
          case rel => exact ⟨k + 1, _, _, by omega, Lib.hid HST.out.symm, by go_num, hw2, hb2⟩
          case measure => simp [intOf]; omega
        · obtain rfl : k = n1 := by omega
          have hlen : (xb ns).length = (L + 7) / 8 := by rw [HXB.out, ← HLV.out, length_bytesW]
          have hxb2 : xb ns = bytesW L V := by rw [HXB.out, ← HLV.out]
          have hL : L ≤ 64 + 77 * k := by have := HLE.out k; rw [← HLV.out] at this; exact this
          have HLEN := Lib.hid hlen
          have HXB2 := Lib.hid hxb2
          clear hlen hxb2
          go_wp2_with (go_at_call 31; with_reducible refine (wbytes_st w.heap.size w.heap.size L V (xb ns).length _ hw (by omega) HLEN.out).mono ?_; rw [← HXB2.out]; rintro e w4 ⟨A4, c4, rfl, hx4, hc4, hm4, _, hb4⟩)
          go_ret2
          exact ⟨A4, c4, rfl, hx4, hb.trans (hb4.mono hb.size), hc4, hm4⟩
end Go.Proofs.YtocddhokjhfaaaaDoor

namespace Go.Proofs.YtocddhokjhfaaaaDoor
open Go.RowKit BitM
set_option linter.unusedVariables false

end Go.Proofs.YtocddhokjhfaaaaDoor

namespace BitM
theorem lenB_shr (d u : Nat) (h : u < lenB d) : 0 < d / 2 ^ u := by
  have h0 : d ≠ 0 := by
    intro h0
    subst h0
    simp [lenB] at h
  refine Nat.div_pos ?_ (Nat.pow_pos (by omega))
  exact Nat.le_trans (Nat.pow_le_pow_right (by omega) (by omega)) (lenB_ge d h0)
theorem lenB_shr0 (d : Nat) : d / 2 ^ lenB d = 0 := Nat.div_eq_of_lt (lenB_lt d)
theorem pk_parts {l : List Nat} (hne : l ≠ []) (h64 : wid l ≤ 64) : pk l = (beN (lmin l) 8 ++ [UInt8.ofNat (wid l)]) ++ bytesW (tot (pks l)).1 (tot (pks l)).2 := by
  have e : beN (wid l) 1 = [UInt8.ofNat (wid l)] := by simp [beN]
  unfold pk
  rw [if_neg hne, e]
theorem lmin_take1 (l : List Nat) (k : Nat) (h : k < l.length) : lmin (l.take (max (k + 1) 1)) = min (lmin (l.take (max k 1))) l[k] := by
  rcases Nat.eq_zero_or_pos k with rfl | h0
  · cases l with
    | nil => simp at h
    | cons x r => simp [lmin]
  · rw [show max (k + 1) 1 = k + 1 by omega, show max k 1 = k by omega]
    exact lmin_take l k h0 h
theorem lmax_take1 (l : List Nat) (k : Nat) (h : k < l.length) : lmax (l.take (max (k + 1) 1)) = max (lmax (l.take (max k 1))) l[k] := by
  rcases Nat.eq_zero_or_pos k with rfl | h0
  · cases l with
    | nil => simp at h
    | cons x r => simp [lmax]
  · rw [show max (k + 1) 1 = k + 1 by omega, show max k 1 = k by omega]
    exact lmax_take l k h0 h
end BitM
namespace Go.Proofs.YtocddhokjhfaaaaDoor
open Go.RowKit BitM
set_option linter.unusedVariables false

end Go.Proofs.YtocddhokjhfaaaaDoor

namespace BitM
open Go.Proofs.YtocddhokjhfaaaaDoor
def xu (l : List Nat) : Nat → Nat × Nat
  | 0 => (0, 0)
  | k + 1 => xt l k
theorem xu_le (l : List Nat) (hm : ∀ v ∈ l, v < 18446744073709551616) (k : Nat) : (xu l k).1 ≤ 77 * k := by
  cases k with
  | zero => show (0 : Nat) ≤ _; omega
  | succ k => have := xt_le l hm k; show (xt l k).1 ≤ _; omega
theorem stp_lt (s : Nat × Nat) (q : Nat × Int) (h : s.2 < 2 ^ s.1) : (stp s q).2 < 2 ^ (stp s q).1 := by
  unfold stp
  simp only
  have h1 : q.1 % 2 ^ wi q.2 < 2 ^ wi q.2 := Nat.mod_lt _ (Nat.pow_pos (by omega))
  rw [Nat.pow_add]
  have h2 : (s.2 + 1) * 2 ^ wi q.2 ≤ 2 ^ s.1 * 2 ^ wi q.2 := Nat.mul_le_mul_right _ h
  rw [Nat.add_mul, Nat.one_mul] at h2
  omega
theorem foldl_lt : ∀ (ps : List (Nat × Int)) (s : Nat × Nat), s.2 < 2 ^ s.1 → (ps.foldl stp s).2 < 2 ^ (ps.foldl stp s).1
  | [], _, h => h
  | q :: r, s, h => foldl_lt r _ (stp_lt s q h)
theorem xt_lt (l : List Nat) : ∀ k, (xt l k).2 < 2 ^ (xt l k).1
  | 0 => stp_lt _ _ (by decide)
  | k + 1 => foldl_lt _ _ (xt_lt l k)
theorem xu_lt (l : List Nat) (k : Nat) : (xu l k).2 < 2 ^ (xu l k).1 := by
  cases k with
  | zero => show 0 < 2 ^ 0; decide
  | succ k => exact xt_lt l k
theorem top_zero (x s : Nat) (h : lenB x ≤ s) : x / 2 ^ s = 0 := Nat.div_eq_of_lt (Nat.lt_of_lt_of_le (lenB_lt x) (Nat.pow_le_pow_right (by omega) h))
theorem top_one (x s : Nat) (h0 : x ≠ 0) (h : s + 1 = lenB x) : x / 2 ^ s = 1 := by
  have h1 := lenB_lt x
  have h2 := lenB_ge x h0
  rw [show lenB x - 1 = s by omega] at h2
  rw [← h, Nat.pow_succ] at h1
  have hp : 0 < 2 ^ s := Nat.pow_pos (by omega)
  exact Nat.div_eq_of_lt_le (by omega) (by omega)
theorem low_zero (x t : Nat) (h0 : x ≠ 0) (h : t < tz x) : x / 2 ^ t % 2 = 0 := by
  obtain ⟨a, ha⟩ := tz_odd x h0
  obtain ⟨d, hd⟩ : ∃ d, tz x = t + 1 + d := ⟨tz x - t - 1, by omega⟩
  obtain ⟨o, ho⟩ : ∃ o, o = 2 ^ d * (2 * a + 1) := ⟨_, rfl⟩
  have e : x = 2 ^ t * (2 * o) := by
    have : 2 ^ tz x * (2 * a + 1) = 2 ^ t * (2 * o) := by
      rw [hd, Nat.pow_add, Nat.pow_add, Nat.pow_one, ho]
      simp only [Nat.mul_assoc]
    omega
  have hp : 0 < 2 ^ t := Nat.pow_pos (by omega)
  rw [e, Nat.mul_div_cancel_left _ hp]
  omega
theorem low_one (x : Nat) (h0 : x ≠ 0) : x / 2 ^ tz x % 2 = 1 := by
  obtain ⟨a, ha⟩ := tz_odd x h0
  have hp : 0 < 2 ^ tz x := Nat.pow_pos (by omega)
  obtain ⟨p, hpe⟩ : ∃ p, p = 2 ^ tz x := ⟨_, rfl⟩
  rw [← hpe] at ha hp ⊢
  rw [ha, Nat.mul_div_cancel_left _ hp]
  omega
end BitM
namespace Go.Proofs.YtocddhokjhfaaaaDoor
open Go.RowKit BitM
set_option linter.unusedVariables false

theorem and_one' (x s r : Nat) (hx : x < 18446744073709551616) (z : Int) (hr : x / 2 ^ s % 2 = r) (hz : z = (r : Int)) : bits BinOp.and IntKind.u64 ((x : Int) / 2 ^ s) 1 = z := by
  have e : (x : Int) / 2 ^ s = ((x / 2 ^ s : Nat) : Int) := by simp
  rw [e, and_one _ (Nat.lt_of_le_of_lt (Nat.div_le_self _ _) hx), hr, hz]

end Go.Proofs.YtocddhokjhfaaaaDoor

namespace Go.Proofs.YtocddhokjhfaaaaDoor
open Go.RowKit VarM RunM
set_option linter.unusedVariables false

theorem natsAt_block {w : World} {g : Nat} {t : TypeId} {fr : Nat × Nat} (ns : List Nat) (h : w.heap[g]? = some (.cells (ns.map uv).toArray t fr)) : NatsAt w (some ⟨g, 0, none⟩) ns := cellsAt_block _ h

theorem rput771 : rput [7, 7, 1] = [2, 7, 1, 1] := by
  rw [rput_cons, show runLen [7, 7, 1] = 2 from rfl]
  simp only [List.drop_succ_cons, List.drop_zero]
  rw [rput_cons, show runLen [1] = 1 from rfl]
  simp only [List.drop_succ_cons, List.drop_zero]
  rw [rput_nil, vput_low (by omega), vput_low (by omega), vput_low (by omega)]
  rfl

theorem runPut_lit (g : Nat) (w : World) (h : w.heap[g]? = some (.cells #[.int .u64 7, .int .u64 7, .int .u64 1] 22 (0, 0))) :
    Calls Tryd.prog 41 #[.slice (some ⟨g, 0, none⟩) 3 3] w fun e w' => ∃ A' c', e = .returned (.tuple #[.slice A' 4 c', .int .i64 0]) ∧ BytesAt w' A' [2, 7, 1, 1] ∧ 4 ≤ c' ∧ c' ≤ maxLen ∧ Below w.heap.size w w' := by
  refine (runPut_any _ 3 3 [7, 7, 1] w rfl (natsAt_block [7, 7, 1] h) (by omega) (by omega) (by unfold maxLen; omega) (by decide)).mono ?_
  rintro e w' ⟨A', c', rfl, h1, h2, h3, _, h4⟩
  rw [rput771] at *
  exact ⟨A', c', rfl, h1, h2, h3, h4⟩

theorem runGet_lit (A : Option Addr) (c : Nat) (w : World) (hx : BytesAt w A [2, 7, 1, 1]) (hc : 4 ≤ c) (hcm : c ≤ maxLen) :
    Calls Tryd.prog 63 #[.slice A 4 c, .int .i64 3] w fun e w' => ∃ b off c', e = .returned (.tuple #[.slice (some ⟨b, off, none⟩) 3 c', .int .i64 4, .int .i64 0]) ∧ w'.cell? ⟨b, off + 2, none⟩ = some (.int .u64 1) ∧ Below w.heap.size w w' := by
  refine (runGet_any A 4 c 3 [2, 7, 1, 1] [] [7, 7, 1] w (by rw [rput771]; rfl) rfl hx hc hcm rfl (by omega) (by decide)).mono ?_
  rintro e w' ⟨A', c', rfl, h1, h4⟩
  obtain ⟨b, off, rfl⟩ := h1.addr (by simp)
  rw [rput771]
  exact ⟨b, off, c', rfl, h1.cell 2 (by simp), h4⟩

/-- More than may be. -/
theorem runPut_large (A : Option Addr) (n c : Nat) (w : World) (hl : 200 < n) (hl2 : n ≤ 100000) :
    Calls Tryd.prog 41 #[.slice A n c] w fun e w' => e = .returned (.tuple #[.slice none 0 0, .int .i64 1]) ∧ w = w' := by
  have hd : (200 : Int) < (n : Int) := by omega
  go_enter Tryd.func41, Tryd.ntmps41
  go_wp2_with fail
  go_ret2
  exact ⟨rfl, rfl⟩
end Go.Proofs.YtocddhokjhfaaaaDoor

namespace Go.Proofs.YtocddhokjhfaaaaDoor
open Go.RowKit VarM RunM
set_option linter.unusedVariables false

theorem nats_of_row {w : World} {A : Option Addr} {zs : List Int} (h : NumRow .u64 w A zs) : NatsAt w A (zs.map Int.toNat) ∧ ∀ v ∈ zs.map Int.toNat, v < 18446744073709551616 := by
  have hz : ∀ n ∈ zs, 0 ≤ n ∧ n < 18446744073709551616 := fun n hn => by have := bounds_u64 (h.1 n hn); omega
  refine ⟨fun hne => ?_, fun v hv => ?_⟩
  · obtain ⟨b, off, ha, hc⟩ := h.2 (by intro h0; subst h0; exact hne rfl)
    refine ⟨b, off, ha, fun k hk => ?_⟩
    have hk' : k < zs.length := by simpa using hk
    rw [hc k hk']
    have := hz _ (List.getElem_mem hk')
    simp only [List.getElem_map, uv]
    congr 2
    omega
  · obtain ⟨z, hz1, rfl⟩ := List.mem_map.1 hv
    have := hz z hz1
    omega

theorem runPut_z (A : Option Addr) (n c : Nat) (ns : List Nat) (Z : List UInt8) (w : World) (hZ : rput ns = Z) (hn : ns.length = n) (hx : NatsAt w A ns) (hl : n ≤ 200) (hc : n ≤ c) (hcm : c ≤ maxLen) (hm : ∀ v ∈ ns, v < 18446744073709551616) :
    Calls Tryd.prog 41 #[.slice A n c] w fun e w' => ∃ A' c', e = .returned (.tuple #[.slice A' Z.length c', .int .i64 0]) ∧ BytesAt w' A' Z ∧ Z.length ≤ c' ∧ c' ≤ maxLen ∧ Below w.heap.size w w' := by
  subst hZ
  refine (runPut_any A n c ns w hn hx hl hc hcm hm).mono ?_
  rintro e w' ⟨A', c', rfl, h1, h2, h3, _, h4⟩
  exact ⟨A', c', rfl, h1, h2, h3, h4⟩
theorem runGet_z (A : Option Addr) (len c n : Nat) (X rest Z : List UInt8) (ns : List Nat) (w : World) (hZ : rput ns = Z) (hX : X = Z ++ rest) (hlen : X.length = len) (hx : BytesAt w A X) (hc : len ≤ c) (hcm : c ≤ maxLen) (hn : ns.length = n) (hl : n ≤ 200) (hm : ∀ v ∈ ns, v < 18446744073709551616) :
    Calls Tryd.prog 63 #[.slice A len c, .int .i64 (n : Int)] w fun e w' => ∃ A' c', e = .returned (.tuple #[.slice A' n c', .int .i64 (Z.length : Int), .int .i64 0]) ∧ NatsAt w' A' ns ∧ Below w.heap.size w w' := by
  subst hZ
  exact runGet_any A len c n X rest ns w hX hlen hx hc hcm hn hl hm

end Go.Proofs.YtocddhokjhfaaaaDoor

namespace Go.Proofs.YtocddhokjhfaaaaDoor
open Go.RowKit

/-- The ways through a region: soft ones, then one that touches memory, or one of two. -/
inductive Ways where
  | done (last : List Nat)
  | one (qs : List Nat) (h : Nat) (t : Ways)
  | two (qs : List Nat) (h1 : Nat) (t1 : Ways) (h2 : Nat) (t2 : Ways)

section
variable {P : Program} {ops : Array Oper} {md : Region.Mode} {S : World → Prop}

def waysB (md : Region.Mode) (ops : Array Oper) : Ways → Array Bool → Bool
  | .done last, listed => match softs md ops last listed with
    | some l' => (Region.ready md ops l').isEmpty
    | none => false
  | .one qs h t, listed => match softs md ops qs listed with
    | some l' => decide (Region.ready md ops l' = [h]) && waysB md ops t (l'.setIfInBounds h true)
    | none => false
  | .two qs h1 t1 h2 t2, listed => match softs md ops qs listed with
    | some l' => decide (Region.ready md ops l' = [h1, h2]) && waysB md ops t1 (l'.setIfInBounds h1 true) && waysB md ops t2 (l'.setIfInBounds h2 true)
    | none => false

/-- Each way has n operations. -/
def waysN : Ways → Nat → Bool
  | .done last, n => decide (last.length = n)
  | .one qs _ t, n => decide (qs.length + 1 ≤ n) && waysN t (n - qs.length - 1)
  | .two qs _ t1 _ t2, n => decide (qs.length + 1 ≤ n) && waysN t1 (n - qs.length - 1) && waysN t2 (n - qs.length - 1)

def wpWays (P : Program) (ops : Array Oper) (Q : Exit → Act → World → Prop) (S : World → Prop) : Ways → Act → World → Prop
  | .done last, a, w => wpQuiet P ops S (fun a' => Q .normal a' w) (last.map (opAt ops)) a
  | .one qs h t, a, w => wpQuiet P ops S (fun a' => wpList P ops (Exit.then (fun a2 w2 => S w2 ∧ wpWays P ops Q S t a2 w2) (NoPanic Q)) [opAt ops h] a' w) (qs.map (opAt ops)) a
  | .two qs h1 t1 h2 t2, a, w => wpQuiet P ops S (fun a' => wpList P ops (Exit.then (fun a2 w2 => S w2 ∧ wpWays P ops Q S t1 a2 w2) (NoPanic Q)) [opAt ops h1] a' w ∧
      wpList P ops (Exit.then (fun a2 w2 => S w2 ∧ wpWays P ops Q S t2 a2 w2) (NoPanic Q)) [opAt ops h2] a' w) (qs.map (opAt ops)) a

theorem wpWays_done {Q : Exit → Act → World → Prop} {last : List Nat} {a : Act} {w : World} : wpWays P ops Q S (.done last) a w = wpQuiet P ops S (fun a' => Q .normal a' w) (last.map (opAt ops)) a := rfl
theorem wpWays_one {Q : Exit → Act → World → Prop} {qs : List Nat} {h : Nat} {t : Ways} {a : Act} {w : World} :
    wpWays P ops Q S (.one qs h t) a w = wpQuiet P ops S (fun a' => wpList P ops (Exit.then (fun a2 w2 => S w2 ∧ wpWays P ops Q S t a2 w2) (NoPanic Q)) [opAt ops h] a' w) (qs.map (opAt ops)) a := rfl
theorem wpWays_two {Q : Exit → Act → World → Prop} {qs : List Nat} {h1 h2 : Nat} {t1 t2 : Ways} {a : Act} {w : World} :
    wpWays P ops Q S (.two qs h1 t1 h2 t2) a w = wpQuiet P ops S (fun a' => wpList P ops (Exit.then (fun a2 w2 => S w2 ∧ wpWays P ops Q S t1 a2 w2) (NoPanic Q)) [opAt ops h1] a' w ∧
      wpList P ops (Exit.then (fun a2 w2 => S w2 ∧ wpWays P ops Q S t2 a2 w2) (NoPanic Q)) [opAt ops h2] a' w) (qs.map (opAt ops)) a := rfl

theorem wpOp_of_one {Q : Exit → Act → World → Prop} {K K' : Act → World → Prop} {j : Nat} {a : Act} {w : World} (hj : j < ops.size) (hK : ∀ a2 w2, K a2 w2 → K' a2 w2)
    (ha : wpList P ops (Exit.then K (NoPanic Q)) [opAt ops j] a w) : wpOp P ops (NoPanic Q) j K' a w := by
  unfold wpOp
  rw [opAt_some hj]
  simp only [wpList] at ha
  have key : ∀ a2 w2, Exit.then K (NoPanic Q) .normal a2 w2 → K' a2 w2 := fun a2 w2 h2 => hK _ _ h2
  simp only
  split at ha
  · rename_i hw
    rw [if_pos hw]
    rcases ha with ha | ⟨h1, h2⟩
    · left
      unfold Oper.wp at *
      generalize (execOp a.eval (opAt ops j)).run P w = x at *
      cases x with
      | ok n w3 =>
        cases n <;> simp only [Oper.upon] at ha ⊢
        case value u => exact key _ _ ha
        case skip => exact key _ _ ha
        case defer d => exact key _ _ ha
        case enter f args =>
          refine Calls.mono ha fun e w'' he => ?_
          cases e with
          | returned u => exact key _ _ he
          | panicked c => exact he
          | outgrown => exact he
        case row row args => exact Rows.mono ha fun u w'' he => key _ _ he
      | halt x w3 => cases x <;> simp only [Oper.upon] at ha ⊢ <;> exact ha
    · right
      exact ⟨h1, h2⟩
  · rename_i hw
    rw [if_neg hw]
    exact key _ _ ha

theorem ready_lt {l : Array Bool} {i : Nat} (h : i ∈ Region.ready md ops l) : i < ops.size := by
  obtain ⟨_, o, ho, _⟩ := mem_ready.1 h
  exact (Array.getElem?_eq_some_iff.1 ho).1

theorem wpAnyH_of_ways {Q : Exit → Act → World → Prop} (hsel : Region.noSelect ops = true) :
    ∀ (t : Ways) (n : Nat) (listed : Array Bool) (a : Act) (w : World), S w → waysN t n = true → waysB md ops t listed = true → wpWays P ops Q S t a w → wpAnyH P md ops (NoPanic Q) S n listed a w
  | .done last, n, listed, a, w, hS, hN, hB, h => by
    simp only [waysB] at hB
    simp only [waysN, decide_eq_true_eq] at hN
    subst hN
    split at hB
    · rename_i l' hl
      have hr : Region.ready md ops l' = [] := by simpa using hB
      have := softs_take (P := P) (Q := Q) (K := fun a' => Q .normal a' w) (fuel := 0) hsel hS (fun a' ha => wpAnyH_done hr (NoPanic.normal ha) 0) last listed a hl h
      simpa using this
    · cases hB
  | .one qs i t, n, listed, a, w, hS, hN, hB, h => by
    simp only [waysB] at hB
    simp only [waysN, Bool.and_eq_true, decide_eq_true_eq] at hN
    split at hB
    · rename_i l' hl
      simp only [Bool.and_eq_true, decide_eq_true_eq] at hB
      obtain ⟨hr, hB2⟩ := hB
      have e : n = qs.length + ((n - qs.length - 1) + 1) := by omega
      rw [e]
      refine softs_take (fuel := (n - qs.length - 1) + 1) hsel hS (fun a' ha => ?_) qs listed a hl h
      refine wpAnyH_all hr (by simp) fun j hj => ?_
      obtain rfl : j = i := by simpa using hj
      exact wpOp_of_one (ready_lt (md := md) (l := l') (by rw [hr]; simp)) (fun a2 w2 h2 => ⟨h2.1, wpAnyH_of_ways hsel t _ _ a2 w2 h2.1 hN.2 hB2 h2.2⟩) ha
    · cases hB
  | .two qs i t1 k t2, n, listed, a, w, hS, hN, hB, h => by
    simp only [waysB] at hB
    simp only [waysN, Bool.and_eq_true, decide_eq_true_eq] at hN
    split at hB
    · rename_i l' hl
      simp only [Bool.and_eq_true, decide_eq_true_eq] at hB
      obtain ⟨⟨hr, hB1⟩, hB2⟩ := hB
      have e : n = qs.length + ((n - qs.length - 1) + 1) := by omega
      rw [e]
      refine softs_take (fuel := (n - qs.length - 1) + 1) hsel hS (fun a' ha => ?_) qs listed a hl h
      refine wpAnyH_all hr (by simp) fun j hj => ?_
      have hj2 : j = i ∨ j = k := by simpa using hj
      have hlt : j < ops.size := ready_lt (md := md) (l := l') (by rw [hr]; exact hj)
      rcases hj2 with rfl | rfl
      · exact wpOp_of_one hlt (fun a2 w2 h2 => ⟨h2.1, wpAnyH_of_ways hsel t1 _ _ a2 w2 h2.1 hN.1.2 hB1 h2.2⟩) ha.1
      · exact wpOp_of_one hlt (fun a2 w2 h2 => ⟨h2.1, wpAnyH_of_ways hsel t2 _ _ a2 w2 h2.1 hN.2 hB2 h2.2⟩) ha.2
    · cases hB

def waysOK (ops : Array Oper) (t : Ways) : Bool := Region.noSelect ops && waysN t ops.size && waysB .any ops t (Array.replicate ops.size false)

/-- A region that draws its order, over the worlds that are as the one at hand below B. -/
theorem region_ways {id : Nat} {Q : Exit → Act → World → Prop} {a : Act} {w : World} (B : Nat) (hBw : B ≤ w.heap.size) (t : Ways) (hm : P.follows .mixedOrders = true) (hB : waysOK ops t = true)
    (h : ∀ w', Below w.heap.size w w' → wpWays P ops Q (fun w' => ∃ x : SubW B w, w' = x.at_) t a w') : (Code.region id ops true).wp P Q a w := by
  simp only [waysOK, Bool.and_eq_true] at hB
  obtain ⟨⟨h1, h2⟩, h3⟩ := hB
  have hb := below_drewN (Below.refl w.heap.size w) 1
  refine wp_region_noPanic (wp_region_held (S := fun w' => ∃ x : SubW B w, w' = x.at_) hm ?_)
  exact wpAnyH_of_ways h1 t _ _ a _ ⟨⟨_, hb.mono hBw⟩, rfl⟩ h2 h3 (h _ hb)
end
end Go.Proofs.YtocddhokjhfaaaaDoor
