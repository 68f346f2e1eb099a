/- Several texts in one: What all walks of this seat share: worlds that are as a world was below a block, a region whose order is drawn walked over these, bytes in memory. No program is named here. Rows of bytes that a call owns: append behind them, read as a text. No program is named here. append onto nothing, as a step of a region that draws its order; what such a region keeps. No program is named here. Slices of bytes that a call owns, nil among them: append behind them, one byte or many. No program is named here. Numbers of seven bits a byte, as lists of bytes: plain mathematics. The calls of package varint and of its reference: their contracts. A region that draws its order, where what touches memory comes in one forced order, and all else only reads what no one there writes: walked once, in an order of one's own. No program is named here. Bits side by side as numbers: plain mathematics. A row of L bits is a number V below 2^L. A row of bits as a list of 0 and 1: plain mathematics. The Reader of package bits: its calls' contracts. Take of package bits: its contract. Put and Get of package varint, and the reference's Put: their contracts. The statements' small test of layer 5, and the walks of VarintZigs, VarintLengths, VarintRows. What all rows of this seat share: how an argument that came in is told to a walk. -/
import Derived.WalkKit
import Derived.BigQuiet
import Derived.Deep.QuietTactic
import Derived.Deep.WholeRow
import Derived.Deep.OwnRows
import Derived.Laws.BitsAllLaws
import Derived.Below
import Derived.Lib.Hide
import Derived.Maps.AppendAt
import Derived.Laws.BytesArg
import Derived.Laws.OwnMore
import Derived.OwnWalk
import Derived.Deep.RegionHeld3
import Derived.Deep.DeepCutAuto
import Derived.Laws.CopyOwn
import Derived.Test.YtocddhokjhfaaaaDoorChecked
import Derived.Lib.MinMax
import Derived.Lib.SlBytesConst
import Derived.Lib.BufferMore
import Derived.KernelRfl
import Derived.Handy
import Derived.WalkSpells
import Derived.WalkLawsBesides
import Derived.OrdersHeld
import Derived.IntWalk
import Derived.Test.YtocddhokjhfaaaaDoorRows
import Derived.ProofKit
import Derived.OpenShut
import Derived.ShutString
import Derived.ChangeOld
namespace Go.Proofs.YtocddhokjhfaaaaDoor
open Go.RowKit

/-- The worlds that are below block B as w was. -/
structure SubW (B : Nat) (w : World) where
  at_ : World
  ok_ : Below B w at_

instance (B : Nat) (w : World) : Nonempty (SubW B w) := ⟨⟨w, Below.refl _ _⟩⟩

theorem below_drewN {B : Nat} {a w : World} (h : Below B a w) (n : Nat) : Below B a (w.drewN n) := ⟨h.os, h.tape, h.output, h.size, h.block⟩

/-- A region that draws its order, walked once in the text's order over all worlds that are below B as w0 was. -/
theorem region_below {P : Program} {id : Nat} {Q : Exit → Act → World → Prop} {a : Act} {w : World} {l : List Oper} (B : Nat) (w0 : World) (hb : Below B w0 w)
    (hm : P.follows .mixedOrders = true) (hB : Region.lexB .any l.toArray = true)
    (h : wpQuiet P l.toArray (fun w' => ∃ x : SubW B w0, w' = x.at_) (fun a' => ∀ w', (∃ x : SubW B w0, w' = x.at_) → Q .normal a' w') l a) : (Code.region id l.toArray true).wp P Q a w :=
  wp_region_quiet (C := fun w' => ∃ x : SubW B w0, w' = x.at_) hm hB ⟨⟨_, below_drewN hb 1⟩, rfl⟩ (by simpa using h)

/-- A callee's contract, met in such a world. -/
theorem calls_sub {P : Program} {f : FuncId} {args : Array Value} {B : Nat} {w0 : World} {x : SubW B w0} {v : Value} (hB : B ≤ w0.heap.size)
    (h : Calls P f args x.at_ fun e w' => e = .returned v ∧ Below x.at_.heap.size x.at_ w') : Calls P f args x.at_ fun e w'' => e = .returned v ∧ ∃ y : SubW B w0, w'' = y.at_ :=
  h.mono fun _ _ ⟨he, hb⟩ => ⟨he, ⟨_, x.ok_.trans (hb.mono (Nat.le_trans hB x.ok_.size))⟩, rfl⟩

/-- A whole array is read in a region that draws. -/
theorem quiet_load_row {P : Program} {o : Oper} {a : Act} {B : Nat} {w0 : World} {K : Act → Prop} (ty : TypeId) (x : Operand) (ho : o.op = .load ty x)
    (g : Nat) (hx : a.eval x = .pointer (some ⟨g, 0, none⟩)) (t : TypeId) (cs : Array Value) (fr : Nat × Nat) (d : TypeDesc) (hg : ∀ y : SubW B w0, y.at_.heap[g]? = some (.cells cs t fr))
    (hu : P.underlying ty = some d) (hd : (match d with | .struct _ | .array _ _ => true | _ => false) = true) (hi : (P.info? ty).map (·.size) = some cs.size)
    (h : K (a.put o.dst (.agg cs))) : o.quiet P a (fun w' => ∃ x : SubW B w0, w' = x.at_) K := by
  refine ⟨.agg cs, ?_, h⟩
  rintro w ⟨y, rfl⟩
  unfold Oper.quietAt execOp
  simp only [ho, hx, Instr.loadAt, Instr.sureAddr, Sem.run_bind, Sem.run_pure, Result.andThen_ok, run_loadVar_row y.at_ g t ty cs fr d (hg y) hu hd hi]
  exact ⟨rfl, rfl⟩

/-- The slice value over A reads as these bytes. -/
def BytesAt (w : World) (A : Option Addr) (xs : List UInt8) : Prop :=
  xs ≠ [] → ∃ b off, A = some ⟨b, off, none⟩ ∧ ∀ k (h : k < xs.length), w.cell? ⟨b, off + k, none⟩ = some (.int .u8 (xs[k].toNat : Int))

theorem BytesAt.nil (w : World) (A : Option Addr) : BytesAt w A [] := fun h => absurd rfl h

theorem BytesAt.below {w w' : World} {A : Option Addr} {xs : List UInt8} (h : BytesAt w A xs) (hb : Below w.heap.size w w') : BytesAt w' A xs := fun hx => by
  obtain ⟨b, off, ha, hc⟩ := h hx
  exact ⟨b, off, ha, fun k hk => (hb.cell (p := ⟨b, off + k, none⟩) (World.block_lt_of_cell? w _ (hc k hk))).trans (hc k hk)⟩

theorem u8_lt (x : UInt8) : (x.toNat : Int) < 256 := by have := x.toNat_lt; omega
theorem u8_nn (x : UInt8) : (0 : Int) ≤ (x.toNat : Int) := Int.natCast_nonneg _

end Go.Proofs.YtocddhokjhfaaaaDoor

namespace Go.Proofs.YtocddhokjhfaaaaDoor
open Go.RowKit

/-- A byte as a value. -/
def bv (c : UInt8) : Value := .int .u8 (c.toNat : Int)

theorem bv_one (xs : List UInt8) : ∀ u ∈ xs.map bv, u.oneCell' = true := by
  intro u hu
  obtain ⟨c, _, rfl⟩ := List.mem_map.1 hu
  rfl

/-- The row g, of room cap, from block base on, begins with these bytes and is owned. -/
def OwnB (w : World) (base g cap : Nat) (E : TypeId) (xs : List UInt8) : Prop :=
  w.ownsRow base E 1 (.slice (some ⟨g, 0, none⟩) xs.length cap) xs.length (xs.map bv)

section
variable {w w' : World} {base g cap : Nat} {E : TypeId} {xs ys : List UInt8}

theorem OwnB.parts (h : OwnB w base g cap E xs) : base ≤ g ∧ xs.length ≤ cap ∧ cap ≤ maxLen ∧ ∃ cur : Array Value, w.heap[g]? = some (.cells cur E (0, 0)) ∧ cur.size = cap ∧ cur.toList.take xs.length = xs.map bv := by
  rcases h.2 with ⟨h0, _⟩ | ⟨g', cap', cur, hv, hb, hh, hn, hm, hs, ht⟩
  · cases h0
  · simp at hv
    obtain ⟨rfl, rfl⟩ := hv
    exact ⟨hb, hn, hm, cur, hh, by simpa using hs, by simpa using ht⟩
theorem OwnB.lt (h : OwnB w base g cap E xs) : g < w.heap.size := by
  obtain ⟨_, _, _, cur, hh, _⟩ := h.parts
  exact (Array.getElem?_eq_some_iff.1 hh).1
theorem OwnB.bytes (h : OwnB w base g cap E xs) : BytesAt w (some ⟨g, 0, none⟩) xs := fun _ =>
  ⟨g, 0, rfl, fun k hk => by
    have := World.ownsRow.cellAt (g := g) h k (by simpa using hk)
    rw [Nat.zero_add, this]
    simp [hk, bv]⟩
theorem OwnB.keep (h : OwnB w base g cap E xs) (e : w'.heap[g]? = w.heap[g]?) : OwnB w' base g cap E xs := by
  obtain ⟨hb, hn, hm, cur, hh, hs, ht⟩ := h.parts
  exact ⟨by simp, .inr ⟨g, cap, cur, rfl, hb, e.trans hh, hn, hm, by simpa using hs, by simpa using ht⟩⟩
theorem OwnB.below {B : Nat} (h : OwnB w base g cap E xs) (hb : Below B w w') (hg : g < B) : OwnB w' base g cap E xs := h.keep (hb.block g hg)
theorem OwnB.alloc (h : OwnB w base g cap E xs) (o : Obj) : OwnB (w.alloc o) base g cap E xs := h.keep (Below.heap_alloc w o g h.lt)
theorem OwnB.new (w : World) (E : TypeId) (xs : List UInt8) (base : Nat) (hb : base ≤ w.heap.size) (hl : xs.length ≤ maxLen) : OwnB (w.alloc (.cells (xs.map bv).toArray E)) base w.heap.size xs.length E xs :=
  ⟨by simp, .inr ⟨w.heap.size, xs.length, _, rfl, hb, heap_alloc_new w _, Nat.le_refl _, hl, by simp, by simp [List.take_of_length_le]⟩⟩

theorem OwnB.cellAt (h : OwnB w base g cap E xs) (j : Nat) (hj : j < xs.length) : w.cell? ⟨g, j, none⟩ = some (.int .u8 ((xs.getD j 0).toNat : Int)) := by
  have := World.ownsRow.cellAt (g := g) h j (by simpa using hj)
  rw [this]
  simp [hj, bv]
theorem OwnB.frozenAt (h : OwnB w base g cap E xs) (j : Nat) : w.frozen? ⟨g, j, none⟩ = false := World.ownsRow.frozenAt (g := g) h j
theorem OwnB.stored (h : OwnB w base g cap E xs) (j : Nat) (_hj : j < xs.length) (c : UInt8) : OwnB (w.setCell ⟨g, j, none⟩ (.int .u8 (c.toNat : Int))) base g cap E (xs.set j c) := by
  obtain ⟨hb, hn, hm, cur, hh, hs, ht⟩ := h.parts
  have hh2 := heap_setCell_same w g j cur E (.int .u8 (c.toNat : Int)) hh
  refine ⟨by simp, .inr ⟨g, cap, _, by simp, hb, hh2, by simpa using hn, hm, by simpa using hs, ?_⟩⟩
  simp only [List.length_set, Nat.mul_one, Array.toList_setIfInBounds]
  rw [List.take_set, ht, List.map_set]
  rfl
theorem OwnB.drew (h : OwnB w base g cap E xs) : OwnB w.drew base g cap E xs := h

theorem byteV_cells {A : Option Addr} (h : BytesAt w A ys) (hy : ys ≠ []) : ∃ ad, A = some ad ∧ ∀ j u, (ys.map bv)[j]? = some u → w.cell? (ad.add j) = some u := by
  obtain ⟨b, off, ha, hc⟩ := h hy
  refine ⟨⟨b, off, none⟩, ha, fun j u hu => ?_⟩
  have hj : j < ys.length := by
    rcases Nat.lt_or_ge j ys.length with h | h
    · exact h
    · simp [List.getElem?_eq_none h] at hu
  have hadd : (⟨b, off, none⟩ : Addr).add j = ⟨b, off + j, none⟩ := by unfold Addr.add; split <;> simp_all
  rw [hadd, hc j hj]
  simpa [List.getElem?_eq_getElem hj, bv] using hu

theorem _root_.Go.Proofs.YtocddhokjhfaaaaDoor.BytesAt.take {A : Option Addr} (h : BytesAt w A xs) (n : Nat) : BytesAt w A (xs.take n) := fun hne => by
  obtain ⟨b, off, ha, hc⟩ := h (by intro h0; subst h0; simp at hne)
  refine ⟨b, off, ha, fun k hk => ?_⟩
  have hk' : k < xs.length := by simp at hk; omega
  rw [hc k hk']
  simp

/-- Behind a cut at k: nothing is left, or the row from there on. -/
theorem _root_.Go.Proofs.YtocddhokjhfaaaaDoor.BytesAt.cut {A : Option Addr} (h : BytesAt w A xs) (k : Nat) (A' : Option Addr) (hA : k < xs.length → A' = A.map (·.add k)) : BytesAt w A' (xs.drop k) := fun hne => by
  have hk0 : k < xs.length := by
    rcases Nat.lt_or_ge k xs.length with h | h
    · exact h
    · exact absurd (List.drop_eq_nil_of_le h) hne
  obtain ⟨b, off, ha, hc⟩ := h (by intro h0; subst h0; simp at hk0)
  have hadd : (⟨b, off, none⟩ : Addr).add k = ⟨b, off + k, none⟩ := by unfold Addr.add; split <;> simp_all
  refine ⟨b, off + k, by rw [hA hk0, ha, Option.map_some, hadd], fun i hi => ?_⟩
  have hi' : k + i < xs.length := by simp at hi; omega
  rw [Nat.add_assoc, hc (k + i) hi']
  simp

/-- The address behind a cut of an own row, as the walk writes it. -/
theorem cut_addr {g k n c : Nat} (hk : k < n) (hn : n ≤ c) : (if c = k then some (⟨g, 0, none⟩ : Addr) else some ⟨g, k, none⟩) = (some (⟨g, 0, none⟩ : Addr)).map (·.add k) := by
  rw [if_neg (by omega), Option.map_some]
  congr 1
  unfold Addr.add
  split
  · simp_all
  · simp

variable {P : Program}

theorem run_append_bytes (t ty : TypeId) (ht : P.underlying t = some (.slice E)) (hi : (P.info? E).map (fun i => (i.zero, i.size, i.bytes)) = some (some (.int .u8 0), 1, 1))
    (hown : OwnB w base g cap E xs) (A : Option Addr) (c : Nat) (hA : BytesAt w A ys) (hl : xs.length + ys.length ≤ 140737488355328) (hbase : base ≤ w.heap.size) :
    ∃ g' cap' w', (Builtin.append_ #[t, t] ty #[.slice (some ⟨g, 0, none⟩) xs.length cap, .slice A ys.length c]).run P w = .ok (.slice (some ⟨g', 0, none⟩) (xs ++ ys).length cap') w' ∧
      OwnB w' base g' cap' E (xs ++ ys) ∧ w.grownBy w' (some g) ∧ (g' = g ∨ g' = w.heap.size) := by
  obtain ⟨i, hi0, hz, hs, hb⟩ := info_parts hi
  by_cases hy : ys = []
  · subst hy
    refine ⟨g, cap, w, ?_, by simpa using hown, World.grownBy.refl w _, .inl rfl⟩
    obtain ⟨_, hn, _⟩ := hown.parts
    cases A <;> simp [Builtin.append_, run_underlying ht, sizeOf, typeInfo, hi0, Builtin.lenOf, Builtin.firstCells, hn, storeCells, loadCells, loadCellsFrom]
  · obtain ⟨ad, rfl, hc⟩ := byteV_cells hA hy
    obtain ⟨v', w', hr, h2, h3, h4, h5⟩ := run_append_own_at (P := P) w base t ty E i _ 1 1 ht hi0 hz hs hb rfl (by omega) (.slice (some ⟨g, 0, none⟩) xs.length cap) xs.length (xs.map bv) hown
      ad ys.length c (ys.map bv) (by simp) hc (bv_one ys) (by unfold maxLen; omega) (by omega) hbase
    have hpos : 0 < ys.length := List.length_pos_iff.2 hy
    obtain ⟨g', cap', hv⟩ : ∃ g' cap', v' = .slice (some ⟨g', 0, none⟩) (xs.length + ys.length) cap' := by
      rcases h2.2 with ⟨_, h0⟩ | ⟨g', cap', _, hv, _⟩
      · omega
      · exact ⟨g', cap', hv⟩
    subst hv
    refine ⟨g', cap', w', by rw [hr, List.length_append], ?_, h3, ?_⟩
    · unfold OwnB
      rw [List.length_append, List.map_append]
      exact h2
    · simpa [Value.ownBlock] using h5

theorem wpList_append_bytes {ops : Array Oper} {rest : List Oper} {o : Oper} {a : Act} {Q : Exit → Act → World → Prop} (hgd : o.guard = none) (s x : Operand) (t : TypeId)
    (ho : o.op = .call { callee := .builtin .append, args := #[s, x], argTypes := #[t, t] }) (ht : P.underlying t = some (.slice E)) (hi : (P.info? E).map (fun i => (i.zero, i.size, i.bytes)) = some (some (.int .u8 0), 1, 1))
    (hs : a.eval s = .slice (some ⟨g, 0, none⟩) xs.length cap) (hown : OwnB w base g cap E xs) (A : Option Addr) (c : Nat) (hx : a.eval x = .slice A ys.length c) (hA : BytesAt w A ys)
    (hl : xs.length + ys.length ≤ 140737488355328) (hbase : base ≤ w.heap.size)
    (h : ∀ g' cap' w', OwnB w' base g' cap' E (xs ++ ys) → w.grownBy w' (some g) → (g' = g ∨ g' = w.heap.size) → wpList P ops Q rest (a.put o.dst (.slice (some ⟨g', 0, none⟩) (xs ++ ys).length cap')) w') : wpList P ops Q (o :: rest) a w :=
  wpList_plain hgd fun _ hK => by
    obtain ⟨g', cap', w', hr, h2, h3, h4⟩ := run_append_bytes (P := P) t o.type ht hi hown A c hA hl hbase
    unfold Oper.wp execOp
    simp only [ho, resolve, invoke, builtin, Sem.run_bind, Sem.run_pure, Result.andThen_ok, List.map_toArray, List.map_cons, List.map_nil, hs, hx, hr]
    exact hK _ _ (h g' cap' w' h2 h3 h4)

/-- Bytes as a text. -/
theorem run_text (src dst : TypeId) (hs : P.underlying src = some (.slice E)) (he : P.underlying E = some (.int .u8)) (hd : P.underlying dst = some .string) (A : Option Addr) (c : Nat) (hA : BytesAt w A xs) :
    (convert src dst (.slice A xs.length c)).run P w = .ok (.string ⟨xs.toArray⟩) w := by
  by_cases hx : xs = []
  · subst hx
    cases A with
    | none => exact run_convert_bytes_nil (P := P) w src E hs he 0 c dst hd
    | some ad =>
      rw [List.length_nil, run_convert_bytes_string w src dst E _ 0 c hs he hd]
      simp [Conv.bytesToString, loadCells, loadCellsFrom]
      rfl
  · obtain ⟨b, off, rfl, hc⟩ := hA hx
    have := run_convert_bytes_arg (P := P) w src E hs he b off xs.length c (xs.map fun u => (u.toNat : Int)) (by simp) (fun i hi => by
      rw [hc i hi]; simp [List.getElem?_eq_getElem hi]) dst hd
    rw [this]
    unfold strOfNums
    rw [List.map_map]
    congr 3
    have : (fun n : Int => UInt8.ofNat n.toNat) ∘ (fun u : UInt8 => (u.toNat : Int)) = id := by
      funext u
      simp
    rw [this, List.map_id]
end
end Go.Proofs.YtocddhokjhfaaaaDoor

namespace Go.Proofs.YtocddhokjhfaaaaDoor
open Go.RowKit
section
variable {P : Program} {w w' : World} {E : TypeId}

theorem run_append_nil (t ty : TypeId) (ht : P.underlying t = some (.slice E)) (hi : (P.info? E).map (fun i => (i.zero, i.size, i.bytes)) = some (some (.int .u8 0), 1, 1))
    (A : Option Addr) (c n : Nat) (ys : List UInt8) (hn : ys.length = n) (hA : BytesAt w A ys) (hl : n ≤ 140737488355328) :
    ∃ A' c' w', (Builtin.append_ #[t, t] ty #[.slice none 0 0, .slice A n c]).run P w = .ok (.slice A' n c') w' ∧ BytesAt w' A' ys ∧ n ≤ c' ∧ w.grownBy w' none ∧ (∀ a, A' = some a → w.heap.size ≤ a.block) := by
  obtain ⟨i, hi0, hz, hs, hb⟩ := info_parts hi
  subst hn
  by_cases hy : ys = []
  · subst hy
    refine ⟨none, 0, w, ?_, fun h => absurd rfl h, Nat.le_refl _, World.grownBy.refl w _, fun a h => by cases h⟩
    cases A <;> simp [Builtin.append_, run_underlying ht, sizeOf, typeInfo, hi0, Builtin.lenOf, Builtin.firstCells, storeCells, loadCells, loadCellsFrom]
  · obtain ⟨ad, rfl, hc⟩ := byteV_cells hA hy
    obtain ⟨v', w', hr, h2, h3, h4, h5⟩ := run_append_own_at (P := P) w w.heap.size t ty E i _ 1 1 ht hi0 hz hs hb rfl (by omega) (.slice none 0 0) 0 [] (World.ownsRow_nil w _ E 1)
      ad ys.length c (ys.map bv) (by simp) hc (bv_one ys) (by unfold maxLen; omega) (by omega) (Nat.le_refl _)
    have hpos : 0 < ys.length := List.length_pos_iff.2 hy
    rw [Nat.zero_add, List.nil_append] at h2
    rcases h2.2 with ⟨_, h0⟩ | ⟨g', cap', cur, hv, hb', hh, hnc, hm, hsz, ht'⟩
    · omega
    · subst hv
      have hown : OwnB w' w.heap.size g' cap' E ys := by unfold OwnB; exact h2
      exact ⟨_, cap', w', hr, hown.bytes, hnc, h3, fun a h => by cases h; exact hb'⟩

theorem step_append_nil {ops : Array Oper} {o : Oper} {a : Act} {K : Act → World → Prop} {Q : Exit → Act → World → Prop} {F : Prop} (hgd : o.guard = none) (s x : Operand) (t : TypeId)
    (ho : o.op = .call { callee := .builtin .append, args := #[s, x], argTypes := #[t, t] })
    (ht : P.underlying t = some (.slice E)) (hi : (P.info? E).map (fun i => (i.zero, i.size, i.bytes)) = some (some (.int .u8 0), 1, 1))
    (hs : a.eval s = .slice none 0 0) (A : Option Addr) (c n : Nat) (ys : List UInt8) (hx : a.eval x = .slice A n c) (hn : ys.length = n) (hA : BytesAt w A ys) (hl : n ≤ 140737488355328)
    (h : ∀ A' c' w', BytesAt w' A' ys → n ≤ c' → w.grownBy w' none → (∀ a, A' = some a → w.heap.size ≤ a.block) → K (a.put o.dst (.slice A' n c')) w') :
    if Region.wanted o (yielded ops a.tmps) = true then Oper.wp P o a w K Q else F := by
  have hw : Region.wanted o (yielded ops a.tmps) = true := by simp [Region.wanted, hgd]
  rw [if_pos hw]
  obtain ⟨A', c', w', hr, h2, h3, h4, h5⟩ := run_append_nil (P := P) (w := w) t o.type ht hi A c n ys hn hA hl
  unfold Oper.wp execOp
  simp only [ho, resolve, invoke, builtin, Sem.run_bind, Sem.run_pure, Result.andThen_ok, List.map_toArray, List.map_cons, List.map_nil, hs, hx, hr]
  exact h A' c' w' h2 h3 h4 h5

theorem grown_below (h : w.grownBy w' none) : Below w.heap.size w w' := ⟨h.os, h.tape, h.output, h.size, fun k hk => h.block k hk (by simp)⟩
theorem below_grown {B : Nat} {w0 : World} (hB : B ≤ w0.heap.size) (hb : Below B w0 w) (h : w.grownBy w' none) : Below B w0 w' :=
  hb.trans ((grown_below h).mono (Nat.le_trans hB hb.size))

theorem below_alloc {B : Nat} {w0 : World} (hB : B ≤ w0.heap.size) (hb : Below B w0 w) (o : Obj) : Below B w0 (w.alloc o) := hb.alloc (Nat.le_trans hB hb.size) o

/-- A block of four cells, by its cells. -/
theorem four_cells {g : Nat} {a b c d : Value} {t : TypeId} (h : w.heap[g]? = some (.cells #[a, b, c, d] t (0, 0))) :
    w.cell? ⟨g, 0, none⟩ = some a ∧ w.cell? ⟨g, 1, none⟩ = some b ∧ w.cell? ⟨g, 2, none⟩ = some c ∧ w.cell? ⟨g, 3, none⟩ = some d ∧
    w.frozen? ⟨g, 0, none⟩ = false ∧ w.frozen? ⟨g, 1, none⟩ = false ∧ w.frozen? ⟨g, 2, none⟩ = false ∧ w.frozen? ⟨g, 3, none⟩ = false := by
  simp [World.cell?, World.frozen?, h]

theorem set_four {g : Nat} {a b c d : Value} {t : TypeId} (h : w.heap[g]? = some (.cells #[a, b, c, d] t (0, 0))) (a' b' c' d' : Value) :
    ((((w.setCell ⟨g, 0, none⟩ a').setCell ⟨g, 1, none⟩ b').setCell ⟨g, 2, none⟩ c').setCell ⟨g, 3, none⟩ d').heap[g]? = some (.cells #[a', b', c', d'] t (0, 0)) := by
  have h1 := heap_setCell_same w g 0 _ t a' h
  have h2 := heap_setCell_same _ g 1 _ t b' h1
  have h3 := heap_setCell_same _ g 2 _ t c' h2
  have h4 := heap_setCell_same _ g 3 _ t d' h3
  rw [h4]
  rfl

theorem below_set4 {B g : Nat} {w0 : World} (hb : Below B w0 w) (hg : B ≤ g) (a' b' c' d' : Value) :
    Below B w0 ((((w.setCell ⟨g, 0, none⟩ a').setCell ⟨g, 1, none⟩ b').setCell ⟨g, 2, none⟩ c').setCell ⟨g, 3, none⟩ d') :=
  (((hb.setCell hg a').setCell hg b').setCell hg c').setCell hg d'

theorem bytes_set4 {g : Nat} {A : Option Addr} {ys : List UInt8} (h : BytesAt w A ys) (hg : ∀ a, A = some a → g < a.block) (a' b' c' d' : Value) :
    BytesAt ((((w.setCell ⟨g, 0, none⟩ a').setCell ⟨g, 1, none⟩ b').setCell ⟨g, 2, none⟩ c').setCell ⟨g, 3, none⟩ d') A ys := fun hne => by
  obtain ⟨b, o, rfl, hc⟩ := h hne
  have hb : b ≠ g := by have := hg _ rfl; simp at this; omega
  refine ⟨b, o, rfl, fun k hk => ?_⟩
  rw [← hc k hk]
  refine World.cell?_of_block ?_
  rw [heap_setCell_other _ _ _ _ hb, heap_setCell_other _ _ _ _ hb, heap_setCell_other _ _ _ _ hb, heap_setCell_other _ _ _ _ hb]

theorem bytes_setRow {g : Nat} {A : Option Addr} {ys : List UInt8} (h : BytesAt w A ys) (hg : ∀ a, A = some a → g < a.block) (cs : Array Value) : BytesAt (w.setRow g cs) A ys := fun hne => by
  obtain ⟨b, o, rfl, hc⟩ := h hne
  have hb : b ≠ g := by have := hg _ rfl; simp at this; omega
  refine ⟨b, o, rfl, fun k hk => ?_⟩
  rw [← hc k hk]
  exact cell_setRow_other _ _ _ _ hb

/-- What such a region keeps: all that stood below B, and one cell of it. -/
def Kept (B : Nat) (w0 : World) (a : Addr) (v : Value) (w : World) : Prop := Below B w0 w ∧ w.cell? a = some v
section
variable {B : Nat} {w0 : World} {a : Addr} {v : Value}
theorem kept_new (ha : a.block < B) (hc : w0.cell? a = some v) (hb : Below B w0 w) : Below B w0 w ∧ w.cell? a = some v := ⟨hb, (World.cell?_of_block (hb.block _ ha)).trans hc⟩
end
end
end Go.Proofs.YtocddhokjhfaaaaDoor

namespace Go.Proofs.YtocddhokjhfaaaaDoor
open Go.RowKit

/-- The slice v, from block base on, is these bytes and is owned. -/
def OwnS (w : World) (base : Nat) (v : Value) (E : TypeId) (xs : List UInt8) : Prop := w.ownsRow base E 1 v xs.length (xs.map bv)

section
variable {w w' : World} {base : Nat} {v : Value} {E : TypeId} {xs ys : List UInt8}

theorem OwnS.nil (w : World) (base : Nat) (E : TypeId) : OwnS w base (.slice none 0 0) E [] := World.ownsRow_nil w base E 1

theorem OwnB.ownS {g cap : Nat} (h : OwnB w base g cap E xs) : OwnS w base (.slice (some ⟨g, 0, none⟩) xs.length cap) E xs := h

theorem OwnS.new (w : World) (E : TypeId) (xs : List UInt8) (base : Nat) (hb : base ≤ w.heap.size) (hl : xs.length ≤ maxLen) : OwnS (w.alloc (.cells (xs.map bv).toArray E)) base (.slice (some ⟨w.heap.size, 0, none⟩) xs.length xs.length) E xs :=
  OwnB.new w E xs base hb hl

theorem OwnS.cases (h : OwnS w base v E xs) : (v = .slice none 0 0 ∧ xs = []) ∨ ∃ g cap, v = .slice (some ⟨g, 0, none⟩) xs.length cap ∧ OwnB w base g cap E xs := by
  rcases h.2 with ⟨h0, h1⟩ | ⟨g', cap', cur, hv, hb, hh, hn, hm, hs, ht⟩
  · exact .inl ⟨h0, List.eq_nil_of_length_eq_zero h1⟩
  · refine .inr ⟨g', cap', hv, ?_⟩
    unfold OwnB
    rw [← hv]
    exact h

theorem OwnS.slice (h : OwnS w base v E xs) : ∃ A c, v = .slice A xs.length c ∧ BytesAt w A xs ∧ xs.length ≤ c ∧ c ≤ maxLen ∧ (∀ a, A = some a → a.off = 0 ∧ a.spot = none) := by
  rcases h.cases with ⟨rfl, rfl⟩ | ⟨g, cap, rfl, ho⟩
  · exact ⟨none, 0, rfl, fun h => absurd rfl h, Nat.le_refl _, Nat.zero_le _, fun a h => by cases h⟩
  · obtain ⟨_, h1, h2, _⟩ := ho.parts
    exact ⟨_, cap, rfl, ho.bytes, h1, h2, fun a h => by cases h; exact ⟨rfl, rfl⟩⟩

theorem OwnS.bytes {A : Option Addr} {n c : Nat} (h : OwnS w base (.slice A n c) E xs) : BytesAt w A xs := by
  obtain ⟨A2, c2, he, hby, _⟩ := h.slice
  injection he with h1
  rw [h1]
  exact hby
theorem OwnS.caps {A : Option Addr} {n c : Nat} (h : OwnS w base (.slice A n c) E xs) : xs.length = n ∧ n ≤ c ∧ c ≤ maxLen ∧ (A = none → n = 0 ∧ c = 0) := by
  rcases h.cases with ⟨h1, rfl⟩ | ⟨g, cap, h1, ho⟩
  · injection h1 with h1 h2 h3
    subst h1 h2 h3
    exact ⟨rfl, Nat.le_refl _, Nat.zero_le _, fun _ => ⟨rfl, rfl⟩⟩
  · injection h1 with h1 h2 h3
    subst h1 h2 h3
    exact ⟨rfl, ho.parts.2.1, ho.parts.2.2.1, fun h => by cases h⟩

theorem OwnS.block (h : OwnS w base v E xs) : ∀ g, v.ownBlock = some g → base ≤ g ∧ g < w.heap.size := by
  intro g hg
  rcases h.cases with ⟨rfl, rfl⟩ | ⟨g', cap, rfl, ho⟩
  · simp [Value.ownBlock] at hg
  · simp [Value.ownBlock] at hg
    subst hg
    exact ⟨ho.parts.1, ho.lt⟩

theorem OwnS.keep (h : OwnS w base v E xs) (e : ∀ g, v.ownBlock = some g → w'.heap[g]? = w.heap[g]?) : OwnS w' base v E xs := by
  rcases h.cases with ⟨rfl, rfl⟩ | ⟨g', cap, rfl, ho⟩
  · exact OwnS.nil w' base E
  · exact (ho.keep (e g' (by simp [Value.ownBlock]))).ownS
theorem OwnS.below (h : OwnS w base v E xs) (hb : Below w.heap.size w w') : OwnS w' base v E xs := h.keep fun g hg => hb.block g (h.block g hg).2
theorem OwnS.belowB (h : OwnS w base v E xs) {B : Nat} (hB : w.heap.size ≤ B) (hb : Below B w w') : OwnS w' base v E xs := h.keep fun g hg => hb.block g (Nat.lt_of_lt_of_le (h.block g hg).2 hB)
theorem OwnS.alloc (h : OwnS w base v E xs) (o : Obj) : OwnS (w.alloc o) base v E xs := h.keep fun g hg => Below.heap_alloc w o g (h.block g hg).2
theorem OwnS.drew (h : OwnS w base v E xs) : OwnS w.drew base v E xs := h
theorem OwnS.mono {base' : Nat} (h : OwnS w base v E xs) (hb : base' ≤ base) : OwnS w base' v E xs := by
  rcases h.cases with ⟨rfl, rfl⟩ | ⟨g', cap, rfl, ho⟩
  · exact OwnS.nil w base' E
  · obtain ⟨h1, h2, h3, cur, h4, h5, h6⟩ := ho.parts
    exact ⟨by simp, .inr ⟨g', cap, cur, rfl, Nat.le_trans hb h1, h4, h2, h3, by simpa using h5, by simpa using h6⟩⟩
/-- Another row is grown: this one stays. -/
theorem OwnS.beside (h : OwnS w base v E xs) {r : Option Nat} (hg : w.grownBy w' r) (hne : ∀ g, v.ownBlock = some g → r ≠ some g) : OwnS w' base v E xs :=
  h.keep fun g hg2 => hg.block g (h.block g hg2).2 (fun e => hne g hg2 e.symm)

theorem OwnS.belowGrown (h : OwnS w base v E xs) {w0 : World} {B : Nat} (hB : B ≤ base) (hw : B ≤ w.heap.size) (hb : Below B w0 w) (hg : w.grownBy w' v.ownBlock) : Below B w0 w' :=
  hb.grown hg hw (fun k hk => Nat.le_trans hB (h.block k hk).1)

theorem bytesAt_one (w : World) (z : Int) (c : UInt8) (t : TypeId) (hz : z = (c.toNat : Int)) : BytesAt (w.alloc (.cells #[.int .u8 z] t)) (some ⟨w.heap.size, 0, none⟩) [c] := fun _ =>
  ⟨w.heap.size, 0, rfl, fun k hk => by
    have : k = 0 := by simpa using hk
    subst this
    rw [World.cell?_alloc_new, hz]
    rfl⟩

variable {P : Program}
theorem run_append_s (t ty : TypeId) (ht : P.underlying t = some (.slice E)) (hi : (P.info? E).map (fun i => (i.zero, i.size, i.bytes)) = some (some (.int .u8 0), 1, 1))
    (hown : OwnS w base v E xs) (A : Option Addr) (c n : Nat) (hn : ys.length = n) (hA : BytesAt w A ys) (hl : xs.length + n ≤ 140737488355328) (hbase : base ≤ w.heap.size) :
    ∃ A' c' w', (Builtin.append_ #[t, t] ty #[v, .slice A n c]).run P w = .ok (.slice A' (xs ++ ys).length c') w' ∧
      OwnS w' base (.slice A' (xs ++ ys).length c') E (xs ++ ys) ∧ w.grownBy w' v.ownBlock := by
  obtain ⟨i, hi0, hz, hs, hb⟩ := info_parts hi
  subst hn
  by_cases hy : ys = []
  · subst hy
    rcases hown.cases with ⟨rfl, rfl⟩ | ⟨g, cap, rfl, ho⟩
    · refine ⟨none, 0, w, ?_, OwnS.nil w base E, World.grownBy.refl w _⟩
      cases A <;> simp [Builtin.append_, run_underlying ht, sizeOf, typeInfo, hi0, Builtin.lenOf, Builtin.firstCells, storeCells, loadCells, loadCellsFrom]
    · obtain ⟨_, hn, _⟩ := ho.parts
      refine ⟨some ⟨g, 0, none⟩, cap, w, ?_, by simpa using hown, World.grownBy.refl w _⟩
      cases A <;> simp [Builtin.append_, run_underlying ht, sizeOf, typeInfo, hi0, Builtin.lenOf, Builtin.firstCells, hn, storeCells, loadCells, loadCellsFrom]
  · obtain ⟨ad, rfl, hc⟩ := byteV_cells hA hy
    obtain ⟨v', w', hr, h2, h3, _, _⟩ := run_append_own_at (P := P) w base t ty E i _ 1 1 ht hi0 hz hs hb rfl (by omega) v xs.length (xs.map bv) hown
      ad ys.length c (ys.map bv) (by simp) hc (bv_one ys) (by unfold maxLen; omega) (by omega) hbase
    have h2' : OwnS w' base v' E (xs ++ ys) := by
      unfold OwnS
      rw [List.length_append, List.map_append]
      exact h2
    obtain ⟨A', c', rfl, _⟩ := h2'.slice
    exact ⟨A', c', w', hr, h2', h3⟩

theorem wpList_append_s {ops : Array Oper} {rest : List Oper} {o : Oper} {a : Act} {Q : Exit → Act → World → Prop} (hgd : o.guard = none) (s x : Operand) (t : TypeId)
    (ho : o.op = .call { callee := .builtin .append, args := #[s, x], argTypes := #[t, t] }) (ht : P.underlying t = some (.slice E)) (hi : (P.info? E).map (fun i => (i.zero, i.size, i.bytes)) = some (some (.int .u8 0), 1, 1))
    (hs : a.eval s = v) (hown : OwnS w base v E xs) (A : Option Addr) (c n : Nat) (ys : List UInt8) (hx : a.eval x = .slice A n c) (hn : ys.length = n) (hA : BytesAt w A ys)
    (hl : xs.length + n ≤ 140737488355328) (hbase : base ≤ w.heap.size)
    (h : ∀ A' c' w', OwnS w' base (.slice A' (xs ++ ys).length c') E (xs ++ ys) → w.grownBy w' v.ownBlock → wpList P ops Q rest (a.put o.dst (.slice A' (xs ++ ys).length c')) w') : wpList P ops Q (o :: rest) a w :=
  wpList_plain hgd fun _ hK => by
    obtain ⟨A', c', w', hr, h2, h3⟩ := run_append_s (P := P) t o.type ht hi hown A c n hn hA hl hbase
    unfold Oper.wp execOp
    simp only [ho, resolve, invoke, builtin, Sem.run_bind, Sem.run_pure, Result.andThen_ok, List.map_toArray, List.map_cons, List.map_nil, hs, hx, hr]
    exact hK _ _ (h A' c' w' h2 h3)

/-- The same, the bytes behind it under a name. -/
theorem wpList_append_z {ops : Array Oper} {rest : List Oper} {o : Oper} {a : Act} {Q : Exit → Act → World → Prop} (hgd : o.guard = none) (s x : Operand) (t : TypeId)
    (ho : o.op = .call { callee := .builtin .append, args := #[s, x], argTypes := #[t, t] }) (ht : P.underlying t = some (.slice E)) (hi : (P.info? E).map (fun i => (i.zero, i.size, i.bytes)) = some (some (.int .u8 0), 1, 1))
    (hs : a.eval s = v) (hown : OwnS w base v E xs) (A : Option Addr) (c n : Nat) (ys zs : List UInt8) (hx : a.eval x = .slice A n c) (hn : ys.length = n) (hA : BytesAt w A ys) (hz : xs ++ ys = zs)
    (hl : xs.length + n ≤ 140737488355328) (hbase : base ≤ w.heap.size)
    (h : ∀ A' c' w', OwnS w' base (.slice A' zs.length c') E zs → w.grownBy w' v.ownBlock → wpList P ops Q rest (a.put o.dst (.slice A' zs.length c')) w') : wpList P ops Q (o :: rest) a w := by
  subst hz
  exact wpList_append_s hgd s x t ho ht hi hs hown A c n ys hx hn hA hl hbase h

/-- The same, as a step of a region that draws its order. -/
theorem step_append_s {ops : Array Oper} {o : Oper} {a : Act} {K : Act → World → Prop} {Q : Exit → Act → World → Prop} {F : Prop} (hgd : o.guard = none) (s x : Operand) (t : TypeId)
    (ho : o.op = .call { callee := .builtin .append, args := #[s, x], argTypes := #[t, t] }) (ht : P.underlying t = some (.slice E)) (hi : (P.info? E).map (fun i => (i.zero, i.size, i.bytes)) = some (some (.int .u8 0), 1, 1))
    (hs : a.eval s = v) (hown : OwnS w base v E xs) (A : Option Addr) (c n : Nat) (ys : List UInt8) (hx : a.eval x = .slice A n c) (hn : ys.length = n) (hA : BytesAt w A ys)
    (hl : xs.length + n ≤ 140737488355328) (hbase : base ≤ w.heap.size)
    (h : ∀ A' c' w', OwnS w' base (.slice A' (xs ++ ys).length c') E (xs ++ ys) → w.grownBy w' v.ownBlock → K (a.put o.dst (.slice A' (xs ++ ys).length c')) w') :
    if Region.wanted o (yielded ops a.tmps) = true then Oper.wp P o a w K Q else F := by
  have hw : Region.wanted o (yielded ops a.tmps) = true := by simp [Region.wanted, hgd]
  rw [if_pos hw]
  obtain ⟨A', c', w', hr, h2, h3⟩ := run_append_s (P := P) t o.type ht hi hown A c n hn hA hl hbase
  unfold Oper.wp execOp
  simp only [ho, resolve, invoke, builtin, Sem.run_bind, Sem.run_pure, Result.andThen_ok, List.map_toArray, List.map_cons, List.map_nil, hs, hx, hr]
  exact h A' c' w' h2 h3
end
end Go.Proofs.YtocddhokjhfaaaaDoor

namespace VarM

/-- A number's bytes. -/
def vput (n : Nat) : List UInt8 := if n < 128 then [UInt8.ofNat n] else UInt8.ofNat (n % 128 + 128) :: vput (n / 128)
termination_by n
decreasing_by omega

theorem vput_low {n : Nat} (h : n < 128) : vput n = [UInt8.ofNat n] := by rw [vput, if_pos h]
theorem vput_high {n : Nat} (h : ¬ n < 128) : vput n = UInt8.ofNat (n % 128 + 128) :: vput (n / 128) := by rw [vput, if_neg h]

theorem vput_len_pos (n : Nat) : 1 ≤ (vput n).length := by
  by_cases h : n < 128
  · rw [vput_low h]; simp
  · rw [vput_high h]; simp

theorem vput_len_le (k : Nat) : ∀ n, n < 128 ^ (k + 1) → (vput n).length ≤ k + 1 := by
  induction k with
  | zero => intro n h; rw [vput_low (by omega)]; simp
  | succ k ih =>
    intro n h
    by_cases h1 : n < 128
    · rw [vput_low h1]; simp
    · rw [vput_high h1, List.length_cons]
      have := ih (n / 128) (by rw [Nat.pow_succ] at h; omega)
      omega
theorem vput_len10 {n : Nat} (h : n < 18446744073709551616) : (vput n).length ≤ 10 := vput_len_le 9 n (by omega)

/-- What is told of bytes, from place i on, with n so far: the number, its length, the error. -/
def vget : List UInt8 → Nat → Nat → Nat × Nat × Nat
  | [], _, _ => (0, 0, 4)
  | c :: cs, i, n =>
    if i = 9 ∧ 1 < c.toNat then (0, 0, 3)
    else if 0 < i ∧ c.toNat = 0 then (0, 0, 3)
    else if c.toNat < 128 then (n + c.toNat % 128 * 2 ^ (7 * i), i + 1, 0)
    else vget cs (i + 1) (n + c.toNat % 128 * 2 ^ (7 * i))

theorem ofNat_toNat {n : Nat} (h : n < 256) : (UInt8.ofNat n).toNat = n := by rw [UInt8.toNat_ofNat']; omega

theorem pow7 (i : Nat) : 2 ^ (7 * (i + 1)) = 2 ^ (7 * i) * 128 := by rw [show 7 * (i + 1) = 7 * i + 7 by omega, Nat.pow_add]

theorem vget_put (rest : List UInt8) : ∀ (m i a : Nat), i ≤ 9 → m * 2 ^ (7 * i) < 18446744073709551616 → (0 < i → m ≠ 0) → vget (vput m ++ rest) i a = (a + m * 2 ^ (7 * i), i + (vput m).length, 0) := by
  intro m
  induction m using Nat.strongRecOn with
  | _ m ih =>
    intro i a hi hm h0
    have h9 : i = 9 → m ≤ 1 := by intro h; subst h; omega
    by_cases h : m < 128
    · rw [vput_low h]
      simp only [List.cons_append, List.nil_append, vget, List.length_cons, List.length_nil]
      rw [ofNat_toNat (by omega), if_neg (by omega), if_neg (by omega), if_pos h, Nat.mod_eq_of_lt h]
    · rw [vput_high h]
      have hi9 : i ≠ 9 := by intro e; have := h9 e; omega
      simp only [List.cons_append, vget, List.length_cons]
      rw [ofNat_toNat (by omega), if_neg (by omega), if_neg (by omega), if_neg (by omega)]
      have e1 : (m % 128 + 128) % 128 = m % 128 := by omega
      have e2 : m % 128 * 2 ^ (7 * i) + m / 128 * 2 ^ (7 * (i + 1)) = m * 2 ^ (7 * i) := by
        rw [pow7, Nat.mul_comm (2 ^ (7 * i)) 128, ← Nat.mul_assoc, ← Nat.add_mul]
        congr 1
        omega
      rw [e1, ih (m / 128) (by omega) (i + 1) _ (by omega) (by omega) (by omega)]
      refine Prod.ext ?_ (Prod.ext ?_ rfl)
      · simp only; omega
      · simp only; omega

/-- A number's bytes without the last one are too few. -/
theorem vget_cut : ∀ (m i a : Nat), i ≤ 9 → m * 2 ^ (7 * i) < 18446744073709551616 → vget ((vput m).take ((vput m).length - 1)) i a = (0, 0, 4) := by
  intro m
  induction m using Nat.strongRecOn with
  | _ m ih =>
    intro i a hi hm
    by_cases h : m < 128
    · rw [vput_low h]
      rfl
    · have hi9 : i ≠ 9 := by intro e; subst e; omega
      have hp := vput_len_pos (m / 128)
      rw [vput_high h, List.length_cons, show (vput (m / 128)).length + 1 - 1 = ((vput (m / 128)).length - 1) + 1 by omega, List.take_succ_cons]
      simp only [vget]
      have e2 : m % 128 * 2 ^ (7 * i) + m / 128 * 2 ^ (7 * (i + 1)) = m * 2 ^ (7 * i) := by
        rw [pow7, Nat.mul_comm (2 ^ (7 * i)) 128, ← Nat.mul_assoc, ← Nat.add_mul]
        congr 1
        omega
      rw [ofNat_toNat (by omega), if_neg (by omega), if_neg (by omega), if_neg (by omega), ih (m / 128) (by omega) (i + 1) _ (by omega) (by omega)]

theorem vget_bound : ∀ (xs : List UInt8) (i a : Nat), i ≤ 9 → a < 2 ^ (7 * i) → (vget xs i a).1 < 18446744073709551616 ∧ (vget xs i a).2.1 ≤ i + xs.length ∧ (vget xs i a).2.2 ≤ 4 := by
  intro xs
  induction xs with
  | nil => intro i a _ _; simp [vget]
  | cons c cs ih =>
    intro i a hi ha
    have hc := c.toNat_lt
    simp only [vget]
    split
    · simp
    · rename_i h1
      split
      · simp
      · have hlt : a + c.toNat % 128 * 2 ^ (7 * i) < 2 ^ (7 * (i + 1)) := by
          rw [pow7]
          have : c.toNat % 128 * 2 ^ (7 * i) ≤ 127 * 2 ^ (7 * i) := Nat.mul_le_mul_right _ (by omega)
          omega
        split
        · refine ⟨?_, by simp, by simp⟩
          by_cases h9 : i = 9
          · subst h9
            have : c.toNat ≤ 1 := by omega
            have : c.toNat % 128 ≤ 1 := by omega
            simp only
            omega
          · have : 2 ^ (7 * (i + 1)) ≤ 2 ^ 63 := Nat.pow_le_pow_right (by omega) (by omega)
            simp only
            omega
        · have h9 : i ≠ 9 := by intro h; omega
          have := ih (i + 1) _ (by omega) hlt
          simp only [List.length_cons]
          exact ⟨this.1, by omega, this.2.2⟩

/-- A number with a sign as one without. -/
def zig (n : Int) : Nat := if 0 ≤ n then 2 * n.toNat else 2 * (-(n + 1)).toNat + 1
def zag (m : Nat) : Int := if m % 2 = 0 then ((m / 2 : Nat) : Int) else -((m / 2 : Nat) : Int) - 1
theorem zag_zig (n : Int) : zag (zig n) = n := by
  unfold zag zig
  split <;> split <;> omega
theorem zig_zag (m : Nat) : zig (zag m) = m := by
  unfold zag zig
  split <;> split <;> omega
theorem zig_lt {n : Int} (h1 : -9223372036854775808 ≤ n) (h2 : n ≤ 9223372036854775807) : zig n < 18446744073709551616 := by
  unfold zig
  split <;> omega
theorem zag_in {m : Nat} (h : m < 18446744073709551616) : -9223372036854775808 ≤ zag m ∧ zag m ≤ 9223372036854775807 := by
  unfold zag
  split <;> omega
end VarM

namespace Go.Proofs.YtocddhokjhfaaaaDoor
open Go.RowKit VarM
set_option linter.unusedVariables false

theorem infoU8 : (Tryd.prog.info? 5).map (fun i => (i.zero, i.size, i.bytes)) = some (some (.int .u8 0), 1, 1) := by kernel_rfl
theorem ret_eq {u v : Value} (h : u = v) : Ending.returned u = Ending.returned v := by rw [h]
theorem u64_eq {a b : Int} (h : a = b) : Value.int .u64 a = Value.int .u64 b := by rw [h]
theorem i64_eq {a b : Int} (h : a = b) : Value.int .i64 a = Value.int .i64 b := by rw [h]

theorem xor_ones64 (m : Nat) (h : m < 18446744073709551616) : m ^^^ 18446744073709551615 = 18446744073709551615 - m := by
  have h1 : (BitVec.ofNat 64 m ^^^ BitVec.allOnes 64).toNat = (~~~ BitVec.ofNat 64 m).toNat := by rw [BitVec.xor_comm, BitVec.allOnes_xor]
  rw [BitVec.toNat_xor, BitVec.toNat_not, BitVec.toNat_ofNat, Nat.mod_eq_of_lt h] at h1
  exact h1

theorem zig_walk (n : Int) (h1 : -9223372036854775808 ≤ n) (h2 : n ≤ 9223372036854775807) : bits BinOp.xor IntKind.u64 (IntKind.u64.wrap (IntKind.u64.wrap n * 2)) (IntKind.u64.wrap (n / 9223372036854775808)) = (zig n : Int) := by
  simp only [IntKind.wrap_u64]
  by_cases h : 0 ≤ n
  · have e1 : (n % 18446744073709551616 * 2) % 18446744073709551616 = ((2 * n.toNat : Nat) : Int) := by omega
    have e2 : (n / 9223372036854775808) % 18446744073709551616 = ((0 : Nat) : Int) := by omega
    rw [e1, e2, u64_xor_nat _ _ (by omega) (by omega), Nat.xor_zero]
    unfold zig
    rw [if_pos h]
  · have e1 : (n % 18446744073709551616 * 2) % 18446744073709551616 = (((n + 18446744073709551616).toNat * 2 % 18446744073709551616 : Nat) : Int) := by omega
    have e2 : (n / 9223372036854775808) % 18446744073709551616 = ((18446744073709551615 : Nat) : Int) := by omega
    rw [e1, e2, u64_xor_nat _ _ (by omega) (by omega), xor_ones64 _ (by omega)]
    unfold zig
    rw [if_neg h]
    omega

theorem zag_walk (m : Nat) (h : m < 18446744073709551616) : bits BinOp.xor IntKind.i64 ((m : Int) / 2) (wrap64 (-wrap64 (bits BinOp.and IntKind.u64 (m : Int) 1))) = zag m := by
  have e : bits BinOp.and IntKind.u64 (m : Int) ((1 : Nat) : Int) = ((m &&& 1 : Nat) : Int) := u64_and_nat _ _ h (by omega)
  rw [Nat.and_one_is_mod] at e
  rw [show bits BinOp.and IntKind.u64 (m : Int) 1 = ((m % 2 : Nat) : Int) from e]
  have hx : (BitVec.ofInt 64 ((m : Int) / 2)) = BitVec.ofNat 64 (m / 2) := by
    rw [show ((m : Int) / 2) = ((m / 2 : Nat) : Int) from rfl, BitVec.ofInt_natCast]
  show IntKind.i64.wrap ((BitVec.ofInt 64 ((m : Int) / 2) ^^^ BitVec.ofInt 64 _).toNat : Int) = _
  rw [hx]
  rcases (by omega : m % 2 = 0 ∨ m % 2 = 1) with h0 | h0
  · rw [h0]
    have : wrap64 (-wrap64 ((0 : Nat) : Int)) = 0 := by rw [IntWalk.wrap64_in ((0 : Nat) : Int) ⟨by omega, by omega⟩]; exact IntWalk.wrap64_in _ ⟨by omega, by omega⟩
    rw [this]
    have : (BitVec.ofInt 64 0) = 0#64 := rfl
    rw [this, BitVec.xor_zero, BitVec.toNat_ofNat, Nat.mod_eq_of_lt (by omega)]
    unfold zag
    rw [if_pos h0]
    simp only [IntKind.wrap, IntKind.bits, IntKind.signed]
    simp
    omega
  · rw [h0]
    have : wrap64 (-wrap64 ((1 : Nat) : Int)) = -1 := by rw [IntWalk.wrap64_in ((1 : Nat) : Int) ⟨by omega, by omega⟩]; exact IntWalk.wrap64_in _ ⟨by omega, by omega⟩
    rw [this]
    have e3 : (BitVec.ofInt 64 (-1)) = BitVec.allOnes 64 := by decide
    rw [e3, BitVec.xor_comm, BitVec.allOnes_xor, BitVec.toNat_not, BitVec.toNat_ofNat, Nat.mod_eq_of_lt (by omega)]
    unfold zag
    rw [if_neg (by omega)]
    have e4 : ((2 ^ 64 - 1 - m / 2 : Nat) : Int) = -((m / 2 : Nat) : Int) - 1 + 18446744073709551616 := by omega
    rw [e4]
    simp only [IntKind.wrap, IntKind.bits, IntKind.signed]
    simp
    omega

theorem zig_any (n : Int) (h1 : -9223372036854775808 ≤ n) (h2 : n ≤ 9223372036854775807) (w : World) : Calls Tryd.prog 33 #[.int .i64 n] w fun e w' => e = .returned (.int .u64 (zig n)) ∧ w = w' := by
  go_enter Tryd.func33, Tryd.ntmps33
  go_wp2
  go_ret
  exact ⟨ret_eq (u64_eq (zig_walk n h1 h2)), rfl⟩
theorem zag_any (m : Nat) (h1 : m < 18446744073709551616) (w : World) : Calls Tryd.prog 57 #[.int .u64 m] w fun e w' => e = .returned (.int .i64 (zag m)) ∧ w = w' := by
  go_enter Tryd.func57, Tryd.ntmps57
  go_wp2
  go_ret
  exact ⟨ret_eq (i64_eq (zag_walk m h1)), rfl⟩
/-! ### bytes.Clone -/

theorem clone_nil (w : World) : Calls Tryd.prog 48 #[.slice none 0 0] w fun e w' => e = .returned (.slice none 0 0) ∧ w = w' := by
  have hnil : ∀ W, (binOp .eql 24 (.slice none 0 0) (.slice none 0 0)).run Tryd.prog W = .ok (.bool true) W := fun W => Lib.run_eql_slice_nil_nil W _ _ Tryd.underlying24
  go_enter Tryd.func48, Tryd.ntmps48
  go_wp2
  go_ret
  exact ⟨rfl, rfl⟩

theorem clone_some (A : Addr) (n c : Nat) (xs : List UInt8) (w : World) (hn : xs.length = n) (hx : BytesAt w (some A) xs) (hl : n ≤ 140737488355328) :
    Calls Tryd.prog 48 #[.slice (some A) n c] w fun e w' => ∃ A' c', e = .returned (.slice A' n c') ∧ OwnS w' w.heap.size (.slice A' n c') 5 xs ∧ Below w.heap.size w w' := by
  have hb : Below w.heap.size w (w.alloc (.cells #[] 5)) := (Below.refl _ _).alloc (Nat.le_refl _) _
  have hown := OwnS.new w 5 [] w.heap.size (Nat.le_refl _) (by simp)
  have hnil : ∀ W, (binOp .eql 24 (.slice (some A) n c) (.slice none 0 0)).run Tryd.prog W = .ok (.bool false) W := fun W => Lib.run_eql_slice_some_nil W _ _ _ Tryd.underlying24
  go_enter Tryd.func48, Tryd.ntmps48
  go_wp2_with (at_builtin; refine wpList_append_s rfl (.tmp 5) (.tmp 6) 24 rfl Tryd.underlying24 infoU8 rfl hown _ _ _ xs rfl hn (hx.below hb) (by simpa using hl) (by simp) ?_; intro A' c' w1 ho1 hg1)
  go_ret
  rw [List.nil_append, hn] at *
  exact ⟨A', c', rfl, ho1, hown.belowGrown (Nat.le_refl _) (by simp) hb hg1⟩

theorem clone_any (A : Option Addr) (n c : Nat) (xs : List UInt8) (w : World) (hn : xs.length = n) (hx : BytesAt w A xs) (hl : n ≤ 140737488355328) (h0 : A = none → n = 0 ∧ c = 0) :
    Calls Tryd.prog 48 #[.slice A n c] w fun e w' => ∃ A' c', e = .returned (.slice A' n c') ∧ OwnS w' w.heap.size (.slice A' n c') 5 xs ∧ Below w.heap.size w w' := by
  cases A with
  | none =>
    obtain ⟨rfl, rfl⟩ := h0 rfl
    obtain rfl := List.eq_nil_of_length_eq_zero hn
    refine (clone_nil w).mono ?_
    rintro e w' ⟨rfl, rfl⟩
    exact ⟨none, 0, rfl, OwnS.nil _ _ _, Below.refl _ _⟩
  | some a => exact clone_some a n c xs w hn hx hl
end Go.Proofs.YtocddhokjhfaaaaDoor

namespace Go.Proofs.YtocddhokjhfaaaaDoor
open Go.RowKit

/-- An operation that yields a value, or panics: no call of a Go function, no store. -/
def softB (o : Oper) : Bool := match o.op with
  | .move _ | .assign _ | .pick _ _ _ | .load _ _ | .binOp _ _ _ _ _ | .unOp _ _ _ | .convert _ _ _ | .slice _ _ _ _ _ | .fieldAddr _ _ _ | .field _ _ _ | .indexAddr _ _ _ | .index _ _ _ | .extract _ _ => true
  | .call c => match c.callee with
    | .builtin .len | .builtin .cap | .builtin .min | .builtin .max => true
    | _ => false
  | _ => false

theorem andThen_value {m : Result Value} {n : Next} {w' : World} (h : (m.andThen fun a w => Result.ok (Next.value a) w) = .ok n w') : ∃ u, n = .value u := by
  cases m with
  | ok v w => simp [Result.andThen] at h; exact ⟨v, h.1.symm⟩
  | halt x w => simp [Result.andThen] at h

theorem soft_value {P : Program} {o : Oper} (hs : softB o = true) {ρ : Operand → Value} {w w' : World} {n : Next} (h : (execOp ρ o).run P w = .ok n w') : ∃ u, n = .value u := by
  obtain ⟨dst, op, type, pos, after, guard⟩ := o
  cases op <;> simp only [softB, Bool.false_eq_true] at hs <;> simp only [execOp, Sem.run_bind, Sem.run_pure] at h
  case move => exact ⟨_, by injection h with h1; exact h1.symm⟩
  case assign => exact ⟨_, by injection h with h1; exact h1.symm⟩
  case call c =>
    obtain ⟨callee, args, argTypes⟩ := c
    cases callee with
    | builtin b =>
      cases b <;> simp only [Bool.false_eq_true] at hs <;> simp only [resolve, invoke, builtin, Sem.run_bind, Sem.run_pure, Result.andThen_ok] at h <;> exact andThen_value h
    | _ => simp only [Bool.false_eq_true] at hs
  case pick c a b =>
    generalize (asBool _).run P w = m at h
    cases m with
    | ok v w2 => simp [Result.andThen] at h; exact ⟨_, h.1.symm⟩
    | halt x w2 => simp [Result.andThen] at h
  all_goals exact andThen_value h

section
variable {P : Program} {ops : Array Oper} {md : Region.Mode} {S : World → Prop}

def opAt (ops : Array Oper) (i : Nat) : Oper := (ops[i]?).getD ⟨none, .move (.const undef), 0, "", #[], none⟩

theorem opAt_some {i : Nat} (h : i < ops.size) : ops[i]? = some (opAt ops i) := by
  unfold opAt
  rw [Array.getElem?_eq_getElem h]
  rfl

/-- Soft ones, one behind the other: what is listed behind them. -/
def softs (md : Region.Mode) (ops : Array Oper) : List Nat → Array Bool → Option (Array Bool)
  | [], listed => some listed
  | i :: r, listed => if (decide (i < ops.size) && softB (opAt ops i) && Region.free md ops listed i && (Region.ready md ops listed).contains i) = true then softs md ops r (listed.setIfInBounds i true) else none

theorem softs_take {Q : Exit → Act → World → Prop} {K : Act → Prop} (hsel : Region.noSelect ops = true) {fuel : Nat} {l' : Array Bool} {w : World} (hS : S w) (hK : ∀ a, K a → wpAnyH P md ops (NoPanic Q) S fuel l' a w) :
    ∀ (qs : List Nat) (listed : Array Bool) (a : Act), softs md ops qs listed = some l' → wpQuiet P ops S K (qs.map (opAt ops)) a → wpAnyH P md ops (NoPanic Q) S (qs.length + fuel) listed a w
  | [], listed, a, h, hq => by
    simp only [softs, Option.some.injEq] at h
    subst h
    rw [List.length_nil, Nat.zero_add]
    exact hK a hq
  | i :: r, listed, a, h, hq => by
    simp only [softs] at h
    split at h
    · rename_i hc
      simp only [Bool.and_eq_true, decide_eq_true_eq] at hc
      obtain ⟨⟨⟨h1, h2⟩, h3⟩, h4⟩ := hc
      have ho := opAt_some h1
      rw [List.length_cons, show r.length + 1 + fuel = (r.length + fuel) + 1 by omega]
      simp only [List.map_cons, wpQuiet] at hq
      split at hq
      · rename_i hw
        obtain ⟨v, hv, hn⟩ := hq
        refine wpAnyH_take ho hsel h3 h4 (fun _ _ _ h => h) (v := v) (.inl ⟨hw, fun w2 hw2 => ?_⟩) hS (softs_take hsel hS hK r _ _ h hn)
        have hv2 := hv w2 hw2
        unfold Oper.quietAt at hv2
        generalize hr : (execOp a.eval (opAt ops i)).run P w2 = x at hv2
        cases x with
        | ok n w3 =>
          obtain ⟨u, rfl⟩ := soft_value h2 hr
          obtain ⟨rfl, rfl⟩ := hv2
          rfl
        | halt x w3 => exact hv2.elim
      · rename_i hw
        exact wpAnyH_take ho hsel h3 h4 (fun _ _ _ h => h) (v := undef) (.inr ⟨by simpa using hw, rfl⟩) hS (softs_take hsel hS hK r _ _ h hq)
    · cases h

/-- The order of one's own: soft ones, then one that touches memory, and so on; soft ones at the end. -/
def blB (md : Region.Mode) (ops : Array Oper) : List (List Nat × Nat) → List Nat → Array Bool → Bool
  | [], last, listed => match softs md ops last listed with
    | some l' => (Region.ready md ops l').isEmpty
    | none => false
  | (qs, h) :: r, last, listed => match softs md ops qs listed with
    | some l' => decide (Region.ready md ops l' = [h]) && blB md ops r last (l'.setIfInBounds h true)
    | none => false

def blN : List (List Nat × Nat) → List Nat → Nat
  | [], last => last.length
  | (qs, _) :: r, last => qs.length + (blN r last + 1)

/-- The walk in that order. -/
def wpBl (P : Program) (ops : Array Oper) (Q : Exit → Act → World → Prop) (S : World → Prop) : List (List Nat × Nat) → List Nat → Act → World → Prop
  | [], last, a, w => wpQuiet P ops S (fun a' => Q .normal a' w) (last.map (opAt ops)) a
  | (qs, h) :: r, last, a, w => wpQuiet P ops S (fun a' => wpList P ops (Exit.then (fun a2 w2 => S w2 ∧ wpBl P ops Q S r last a2 w2) (NoPanic Q)) [opAt ops h] a' w) (qs.map (opAt ops)) a

theorem wpBl_cons {Q : Exit → Act → World → Prop} {qs : List Nat} {h : Nat} {r : List (List Nat × Nat)} {last : List Nat} {a : Act} {w : World} :
    wpBl P ops Q S ((qs, h) :: r) last a w = wpQuiet P ops S (fun a' => wpList P ops (Exit.then (fun a2 w2 => S w2 ∧ wpBl P ops Q S r last a2 w2) (NoPanic Q)) [opAt ops h] a' w) (qs.map (opAt ops)) a := rfl
theorem wpBl_nil {Q : Exit → Act → World → Prop} {last : List Nat} {a : Act} {w : World} : wpBl P ops Q S [] last a w = wpQuiet P ops S (fun a' => Q .normal a' w) (last.map (opAt ops)) a := rfl

theorem wpAnyH_of_bl {Q : Exit → Act → World → Prop} (hsel : Region.noSelect ops = true) :
    ∀ (bl : List (List Nat × Nat)) (last : List Nat) (listed : Array Bool) (a : Act) (w : World), S w → blB md ops bl last listed = true → wpBl P ops Q S bl last a w → wpAnyH P md ops (NoPanic Q) S (blN bl last) listed a w
  | [], last, listed, a, w, hS, hB, h => by
    simp only [blB] at hB
    split at hB
    · rename_i l' hl
      have hr : Region.ready md ops l' = [] := by simpa using hB
      have := softs_take (P := P) (Q := Q) (K := fun a' => Q .normal a' w) (fuel := 0) hsel hS (fun a' ha => wpAnyH_done hr (NoPanic.normal ha) 0) last listed a hl h
      simpa [blN] using this
    · cases hB
  | (qs, i) :: r, last, listed, a, w, hS, hB, h => by
    simp only [blB] at hB
    split at hB
    · rename_i l' hl
      simp only [Bool.and_eq_true, decide_eq_true_eq] at hB
      obtain ⟨hr, hB2⟩ := hB
      have hi : i < ops.size := by
        have : i ∈ Region.ready md ops l' := by rw [hr]; simp
        obtain ⟨_, o, ho, _⟩ := mem_ready.1 this
        exact (Array.getElem?_eq_some_iff.1 ho).1
      refine softs_take (fuel := blN r last + 1) hsel hS (fun a' ha => ?_) qs listed a hl h
      refine wpAnyH_all hr (by simp) fun j hj => ?_
      obtain rfl : j = i := by simpa using hj
      unfold wpOp
      rw [opAt_some hi]
      simp only [wpList] at ha
      have key : ∀ a2 w2, Exit.then (fun a2 w2 => S w2 ∧ wpBl P ops Q S r last a2 w2) (NoPanic Q) .normal a2 w2 → S w2 ∧ wpAnyH P md ops (NoPanic Q) S (blN r last) (l'.setIfInBounds j true) a2 w2 :=
        fun a2 w2 h2 => ⟨h2.1, wpAnyH_of_bl hsel r last _ a2 w2 h2.1 hB2 h2.2⟩
      simp only
      split at ha
      · rename_i hw
        rw [if_pos hw]
        rcases ha with ha | ⟨h1, h2⟩
        · left
          unfold Oper.wp at *
          generalize (execOp a'.eval (opAt ops j)).run P w = x at *
          cases x with
          | ok n w3 =>
            cases n <;> simp only [Oper.upon] at ha ⊢
            case value u => exact key _ _ ha
            case skip => exact key _ _ ha
            case defer d => exact key _ _ ha
            case enter f args =>
              refine Calls.mono ha fun e w'' he => ?_
              cases e with
              | returned u => exact key _ _ he
              | panicked c => exact he
              | outgrown => exact he
            case row row args => exact Rows.mono ha fun u w'' he => key _ _ he
          | halt x w3 => cases x <;> simp only [Oper.upon] at ha ⊢ <;> exact ha
        · right
          exact ⟨h1, h2⟩
      · rename_i hw
        rw [if_neg hw]
        exact key _ _ ha
    · cases hB

def blOK (ops : Array Oper) (bl : List (List Nat × Nat)) (last : List Nat) : Bool :=
  Region.noSelect ops && decide (blN bl last = ops.size) && blB .any ops bl last (Array.replicate ops.size false)

/-- A region that draws its order, by an order of one's own. -/
theorem region_bl {id : Nat} {Q : Exit → Act → World → Prop} {a : Act} {w : World} (bl : List (List Nat × Nat)) (last : List Nat) (S : World → Prop) (hm : P.follows .mixedOrders = true) (hB : blOK ops bl last = true) (hS : S { w with drawn := w.drawn + 1 })
    (h : wpBl P ops Q S bl last a { w with drawn := w.drawn + 1 }) : (Code.region id ops true).wp P Q a w := by
  simp only [blOK, Bool.and_eq_true, decide_eq_true_eq] at hB
  obtain ⟨⟨h1, h2⟩, h3⟩ := hB
  refine wp_region_noPanic (wp_region_held (S := S) hm ?_)
  have := wpAnyH_of_bl (P := P) (Q := Q) (S := S) (md := .any) h1 bl last _ a _ hS h3 h
  rwa [h2] at this

/-- The same, the world behind the draw being whatever stands over the old one. -/
theorem region_bl' {id : Nat} {Q : Exit → Act → World → Prop} {a : Act} {w : World} (bl : List (List Nat × Nat)) (last : List Nat) (S : World → Prop) (hm : P.follows .mixedOrders = true) (hB : blOK ops bl last = true)
    (hS : ∀ w', Below w.heap.size w w' → S w') (h : ∀ w', Below w.heap.size w w' → w'.heap = w.heap → wpBl P ops Q S bl last a w') : (Code.region id ops true).wp P Q a w :=
  region_bl bl last S hm hB (hS _ (below_drewN (Below.refl _ _) 1)) (h _ (below_drewN (Below.refl _ _) 1) rfl)

/-- The class of all worlds over the one at hand. -/
def Over (w0 : World) (w' : World) : Prop := ∃ x : SubW w0.heap.size w0, w' = x.at_

theorem region_over {id : Nat} {Q : Exit → Act → World → Prop} {a : Act} {w : World} (bl : List (List Nat × Nat)) (last : List Nat) (hm : P.follows .mixedOrders = true) (hB : blOK ops bl last = true)
    (h : ∀ w', Below w.heap.size w w' → wpBl P ops Q (fun w' => ∃ x : SubW w.heap.size w, w' = x.at_) bl last a w') : (Code.region id ops true).wp P Q a w :=
  region_bl' bl last _ hm hB (fun w' hw => ⟨⟨w', hw⟩, rfl⟩) (fun w' hw _ => h w' hw)

/-- The same, where blocks from B on may change. -/
theorem region_overB {id : Nat} {Q : Exit → Act → World → Prop} {a : Act} {w : World} (B : Nat) (hBw : B ≤ w.heap.size) (bl : List (List Nat × Nat)) (last : List Nat) (hm : P.follows .mixedOrders = true) (hB : blOK ops bl last = true)
    (h : ∀ w', Below w.heap.size w w' → wpBl P ops Q (fun w' => ∃ x : SubW B w, w' = x.at_) bl last a w') : (Code.region id ops true).wp P Q a w :=
  region_bl' bl last _ hm hB (fun w' hw => ⟨⟨w', hw.mono hBw⟩, rfl⟩) (fun w' hw _ => h w' hw)

/-- A cell is read that holds the same in every world of the class. -/
theorem quiet_load_cell {o : Oper} {a : Act} {K : Act → Prop} (ty : TypeId) (x : Operand) (ho : o.op = .load ty x) (ad : Addr) (hx : a.eval x = .pointer (some ad)) (v : Value) (d : TypeDesc)
    (hu : P.underlying ty = some d) (hd : (match d with | .struct _ | .array _ _ => true | _ => false) = false) (hc : ∀ w', S w' → w'.cell? ad = some v) (h : K (a.put o.dst v)) : o.quiet P a S K := by
  refine ⟨v, fun w hw => ?_, h⟩
  have hagg : (isAgg ty).run P w = .ok false w := by
    unfold isAgg
    rw [Sem.run_bind, run_underlying hu w]
    cases d <;> simp_all
  unfold Oper.quietAt execOp
  simp only [ho, hx, Instr.loadAt, Instr.sureAddr, Sem.run_bind, Sem.run_pure, Result.andThen_ok, loadVar, hagg, Bool.false_eq_true, if_false, run_load, hc w hw]
  exact ⟨rfl, rfl⟩
end
end Go.Proofs.YtocddhokjhfaaaaDoor

namespace BitM

/-! ### Bytes of a number, the highest first -/

def beN (n k : Nat) : List UInt8 := (List.range k).map fun i => UInt8.ofNat (n / 256 ^ (k - 1 - i))
theorem length_beN (n k : Nat) : (beN n k).length = k := by simp [beN]
theorem beN_get (n k i : Nat) (h : i < (beN n k).length) : (beN n k)[i] = UInt8.ofNat (n / 256 ^ (k - 1 - i)) := by simp [beN]
theorem beN_getD (n k i : Nat) (h : i < k) : (beN n k).getD i 0 = UInt8.ofNat (n / 256 ^ (k - 1 - i)) := by
  rw [List.getD_eq_getElem?_getD, List.getElem?_eq_getElem (by rw [length_beN]; exact h), Option.getD_some, beN_get]

/-- Bytes side by side: those of the higher part, then those of the lower one. -/
theorem beN_cat (a x k j : Nat) (hx : x < 256 ^ j) : beN (a * 256 ^ j + x) (k + j) = beN a k ++ beN x j := by
  apply List.ext_getElem
  · simp [length_beN]
  · intro i h1 h2
    rw [length_beN] at h1
    rw [beN_get]
    by_cases h : i < k
    · rw [List.getElem_append_left (by rw [length_beN]; exact h), beN_get]
      congr 1
      have e : k + j - 1 - i = j + (k - 1 - i) := by omega
      rw [e, Nat.pow_add, ← Nat.div_div_eq_div_mul, Nat.mul_comm a, Nat.mul_add_div (Nat.pow_pos (by omega)), Nat.div_eq_of_lt hx, Nat.add_zero]
    · rw [List.getElem_append_right (by rw [length_beN]; omega), beN_get]
      simp only [length_beN]
      have e : k + j - 1 - i = j - 1 - (i - k) := by omega
      rw [e]
      apply UInt8.toNat_inj.1
      rw [UInt8.toNat_ofNat', UInt8.toNat_ofNat']
      have hp : 256 ^ j = 256 ^ (j - 1 - (i - k)) * (256 * 256 ^ (i - k)) := by
        rw [← Nat.mul_assoc, ← Nat.pow_succ, ← Nat.pow_add]
        congr 1
        omega
      rw [hp, ← Nat.mul_assoc, Nat.mul_comm a, Nat.mul_assoc, Nat.mul_add_div (Nat.pow_pos (by omega))]
      have : a * (256 * 256 ^ (i - k)) = 256 * (a * 256 ^ (i - k)) := by rw [Nat.mul_left_comm]
      rw [this, Nat.mul_add_mod]

theorem beN_snoc (n k : Nat) : beN n (k + 1) = beN (n / 256) k ++ [UInt8.ofNat n] := by
  have h := beN_cat (n / 256) (n % 256) k 1 (by omega)
  rw [Nat.pow_one, show n / 256 * 256 + n % 256 = n by omega] at h
  rw [h]
  congr 1
  simp only [beN, List.range_one, List.map_cons, List.map_nil, Nat.sub_self, Nat.pow_zero, Nat.div_one]
  congr 1
  apply UInt8.toNat_inj.1
  rw [UInt8.toNat_ofNat', UInt8.toNat_ofNat']
  omega

theorem beN_take (n k j : Nat) (h : j ≤ k) : (beN n k).take (k - j) = beN (n / 256 ^ j) (k - j) := by
  apply List.ext_getElem
  · simp [length_beN]
  · intro i h1 h2
    have hi : i < k - j := by rw [length_beN] at h2; exact h2
    rw [List.getElem_take, beN_get, beN_get, Nat.div_div_eq_div_mul, ← Nat.pow_add]
    congr 3
    omega

/-- Bytes as a number. -/
def valB (xs : List UInt8) : Nat := xs.foldl (fun a c => a * 256 + c.toNat) 0
theorem valB_snoc (xs : List UInt8) (c : UInt8) : valB (xs ++ [c]) = valB xs * 256 + c.toNat := by simp [valB]
theorem snoc_ind {M : List UInt8 → Prop} (h0 : M []) (h1 : ∀ xs c, M xs → M (xs ++ [c])) (xs : List UInt8) : M xs := by
  have key : ∀ ys : List UInt8, M ys.reverse := by
    intro ys
    induction ys with
    | nil => exact h0
    | cons c ys ih => rw [List.reverse_cons]; exact h1 _ c ih
  have := key xs.reverse
  rwa [List.reverse_reverse] at this
theorem valB_lt (xs : List UInt8) : valB xs < 256 ^ xs.length := by
  induction xs using snoc_ind with
  | h0 => simp [valB]
  | h1 xs c ih =>
    rw [valB_snoc, List.length_append, List.length_singleton, Nat.pow_succ]
    have := c.toNat_lt
    omega
theorem beN_valB (xs : List UInt8) : beN (valB xs) xs.length = xs := by
  induction xs using snoc_ind with
  | h0 => rfl
  | h1 xs c ih =>
    rw [valB_snoc, List.length_append, List.length_singleton, beN_snoc]
    have hc := c.toNat_lt
    have h1 : (valB xs * 256 + c.toNat) / 256 = valB xs := by omega
    rw [h1, ih]
    congr 2
    apply UInt8.toNat_inj.1
    rw [UInt8.toNat_ofNat']
    omega
theorem valB_beN (k : Nat) : ∀ n, valB (beN n k) = n % 256 ^ k := by
  induction k with
  | zero => intro n; simp [beN, valB, Nat.mod_one]
  | succ k ih =>
    intro n
    rw [beN_snoc, valB_snoc, ih, UInt8.toNat_ofNat']
    have e : n % 256 ^ (k + 1) = n % 256 + 256 * (n / 256 % 256 ^ k) := by rw [Nat.pow_succ, Nat.mul_comm (256 ^ k) 256, Nat.mod_mul]
    rw [e]
    omega
/-- A byte of a row, as a part of the number. -/
theorem byte_val (xs : List UInt8) (i : Nat) (h : i < xs.length) : xs[i].toNat = valB xs / 256 ^ (xs.length - 1 - i) % 256 := by
  have e := beN_valB xs
  have h2 : (beN (valB xs) xs.length)[i]'(by rw [length_beN]; exact h) = xs[i] := by congr 1
  rw [← h2, beN_get, UInt8.toNat_ofNat']

/-! ### Parts of a number -/

theorem part_mod (x a s k : Nat) (h : s + k ≤ a) : x % 2 ^ a / 2 ^ s % 2 ^ k = x / 2 ^ s % 2 ^ k := by
  have e : 2 ^ a = 2 ^ s * 2 ^ (a - s) := by rw [← Nat.pow_add]; congr 1; omega
  rw [e, Nat.mod_mul_right_div_self, Nat.mod_mod_of_dvd]
  exact Nat.pow_dvd_pow 2 (by omega)

/-- The bits from p on up to q of a row of T bits. -/
def mid (B T p q : Nat) : Nat := B / 2 ^ (T - q) % 2 ^ (q - p)
theorem mid_lt (B T p q : Nat) : mid B T p q < 2 ^ (q - p) := Nat.mod_lt _ (Nat.pow_pos (by omega))
theorem mid_none (B T p : Nat) : mid B T p p = 0 := by unfold mid; rw [Nat.sub_self, Nat.pow_zero, Nat.mod_one]
theorem mid_more (B T p q k : Nat) (hp : p ≤ q) (hq : q + k ≤ T) : mid B T p (q + k) = mid B T p q * 2 ^ k + mid B T q (q + k) := by
  unfold mid
  have e1 : T - q = (T - (q + k)) + k := by omega
  have e2 : q + k - p = k + (q - p) := by omega
  have e3 : q + k - q = k := by omega
  rw [e1, Nat.pow_add, ← Nat.div_div_eq_div_mul, e2, e3, Nat.pow_add, Nat.mod_mul]
  generalize B / 2 ^ (T - (q + k)) = x
  rw [Nat.add_comm, Nat.mul_comm]
/-- Bits that lie in one byte. -/
theorem mid_byte (xs : List UInt8) (p k : Nat) (h : p / 8 < xs.length) (hk : p % 8 + k ≤ 8) : mid (valB xs) (8 * xs.length) p (p + k) = xs[p / 8].toNat / 2 ^ (8 - p % 8 - k) % 2 ^ k := by
  rw [byte_val xs (p / 8) h]
  have e8 : (256 : Nat) = 2 ^ 8 := rfl
  rw [e8, ← Nat.pow_mul, part_mod _ 8 _ k (by omega), Nat.div_div_eq_div_mul, ← Nat.pow_add]
  unfold mid
  have e1 : 8 * xs.length - (p + k) = 8 * (xs.length - 1 - p / 8) + (8 - p % 8 - k) := by omega
  have e2 : p + k - p = k := by omega
  rw [e1, e2]

/-! ### Words, the last one first -/

def cval : List Nat → Nat
  | [] => 0
  | x :: r => cval r * 2 ^ 64 + x

theorem cval_cons (x : Nat) (r : List Nat) : cval (x :: r) = cval r * 2 ^ 64 + x := rfl

/-- The number that a writer holds, and how many bits: full words, and m bits more. -/
def wval (ws : List Nat) (r m : Nat) : Nat := cval ws * 2 ^ m + r % 2 ^ m
def wlen (ws : List Nat) (m : Nat) : Nat := 64 * ws.length + m

/-- There is room in the last word. -/
theorem put_room (ws : List Nat) (r m n v : Nat) (h : m + n < 64) (hv : v < 2 ^ n) : wval ws ((r * 2 ^ n) % 2 ^ 64 + v) (m + n) = wval ws r m * 2 ^ n + v := by
  unfold wval
  have e : ((r * 2 ^ n) % 2 ^ 64 + v) % 2 ^ (m + n) = r % 2 ^ m * 2 ^ n + v := by
    have h1 : (r * 2 ^ n) % 2 ^ 64 % 2 ^ (m + n) = (r * 2 ^ n) % 2 ^ (m + n) := Nat.mod_mod_of_dvd _ (Nat.pow_dvd_pow 2 (by omega))
    rw [Nat.add_mod, h1, Nat.pow_add, Nat.mul_mod_mul_right, Nat.mod_eq_of_lt (a := v), Nat.mod_eq_of_lt]
    · have h2 := Nat.mod_lt r (show 0 < 2 ^ m from Nat.pow_pos (by omega))
      have h3 : (r % 2 ^ m + 1) * 2 ^ n ≤ 2 ^ m * 2 ^ n := Nat.mul_le_mul_right _ h2
      rw [Nat.add_mul] at h3
      omega
    · have : 1 * 2 ^ n ≤ 2 ^ m * 2 ^ n := Nat.mul_le_mul_right _ (Nat.pow_pos (by omega))
      omega
  rw [e, Nat.pow_add, Nat.add_mul, ← Nat.mul_assoc, Nat.add_assoc]
/-- The last word becomes full. -/
theorem put_full (ws : List Nat) (r m n v : Nat) (hm : m < 64) (h : 64 ≤ m + n) (hv : v < 2 ^ n) :
    wval (((r * 2 ^ (64 - m)) % 2 ^ 64 + v / 2 ^ (n - (64 - m))) :: ws) v (n - (64 - m)) = wval ws r m * 2 ^ n + v := by
  unfold wval
  rw [cval_cons]
  obtain ⟨o, ho⟩ : ∃ o, o = n - (64 - m) := ⟨_, rfl⟩
  rw [← ho]
  have e1 : (r * 2 ^ (64 - m)) % 2 ^ 64 = r % 2 ^ m * 2 ^ (64 - m) := by
    have : (2 : Nat) ^ 64 = 2 ^ m * 2 ^ (64 - m) := by rw [← Nat.pow_add]; congr 1; omega
    rw [this, Nat.mul_mod_mul_right]
  rw [e1]
  have e2 : n = (64 - m) + o := by omega
  have e3 : (2 : Nat) ^ 64 = 2 ^ m * 2 ^ (64 - m) := by rw [← Nat.pow_add]; congr 1; omega
  have e4 : v = v / 2 ^ o * 2 ^ o + v % 2 ^ o := (Nat.div_add_mod' v (2 ^ o)).symm
  rw [e2, Nat.pow_add, e3]
  generalize cval ws = C
  generalize hR : r % 2 ^ m = R
  generalize hq : v / 2 ^ o = q at *
  generalize hz : v % 2 ^ o = z at *
  rw [e4]
  generalize 2 ^ m = M
  generalize 2 ^ (64 - m) = N
  generalize 2 ^ o = O
  simp only [Nat.add_mul, Nat.mul_assoc, Nat.add_assoc]
theorem put_word_lt (r m n v : Nat) (hm : m < 64) (h : 64 ≤ m + n) (hv : v < 2 ^ n) : (r * 2 ^ (64 - m)) % 2 ^ 64 + v / 2 ^ (n - (64 - m)) < 2 ^ 64 := by
  have e1 : (r * 2 ^ (64 - m)) % 2 ^ 64 = r % 2 ^ m * 2 ^ (64 - m) := by
    have : (2 : Nat) ^ 64 = 2 ^ m * 2 ^ (64 - m) := by rw [← Nat.pow_add]; congr 1; omega
    rw [this, Nat.mul_mod_mul_right]
  have e3 : (2 : Nat) ^ 64 = 2 ^ m * 2 ^ (64 - m) := by rw [← Nat.pow_add]; congr 1; omega
  have h2 := Nat.mod_lt r (show 0 < 2 ^ m from Nat.pow_pos (by omega))
  have h3 : (r % 2 ^ m + 1) * 2 ^ (64 - m) ≤ 2 ^ m * 2 ^ (64 - m) := Nat.mul_le_mul_right _ h2
  have h4 : v / 2 ^ (n - (64 - m)) < 2 ^ (64 - m) := by
    rw [Nat.div_lt_iff_lt_mul (Nat.pow_pos (by omega)), ← Nat.pow_add]
    rw [show 64 - m + (n - (64 - m)) = n by omega]
    exact hv
  rw [e1, e3]
  rw [Nat.add_mul] at h3
  omega

/-- The bytes of a row of bits, with noughts behind. -/
def bytesW (L V : Nat) : List UInt8 := beN (V * 2 ^ (8 * ((L + 7) / 8) - L)) ((L + 7) / 8)
theorem length_bytesW (L V : Nat) : (bytesW L V).length = (L + 7) / 8 := length_beN _ _

/-- Words as bytes: the full ones from the first to the last one, then what is behind. -/
def wordsB (us : List Nat) : List UInt8 := us.flatMap fun v => beN v 8
theorem wordsB_snoc (us : List Nat) (v : Nat) : wordsB (us ++ [v]) = wordsB us ++ beN v 8 := by simp [wordsB]
theorem wordsB_rev : ∀ (ws : List Nat), (∀ x ∈ ws, x < 2 ^ 64) → wordsB ws.reverse = beN (cval ws) (8 * ws.length)
  | [], _ => rfl
  | x :: r, h => by
    rw [List.reverse_cons, wordsB_snoc, wordsB_rev r (fun y hy => h y (by simp [hy])), List.length_cons, show 8 * (r.length + 1) = 8 * r.length + 8 by omega]
    have hx : x < 256 ^ 8 := by have := h x (by simp); omega
    rw [cval_cons, show (2 : Nat) ^ 64 = 256 ^ 8 from rfl, beN_cat _ _ _ _ hx]

theorem bytes_all (ws : List Nat) (r m : Nat) (hm : m < 64) (h : ∀ x ∈ ws, x < 2 ^ 64) :
    (wordsB (ws.reverse ++ [r * 2 ^ (64 - m) % 2 ^ 64])).take (8 * (ws.length + 1) - (64 - m) / 8) = bytesW (wlen ws m) (wval ws r m) := by
  have e3 : (2 : Nat) ^ 64 = 2 ^ m * 2 ^ (64 - m) := by rw [← Nat.pow_add]; congr 1; omega
  have e1 : (r * 2 ^ (64 - m)) % 2 ^ 64 = r % 2 ^ m * 2 ^ (64 - m) := by rw [e3, Nat.mul_mod_mul_right]
  have hlt : r % 2 ^ m * 2 ^ (64 - m) < 256 ^ 8 := by
    have h2 := Nat.mod_lt r (show 0 < 2 ^ m from Nat.pow_pos (by omega))
    have h3 : (r % 2 ^ m) * 2 ^ (64 - m) < 2 ^ m * 2 ^ (64 - m) := Nat.mul_lt_mul_of_pos_right h2 (Nat.pow_pos (by omega))
    rw [← e3] at h3
    exact h3
  have e5 : cval ws * 256 ^ 8 + r % 2 ^ m * 2 ^ (64 - m) = wval ws r m * 2 ^ (64 - m) := by
    unfold wval
    rw [show (256 : Nat) ^ 8 = 2 ^ 64 from rfl, e3, Nat.add_mul, Nat.mul_assoc]
  rw [e1, wordsB_snoc, wordsB_rev ws h, ← beN_cat _ _ _ _ hlt, e5, show 8 * ws.length + 8 = 8 * (ws.length + 1) by omega, beN_take _ _ _ (by omega)]
  unfold bytesW wlen
  have e6 : (64 * ws.length + m + 7) / 8 = 8 * (ws.length + 1) - (64 - m) / 8 := by omega
  rw [e6]
  congr 1
  have e7 : (256 : Nat) ^ ((64 - m) / 8) = 2 ^ (8 * ((64 - m) / 8)) := by rw [show (256 : Nat) = 2 ^ 8 from rfl, ← Nat.pow_mul]
  have e8 : 64 - m = (8 * (8 * (ws.length + 1) - (64 - m) / 8) - (64 * ws.length + m)) + 8 * ((64 - m) / 8) := by omega
  rw [e7]
  conv => lhs; lhs; rw [e8, Nat.pow_add, ← Nat.mul_assoc]
  rw [Nat.mul_div_cancel _ (Nat.pow_pos (by omega))]
end BitM

namespace BitM

def bl (L V : Nat) : List UInt8 := (List.range L).map fun i => UInt8.ofNat (V / 2 ^ (L - 1 - i) % 2)
theorem length_bl (L V : Nat) : (bl L V).length = L := by simp [bl]
theorem bl_get (L V i : Nat) (h : i < (bl L V).length) : (bl L V)[i] = UInt8.ofNat (V / 2 ^ (L - 1 - i) % 2) := by simp [bl]
theorem bl_zero (V : Nat) : bl 0 V = [] := rfl
theorem bl_snoc (L V b : Nat) (hb : b < 2) : bl (L + 1) (V * 2 + b) = bl L V ++ [UInt8.ofNat b] := by
  apply List.ext_getElem
  · simp [length_bl]
  · intro i h1 h2
    rw [length_bl] at h1
    rw [bl_get]
    by_cases h : i < L
    · rw [List.getElem_append_left (by rw [length_bl]; exact h), bl_get]
      congr 2
      have e : L + 1 - 1 - i = 1 + (L - 1 - i) := by omega
      rw [e, Nat.pow_add, Nat.pow_one, ← Nat.div_div_eq_div_mul]
      congr 1
      omega
    · have : i = L := by omega
      subst this
      rw [List.getElem_append_right (by rw [length_bl]; omega)]
      simp only [length_bl, Nat.sub_self, List.getElem_cons_zero]
      congr 1
      rw [show i + 1 - 1 - i = 0 by omega, Nat.pow_zero, Nat.div_one]
      omega
theorem bl_drop (L V n : Nat) : (bl L V).drop n = bl (L - n) V := by
  apply List.ext_getElem
  · simp [length_bl]
  · intro i h1 h2
    rw [List.getElem_drop, bl_get, bl_get]
    congr 4
    omega

/-- A bit of a number. -/
theorem bit_step (v n j : Nat) (hj : j < n) : v % 2 ^ n / 2 ^ (n - (j + 1)) = v % 2 ^ n / 2 ^ (n - j) * 2 + v / 2 ^ (n - (j + 1)) % 2 := by
  have e : n - j = (n - (j + 1)) + 1 := by omega
  rw [e, Nat.pow_succ, ← Nat.div_div_eq_div_mul]
  have h := part_mod v n (n - (j + 1)) 1 (by omega)
  rw [Nat.pow_one] at h
  rw [← h]
  omega
theorem bit_start (v n : Nat) : v % 2 ^ n / 2 ^ (n - 0) = 0 := by
  rw [Nat.sub_zero]
  exact Nat.div_eq_of_lt (Nat.mod_lt _ (Nat.pow_pos (by omega)))

/-- The first j of n bits behind V. -/
def upto (V v n j : Nat) : Nat := V * 2 ^ j + v % 2 ^ n / 2 ^ (n - j)
theorem upto_zero (V v n : Nat) : upto V v n 0 = V := by unfold upto; rw [bit_start]; simp
theorem upto_succ (V v n j : Nat) (hj : j < n) : upto V v n (j + 1) = upto V v n j * 2 + v / 2 ^ (n - (j + 1)) % 2 := by
  unfold upto
  rw [bit_step v n j hj, Nat.pow_succ, ← Nat.mul_assoc, Nat.add_mul, Nat.add_assoc]
theorem upto_all (V v n : Nat) : upto V v n n = V * 2 ^ n + v % 2 ^ n := by unfold upto; rw [Nat.sub_self, Nat.pow_zero, Nat.div_one]

/-- Bits are laid one by one: all but one byte stay. -/
def laid (L V i : Nat) : List UInt8 := beN (V / 2 ^ (L - i) * 2 ^ (8 * ((L + 7) / 8) - i)) ((L + 7) / 8)
theorem length_laid (L V i : Nat) : (laid L V i).length = (L + 7) / 8 := length_beN _ _
theorem laid_zero (L V : Nat) (hV : V < 2 ^ L) : laid L V 0 = List.replicate ((L + 7) / 8) 0 := by
  unfold laid
  rw [Nat.sub_zero, Nat.div_eq_of_lt hV, Nat.zero_mul]
  apply List.ext_getElem
  · simp [length_beN]
  · intro i h1 h2
    rw [beN_get]
    simp
theorem laid_all (L V : Nat) : laid L V L = bytesW L V := by
  unfold laid bytesW
  rw [Nat.sub_self, Nat.pow_zero, Nat.div_one]

theorem laid_step (L V i : Nat) (hi : i < L) :
    ∃ b : Nat, b = V / 2 ^ (L - 1 - i) % 2 ∧ ((laid L V i).getD (i / 8) 0).toNat % 2 ^ (7 - i % 8 + 1) = 0 ∧ ((laid L V i).getD (i / 8) 0).toNat + b * 2 ^ (7 - i % 8) < 256 ∧
      laid L V (i + 1) = (laid L V i).set (i / 8) (UInt8.ofNat (((laid L V i).getD (i / 8) 0).toNat + b * 2 ^ (7 - i % 8))) := by
  obtain ⟨b, hb⟩ : ∃ b, b = V / 2 ^ (L - 1 - i) % 2 := ⟨_, rfl⟩
  have hb2 : b < 2 := by rw [hb]; omega
  obtain ⟨nb, hnb⟩ : ∃ nb, nb = (L + 7) / 8 := ⟨_, rfl⟩
  obtain ⟨s, hs⟩ : ∃ s, s = 7 - i % 8 := ⟨_, rfl⟩
  obtain ⟨A, hA⟩ : ∃ A, A = V / 2 ^ (L - i) := ⟨_, rfl⟩
  have hA2 : V / 2 ^ (L - (i + 1)) = A * 2 + b := by
    have e : L - i = (L - (i + 1)) + 1 := by omega
    have e2 : L - 1 - i = L - (i + 1) := by omega
    rw [hA, hb, e, e2, Nat.pow_succ, ← Nat.div_div_eq_div_mul]
    omega
  have hq : i / 8 < nb := by omega
  refine ⟨b, hb, ?_⟩
  unfold laid
  rw [← hnb, ← hs, ← hA, hA2, beN_getD _ _ _ hq]
  -- what stands in a byte, before and behind
  have hE : 8 * nb - i = 8 * (nb - 1 - i / 8) + (s + 1) := by omega
  have hE2 : 8 * nb - (i + 1) = 8 * (nb - 1 - i / 8) + s := by omega
  have p256 : ∀ c : Nat, (256 : Nat) ^ c = 2 ^ (8 * c) := fun c => by rw [show (256 : Nat) = 2 ^ 8 from rfl, ← Nat.pow_mul]
  have h0 : (A * 2 ^ (8 * nb - i)) / 256 ^ (nb - 1 - i / 8) = A * 2 ^ (s + 1) := by
    rw [hE, p256, Nat.pow_add, Nat.mul_left_comm, Nat.mul_div_cancel_left _ (Nat.pow_pos (by omega))]
  have h1 : ((A * 2 + b) * 2 ^ (8 * nb - (i + 1))) / 256 ^ (nb - 1 - i / 8) = A * 2 ^ (s + 1) + b * 2 ^ s := by
    rw [hE2, p256, Nat.pow_add, Nat.mul_left_comm, Nat.mul_div_cancel_left _ (Nat.pow_pos (by omega)), Nat.add_mul, Nat.pow_succ, Nat.mul_assoc, Nat.mul_comm 2]
  have hs7 : s ≤ 7 := by omega
  have h256 : (256 : Nat) = 2 ^ (s + 1) * 2 ^ (7 - s) := by rw [← Nat.pow_add, show s + 1 + (7 - s) = 8 by omega]
  obtain ⟨m, hm⟩ : ∃ m, A * 2 ^ (s + 1) % 256 = m * 2 ^ (s + 1) ∧ m < 2 ^ (7 - s) := by
    refine ⟨A % 2 ^ (7 - s), ?_, Nat.mod_lt _ (Nat.pow_pos (by omega))⟩
    rw [h256, Nat.mul_comm A, Nat.mul_mod_mul_left, Nat.mul_comm]
  have hbyte : (UInt8.ofNat ((A * 2 ^ (8 * nb - i)) / 256 ^ (nb - 1 - i / 8))).toNat = m * 2 ^ (s + 1) := by rw [UInt8.toNat_ofNat', h0, ← hm.1]
  have hlt : m * 2 ^ (s + 1) + b * 2 ^ s < 256 := by
    have h3 : (m + 1) * 2 ^ (s + 1) ≤ 2 ^ (7 - s) * 2 ^ (s + 1) := Nat.mul_le_mul_right _ hm.2
    rw [Nat.mul_comm (2 ^ (7 - s)), ← h256, Nat.add_mul, Nat.one_mul] at h3
    have h4 : b * 2 ^ s ≤ 1 * 2 ^ s := Nat.mul_le_mul_right _ (by omega)
    have h5 : 2 ^ (s + 1) = 2 ^ s * 2 := Nat.pow_succ 2 s
    have h6 : 0 < 2 ^ s := Nat.pow_pos (by omega)
    omega
  rw [hbyte]
  refine ⟨by rw [Nat.mul_mod_left], hlt, ?_⟩
  apply List.ext_getElem
  · simp [length_beN]
  · intro q g1 g2
    rw [length_beN] at g1
    rw [beN_get, List.getElem_set]
    by_cases hqi : i / 8 = q
    · rw [if_pos hqi, ← hqi, h1]
      apply UInt8.toNat_inj.1
      rw [UInt8.toNat_ofNat', UInt8.toNat_ofNat']
      have hm1 := hm.1
      show (A * 2 ^ (s + 1) + b * 2 ^ s) % 256 = (m * 2 ^ (s + 1) + b * 2 ^ s) % 256
      generalize A * 2 ^ (s + 1) = a at *
      generalize m * 2 ^ (s + 1) = x at *
      generalize b * 2 ^ s = c at *
      omega
    · rw [if_neg hqi, beN_get]
      apply UInt8.toNat_inj.1
      rw [UInt8.toNat_ofNat', UInt8.toNat_ofNat', p256]
      by_cases hlt2 : q < i / 8
      · -- further up: nothing reaches there
        have hc : 8 * nb - i ≤ 8 * (nb - 1 - q) := by omega
        have k1 : ∀ x e c r : Nat, e ≤ c → r < 2 ^ e → (x * 2 ^ e + r) / 2 ^ c = x / 2 ^ (c - e) := fun x e c r hec hr => by
          have : (2 : Nat) ^ c = 2 ^ e * 2 ^ (c - e) := by rw [← Nat.pow_add]; congr 1; omega
          rw [this, ← Nat.div_div_eq_div_mul, Nat.mul_comm x, Nat.mul_add_div (Nat.pow_pos (by omega)), Nat.div_eq_of_lt hr, Nat.add_zero]
        have e1 : (A * 2 + b) * 2 ^ (8 * nb - (i + 1)) = A * 2 ^ (8 * nb - i) + b * 2 ^ (8 * nb - (i + 1)) := by
          have : 8 * nb - i = (8 * nb - (i + 1)) + 1 := by omega
          rw [this, Nat.pow_succ, Nat.add_mul, Nat.mul_assoc, Nat.mul_comm 2]
        rw [e1, k1 A _ _ _ hc (by
          have : 8 * nb - i = (8 * nb - (i + 1)) + 1 := by omega
          rw [this, Nat.pow_succ]
          have h4 : b * 2 ^ (8 * nb - (i + 1)) ≤ 1 * 2 ^ (8 * nb - (i + 1)) := Nat.mul_le_mul_right _ (by omega)
          have h6 : 0 < 2 ^ (8 * nb - (i + 1)) := Nat.pow_pos (by omega)
          omega)]
        have := k1 A (8 * nb - i) (8 * (nb - 1 - q)) 0 hc (Nat.pow_pos (by omega))
        rw [Nat.add_zero] at this
        rw [this]
      · -- further down: noughts
        have hc : 8 * (nb - 1 - q) + 8 ≤ 8 * nb - (i + 1) := by omega
        have k2 : ∀ x e c : Nat, c + 8 ≤ e → x * 2 ^ e / 2 ^ c % 2 ^ 8 = 0 := fun x e c hce => by
          have : (2 : Nat) ^ e = 2 ^ c * (2 ^ (e - c - 8) * 2 ^ 8) := by rw [← Nat.pow_add, ← Nat.pow_add]; congr 1; omega
          rw [this, Nat.mul_left_comm, Nat.mul_div_cancel_left _ (Nat.pow_pos (by omega)), ← Nat.mul_assoc, Nat.mul_mod_left]
        rw [k2 _ _ _ hc, k2 _ _ _ (by omega)]
end BitM

namespace Go.Proofs.YtocddhokjhfaaaaDoor
open Go.RowKit BitM
set_option linter.unusedVariables false

/-- A count of bits as it is taken. -/
def wi (n : Int) : Nat := min n.toNat 64
theorem wi_le (n : Int) : wi n ≤ 64 := by unfold wi; omega
theorem wi_val (n : Int) : min (max n 0) 64 = ((wi n : Nat) : Int) := by unfold wi; omega

theorem within_any (n : Int) (w : World) : Calls Tryd.prog 45 #[.int .i64 n] w fun e w' => e = .returned (.int .i64 (wi n : Int)) ∧ w = w' := by
  have h := wi_val n
  go_enter Tryd.func45, Tryd.ntmps45
  go_wp2_with fail
  go_ret
  exact ⟨by rw [← h]; rfl, rfl⟩

theorem low_any (n : Nat) (hn : n ≤ 64) (w : World) : Calls Tryd.prog 46 #[.int .i64 (n : Int)] w fun e w' => e = .returned (.int .u64 ((2 ^ n - 1 : Nat) : Int)) ∧ w = w' := by
  have h : IntKind.u64.wrap (IntKind.u64.wrap (1 * 2 ^ n) - 1) = ((2 ^ n - 1 : Nat) : Int) := by
    rcases Nat.lt_or_ge n 64 with h | h
    · have h1 : 2 ^ n ≤ 2 ^ 63 := Nat.pow_le_pow_right (by omega) (by omega)
      have h2 : 0 < 2 ^ n := Nat.pow_pos (by omega)
      have h3 : ((2 : Int) ^ n) = ((2 ^ n : Nat) : Int) := by simp
      rw [IntKind.wrap_u64, IntKind.wrap_u64, h3]
      omega
    · obtain rfl : n = 64 := by omega
      decide
  go_enter Tryd.func46, Tryd.ntmps46
  go_wp2_with fail
  go_ret
  rw [Int.one_mul] at h
  exact ⟨by rw [← h]; rfl, rfl⟩

/-- A Reader lies in block g. -/
def RdAt (w : World) (g : Nat) (A : Option Addr) (n c p : Nat) (bad : Bool) : Prop := w.heap[g]? = some (.cells #[.slice A n c, .int .i64 (p : Int), .bool bad] 100 (0, 0))

theorem new_any (A : Option Addr) (n c : Nat) (w : World) : Calls Tryd.prog 53 #[.slice A n c] w fun e w' => e = .returned (.pointer (some ⟨w.heap.size, 0, none⟩)) ∧ RdAt w' w.heap.size A n c 0 false ∧ w.heap.size < w'.heap.size ∧ Below w.heap.size w w' := by
  go_enter Tryd.func53, Tryd.ntmps53
  go_wp2_with fail
  go_ret
  exact ⟨rfl, heap_alloc_new _ _, by simp, (Below.refl _ _).alloc (Nat.le_refl _) _⟩

theorem RdAt.cells {w : World} {g : Nat} {A : Option Addr} {n c p : Nat} {bad : Bool} (h : RdAt w g A n c p bad) :
    w.cell? ⟨g, 0, none⟩ = some (.slice A n c) ∧ w.cell? ⟨g, 1, none⟩ = some (.int .i64 (p : Int)) ∧ w.cell? ⟨g, 2, none⟩ = some (.bool bad) ∧
    w.frozen? ⟨g, 0, none⟩ = false ∧ w.frozen? ⟨g, 1, none⟩ = false ∧ w.frozen? ⟨g, 2, none⟩ = false ∧ g < w.heap.size := by
  unfold RdAt at h
  refine ⟨?_, ?_, ?_, ?_, ?_, ?_, (Array.getElem?_eq_some_iff.1 h).1⟩ <;> simp [World.cell?, World.frozen?, h]

theorem bad_any (g : Nat) (A : Option Addr) (n c p : Nat) (bad : Bool) (w : World) (h : RdAt w g A n c p bad) : Calls Tryd.prog 66 #[.pointer (some ⟨g, 0, none⟩)] w fun e w' => e = .returned (.bool bad) ∧ w = w' := by
  obtain ⟨c0, c1, c2, _⟩ := h.cells
  go_enter Tryd.func66, Tryd.ntmps66
  go_wp2_with fail
  go_ret
  exact ⟨rfl, rfl⟩
theorem bad_nil (w : World) : Calls Tryd.prog 66 #[.pointer none] w fun e w' => e = .returned (.bool true) ∧ w = w' := by
  go_enter Tryd.func66, Tryd.ntmps66
  go_wp2_with fail
  go_ret
  exact ⟨rfl, rfl⟩
theorem left_nil (w : World) : Calls Tryd.prog 65 #[.pointer none] w fun e w' => e = .returned (.int .i64 0) ∧ w = w' := by
  go_enter Tryd.func65, Tryd.ntmps65
  go_wp2_with fail
  go_ret
  exact ⟨rfl, rfl⟩
theorem left_any (g : Nat) (A : Option Addr) (n c p : Nat) (bad : Bool) (w : World) (h : RdAt w g A n c p bad) (hn : n ≤ 1000000000) (hp : p ≤ 8 * n) :
    Calls Tryd.prog 65 #[.pointer (some ⟨g, 0, none⟩)] w fun e w' => e = .returned (.int .i64 ((8 * n - p : Nat) : Int)) ∧ Below w.heap.size w w' := by
  obtain ⟨c0, c1, c2, _⟩ := h.cells
  have s1 : IntKind.i64.wrap ((n : Int) * 8) = (n : Int) * 8 := IntWalk.i64_in _ (by omega)
  have s2 : IntKind.i64.wrap ((n : Int) * 8 - (p : Int)) = ((8 * n - p : Nat) : Int) := by rw [IntWalk.i64_in _ (by omega)]; omega
  go_enter Tryd.func65, Tryd.ntmps65
  go_wp2_with fail
  go_quiet (fail)
  go_wp2_with fail
  go_ret
  exact ⟨rfl, below_drewN (Below.refl _ _) _⟩
end Go.Proofs.YtocddhokjhfaaaaDoor

namespace Go.Proofs.YtocddhokjhfaaaaDoor
open Go.RowKit BitM
set_option linter.unusedVariables false

theorem take_nil (n : Int) (w : World) : Calls Tryd.prog 54 #[.pointer none, .int .i64 n] w fun e w' => e = .returned (.int .u64 0) ∧ w = w' := by
  go_enter Tryd.func54, Tryd.ntmps54
  go_wp2_with (go_at_call 45; refine (within_any _ _).mono ?_; rintro e w1 ⟨rfl, rfl⟩)
  go_ret
  exact ⟨rfl, rfl⟩

theorem RdAt.set1 {w : World} {g : Nat} {A : Option Addr} {n c p : Nat} {bad : Bool} (h : RdAt w g A n c p bad) (q : Nat) : RdAt (w.setCell ⟨g, 1, none⟩ (.int .i64 (q : Int))) g A n c q bad := by
  unfold RdAt at *
  rw [heap_setCell_same w g 1 _ _ _ h]
  rfl
theorem RdAt.set2 {w : World} {g : Nat} {A : Option Addr} {n c p : Nat} {bad : Bool} (h : RdAt w g A n c p bad) (b : Bool) : RdAt (w.setCell ⟨g, 2, none⟩ (.bool b)) g A n c p b := by
  unfold RdAt at *
  rw [heap_setCell_same w g 2 _ _ _ h]
  rfl
theorem RdAt.below {w w' : World} {g : Nat} {A : Option Addr} {n c p : Nat} {bad : Bool} (h : RdAt w g A n c p bad) (hb : Below w.heap.size w w') : RdAt w' g A n c p bad := by
  have := h.cells.2.2.2.2.2.2
  unfold RdAt at *
  rw [hb.block g this, h]
theorem grown_set {w w' : World} {g : Nat} (h : w.grownBy w' (some g)) (i : Nat) (v : Value) : w.grownBy (w'.setCell ⟨g, i, none⟩ v) (some g) :=
  ⟨h.os, h.tape, h.output, by simpa using h.size, fun k hk hne => (Below.heap_setCell w' ⟨g, i, none⟩ v k (fun e => hne (by rw [e]))).trans (h.block k hk hne)⟩
theorem grown_below_any {w w' w2 : World} {r : Option Nat} (h : w.grownBy w' r) (hb : Below w'.heap.size w' w2) : w.grownBy w2 r :=
  h.trans ⟨hb.os, hb.tape, hb.output, hb.size, fun k hk _ => hb.block k hk⟩
/-- The bytes that a Reader reads lie in another block. -/
theorem RdAt.apart {w : World} {g : Nat} {A : Option Addr} {n c p : Nat} {bad : Bool} (h : RdAt w g A n c p bad) {b off : Nat} {xs : List UInt8} (hx : BytesAt w (some ⟨b, off, none⟩) xs) (hne : xs ≠ []) : b ≠ g := by
  rintro rfl
  obtain ⟨b', off', he, hc⟩ := hx hne
  injection he with he
  injection he with h1 h2
  subst h1 h2
  have h0 := hc 0 (List.length_pos_iff.2 hne)
  unfold RdAt at h
  rw [cell_of_row w b _ _ _ _ h] at h0
  rcases (by omega : off = 0 ∨ off = 1 ∨ off = 2 ∨ 3 ≤ off) with rfl | rfl | rfl | h3
  · simp at h0
  · simp at h0
  · simp at h0
  · rw [Array.getElem?_eq_none (by simp; omega)] at h0
    cases h0
theorem bytes_beside {w w' : World} {g b off : Nat} {xs : List UInt8} (hx : BytesAt w (some ⟨b, off, none⟩) xs) (hg : w.grownBy w' (some g)) (hne : b ≠ g) : BytesAt w' (some ⟨b, off, none⟩) xs := fun h0 => by
  obtain ⟨b', off', he, hc⟩ := hx h0
  injection he with he
  injection he with h1 h2
  subst h1 h2
  refine ⟨b, off, rfl, fun k hk => ?_⟩
  have h1 := hc k hk
  rw [← h1]
  exact World.cell?_of_block (hg.block b (World.block_lt_of_cell? w _ h1) (by simp; exact fun e => hne e))

set_option maxRecDepth 100000 in
theorem take_bad (g : Nat) (A : Option Addr) (len c p : Nat) (bad : Bool) (n : Int) (w : World) (h : RdAt w g A len c p bad) (hl : len ≤ 1000000000) (hp : p ≤ 8 * len) (hb : bad = true ∨ 8 * len - p < wi n) :
    Calls Tryd.prog 54 #[.pointer (some ⟨g, 0, none⟩), .int .i64 n] w fun e w' => e = .returned (.int .u64 0) ∧ RdAt w' g A len c p true ∧ w.grownBy w' (some g) := by
  obtain ⟨c0, c1, c2, f0, f1, f2, hlt⟩ := h.cells
  have hwl := wi_le n
  obtain ⟨m, hm⟩ : ∃ m, m = wi n := ⟨_, rfl⟩
  cases bad with
  | true =>
    clear hb
    go_enter Tryd.func54, Tryd.ntmps54
    go_wp2_with (go_at_call 45; refine (within_any _ _).mono ?_; rintro e w1 ⟨rfl, rfl⟩)
    go_ret
    exact ⟨rfl, h.set2 true, grown_set (World.grownBy.refl w _) 2 _⟩
  | false =>
    have hb2 : 8 * len - p < m := by rw [hm]; rcases hb with hb | hb; (cases hb); exact hb
    clear hb
    have HM := Lib.hid hm
    rw [← hm] at hwl
    clear hm
    go_enter Tryd.func54, Tryd.ntmps54
    go_wp2_with (first
      | (go_at_call 45; refine (within_any _ _).mono ?_; rw [← HM.out]; rintro e w1 ⟨rfl, rfl⟩)
      | (go_at_call 65; refine (left_any g A len c p false _ h hl hp).mono ?_; rintro e w2 ⟨rfl, hbl⟩; have h2 := h.below hbl; obtain ⟨d0, d1, d2, g0, g1, g2, hlt2⟩ := h2.cells))
    go_ret
    exact ⟨rfl, h2.set2 true, grown_set (grown_below_any (World.grownBy.refl w _) hbl) 2 _⟩

theorem low_below (n : Nat) (hn : n ≤ 64) (w : World) : Calls Tryd.prog 46 #[.int .i64 (n : Int)] w fun e w' => e = .returned (.int .u64 ((2 ^ n - 1 : Nat) : Int)) ∧ Below w.heap.size w w' :=
  (low_any n hn w).mono fun e w' ⟨he, hw⟩ => ⟨he, by rw [← hw]; exact Below.refl _ _⟩

theorem and_low (x k : Nat) (hx : x < 18446744073709551616) (hk : k ≤ 64) : bits BinOp.and IntKind.u64 (x : Int) ((2 ^ k - 1 : Nat) : Int) = ((x % 2 ^ k : Nat) : Int) := by
  have h1 : 2 ^ k ≤ 2 ^ 64 := Nat.pow_le_pow_right (by omega) hk
  rw [u64_and_nat _ _ hx (by omega), Nat.and_two_pow_sub_one_eq_mod]
theorem or_join (a z k : Nat) (hz : z < 2 ^ k) (h : a * 2 ^ k + z < 18446744073709551616) : bits BinOp.or IntKind.u64 ((a * 2 ^ k : Nat) : Int) (z : Int) = ((a * 2 ^ k + z : Nat) : Int) := by
  rw [u64_or_nat _ _ (by omega) (by omega), ← Nat.shiftLeft_eq, ← Nat.shiftLeft_add_eq_or_of_lt hz]

set_option maxHeartbeats 400000 in
set_option maxRecDepth 100000 in
theorem take_ok (g b off : Nat) (len c p : Nat) (n : Int) (xs : List UInt8) (w : World) (h : RdAt w g (some ⟨b, off, none⟩) len c p false) (hx : BytesAt w (some ⟨b, off, none⟩) xs) (hxl : xs.length = len) (hl : len ≤ 1000000000) (hbg : b ≠ g) (hb : p + wi n ≤ 8 * len) :
    Calls Tryd.prog 54 #[.pointer (some ⟨g, 0, none⟩), .int .i64 n] w fun e w' => e = .returned (.int .u64 (mid (valB xs) (8 * len) p (p + wi n) : Nat)) ∧ RdAt w' g (some ⟨b, off, none⟩) len c (p + wi n) false ∧ w.grownBy w' (some g) := by
  obtain ⟨c0, c1, c2, f0, f1, f2, hlt⟩ := h.cells
  have hwl := wi_le n
  obtain ⟨m, hm⟩ : ∃ m, m = wi n := ⟨_, rfl⟩
  rw [← hm] at hb hwl ⊢
  have HM := Lib.hid hm
  clear hm
  obtain ⟨B, hB⟩ : ∃ B, B = valB xs := ⟨_, rfl⟩
  rw [← hB]
  have HB := Lib.hid hB
  clear hB
  have hb2 : ¬ (8 * len - p < m) := by omega
  have hb3 : m ≤ 8 * len - p := by omega
  go_enter Tryd.func54, Tryd.ntmps54
  go_wp2_with (first
    | (go_at_call 45; refine (within_any _ _).mono ?_; rw [← HM.out]; rintro e w1 ⟨rfl, rfl⟩)
    | (go_at_call 65; refine (left_any g _ len c p false _ h hl (by omega)).mono ?_; rintro e w2 ⟨rfl, hbl⟩; have h2 := h.below hbl; obtain ⟨d0, d1, d2, g0, g1, g2, hlt2⟩ := h2.cells))
  have h3 := h2.set2 false
  have hg3 := grown_set (grown_below_any (World.grownBy.refl w _) hbl) (g := g) 2 (.bool false)
  clear c0 c1 c2 f0 f1 f2 d0 d1 d2 g0 g1 g2 h2 hlt2
  generalize w2.setCell ⟨g, 2, none⟩ (.bool false) = wq at *
  have hxq := bytes_beside hx hg3 hbg
  clear hb2 hb3 hbl hx
  go_loopw [1, 5] (fun i v wr => ∃ j P rr : Nat, j ≤ m ∧ Hid (P = p + j) ∧ Hid (rr = m - j) ∧ i = .int .i64 rr ∧ v = .int .u64 (mid B (8 * len) p P : Nat) ∧ RdAt wr g (some ⟨b, off, none⟩) len c P false ∧ wq.grownBy wr (some g)) (fun i _ _ => (intOf i).toNat)
  case atStart => exact ⟨0, p, m, by omega, Lib.hid rfl, Lib.hid rfl, rfl, by rw [mid_none]; rfl, h3, World.grownBy.refl wq _⟩
  case round =>
    obtain ⟨j, P, rr, hj, HP, HRR, rfl, rfl, hr, hg⟩ := hrel
    obtain ⟨c0, c1, c2, f0, f1, f2, hlt⟩ := hr.cells
    by_cases hjm : 0 < rr
    · have hP8 : P < 8 * len := by have := HP.out; have := HRR.out; omega
      obtain ⟨f, hf⟩ : ∃ f, f = 8 - P % 8 := ⟨_, rfl⟩
      obtain ⟨k, hk⟩ : ∃ k, k = min rr f := ⟨_, rfl⟩
      obtain ⟨q, hq⟩ : ∃ q, q = P / 8 := ⟨_, rfl⟩
      have hk1 : 1 ≤ k := by omega
      have hkf : k ≤ f := by omega
      have hkr : k ≤ rr := by omega
      have hf8 : f ≤ 8 := by omega
      have hql : q < xs.length := by omega
      have hw1 : (8 : Int) - (P : Int) % 8 = (f : Int) := by omega
      have hw2 : min (rr : Int) (f : Int) = (k : Int) := by omega
      obtain ⟨b', off', he, hc⟩ := (bytes_beside hxq hg hbg) (by intro h0; rw [h0] at hql; simp at hql)
      injection he with he
      injection he with e1 e2
      subst e1 e2
      have hcq := hc q hql
      clear hc
      have hmid := mid_byte xs P k (by omega) (by omega)
      have hmore := mid_more B (8 * len) p P k (by have := HP.out; omega) (by have := HP.out; have := HRR.out; omega)
      obtain ⟨x, hxv⟩ : ∃ x : Nat, x = xs[q].toNat := ⟨_, rfl⟩
      have hx8 : x < 256 := by rw [hxv]; exact xs[q].toNat_lt
      rw [← hxv] at hcq
      obtain ⟨d, hd⟩ : ∃ d, d = f - k := ⟨_, rfl⟩
      have hz : mid B (8 * len) P (P + k) = x / 2 ^ d % 2 ^ k := by
        subst hf hd hq
        rw [HB.out, ← hxl, hmid, hxv]
      rw [hz] at hmore
      have hmlt : mid B (8 * len) p (P + k) < 18446744073709551616 := by
        have h1 := mid_lt B (8 * len) p (P + k)
        have h2 : 2 ^ (P + k - p) ≤ 2 ^ 64 := Nat.pow_le_pow_right (by omega) (by have := HP.out; have := HRR.out; omega)
        omega
      obtain ⟨M, hM⟩ : ∃ M, M = mid B (8 * len) p P := ⟨_, rfl⟩
      rw [← hM] at hmore ⊢
      rw [hmore] at hmlt
      have hzlt : x / 2 ^ d % 2 ^ k < 2 ^ k := Nat.mod_lt _ (Nat.pow_pos (by omega))
      obtain ⟨z, hzz⟩ : ∃ z, z = x / 2 ^ d % 2 ^ k := ⟨_, rfl⟩
      rw [← hzz] at hmore hmlt hzlt
      have hxd : x / 2 ^ d < 18446744073709551616 := Nat.lt_of_le_of_lt (Nat.div_le_self _ _) (by omega)
      have v1 : (P : Int).tdiv 8 = (q : Int) := by rw [Int.tdiv_eq_ediv_of_nonneg (by omega)]; omega
      have v2 : IntKind.i64.wrap (q : Int) = (q : Int) := IntWalk.i64_in _ (by omega)
      have v3 : IntKind.u64.wrap (x : Int) = (x : Int) := by rw [IntKind.wrap_u64]; omega
      have v4 : IntKind.i64.wrap ((f : Int) - (k : Int)) = (d : Int) := by rw [IntWalk.i64_in _ (by omega)]; omega
      have v5 : (x : Int) / 2 ^ d = ((x / 2 ^ d : Nat) : Int) := by simp
      have v6 : bits BinOp.and IntKind.u64 ((x / 2 ^ d : Nat) : Int) ((2 ^ k - 1 : Nat) : Int) = (z : Int) := by rw [and_low _ _ hxd (by omega), hzz]
      have v7 : IntKind.u64.wrap ((M : Int) * 2 ^ k) = ((M * 2 ^ k : Nat) : Int) := by
        have : (M : Int) * 2 ^ k = ((M * 2 ^ k : Nat) : Int) := by simp
        rw [this, IntKind.wrap_u64]
        omega
      have v8 := or_join M z k hzlt hmlt
      have V6 := Lib.hid v6
      have V7 := Lib.hid v7
      have V8 := Lib.hid v8
      have HF := Lib.hid hf
      have HK := Lib.hid hk
      have HQ := Lib.hid hq
      have HD := Lib.hid hd
      have HMORE := Lib.hid hmore
      have hd0 : (0 : Int) ≤ (d : Int) := by omega
      have hqn : q < len := by omega
      have hk64 : k ≤ 64 := by omega
      clear v6 v7 v8 hf hk hq hd hmore hz hzz hmlt hM hxv hmid
      go_wp2_with fail
      have hblt := World.block_lt_of_cell? wr _ hcq
      have k0 : ∀ y : SubW wr.heap.size wr, y.at_.cell? ⟨g, 0, none⟩ = some (.slice (some ⟨b, off, none⟩) len c) := fun y => (World.cell?_of_block (a := ⟨g, 0, none⟩) (y.ok_.block _ hlt)).trans c0
      have k1 : ∀ y : SubW wr.heap.size wr, y.at_.cell? ⟨g, 1, none⟩ = some (.int .i64 (P : Int)) := fun y => (World.cell?_of_block (a := ⟨g, 1, none⟩) (y.ok_.block _ hlt)).trans c1
      have k2 : ∀ y : SubW wr.heap.size wr, y.at_.cell? ⟨b, off + q, none⟩ = some (.int .u8 (x : Int)) := fun y => (World.cell?_of_block (a := ⟨b, off + q, none⟩) (y.ok_.block _ hblt)).trans hcq
      refine region_below wr.heap.size wr (Below.refl _ _) (by kernel_rfl) (by kernel_rfl) ?_
      repeat (go_big_quiet_step ((go_at_call 46; exact calls_sub (Nat.le_refl _) (low_below k hk64 _))))
      refine wpQuiet_nil ?_
      rintro w' ⟨y, rfl⟩
      have hry := hr.below y.ok_
      obtain ⟨d0, d1, d2, g0, g1, g2, hlt2⟩ := hry.cells
      go_wp2_with fail
      have hd8 : min d 64 = d := by have := HD.out; omega
      have hrk : wrap64 ((rr : Int) - (k : Int)) = ((rr - k : Nat) : Int) := by rw [IntWalk.wrap64_in _ (by have := HRR.out; omega)]; omega
      rw [hd8, v5, V6.out, V7.out, V8.out, hrk]
      go_roundw
      case rel =>
        refine ⟨j + k, P + k, rr - k, by have := HRR.out; omega, Lib.hid (by have := HP.out; omega), Lib.hid (by have := HRR.out; omega), rfl, ?_, ?_, ?_⟩
        · rw [HMORE.out]
        · exact hry.set1 (P + k)
        · exact grown_set (grown_below_any hg y.ok_) 1 _
      case measure => simp [intOf]; omega
    · obtain rfl : rr = 0 := by omega
      obtain rfl : j = m := by have := HRR.out; omega
      have hPP := HP.out
      subst hPP
      clear HP HRR
      go_wp2_with fail
      go_ret
      exact ⟨rfl, hr, hg3.trans hg⟩
end Go.Proofs.YtocddhokjhfaaaaDoor

namespace Go.Proofs.YtocddhokjhfaaaaDoor
open Go.RowKit VarM
set_option linter.unusedVariables false

theorem byte_or (m : Nat) : bits BinOp.or IntKind.u8 ((m : Int) % 256) 128 = ((UInt8.ofNat (m % 128 + 128)).toNat : Int) := by
  have e : bits BinOp.or IntKind.u8 ((m % 256 : Nat) : Int) ((128 : Nat) : Int) = ((m % 256 ||| 128 : Nat) : Int) := u8_or_nat _ _ (by omega) (by omega)
  rw [show ((m : Int) % 256) = ((m % 256 : Nat) : Int) from rfl, show (128 : Int) = ((128 : Nat) : Int) from rfl, e, UInt8.toNat_ofNat']
  have key : ∀ a : Fin 256, a.val ||| 128 = (a.val % 128 + 128) % 2 ^ 8 := by decide +kernel
  have := key ⟨m % 256, by omega⟩
  simp only at this
  rw [this, show m % 256 % 128 = m % 128 by omega]

set_option maxRecDepth 100000 in
theorem put_any (A : Option Addr) (len c : Nat) (xs : List UInt8) (w : World) (hn : xs.length = len) (hx : BytesAt w A xs) (hl : len ≤ 100000000) (h0 : A = none → len = 0 ∧ c = 0) (n : Nat) (hn64 : n < 18446744073709551616) :
    Calls Tryd.prog 32 #[.slice A len c, .int .u64 n] w fun e w' => ∃ A' c', e = .returned (.slice A' (xs ++ vput n).length c') ∧ OwnS w' w.heap.size (.slice A' (xs ++ vput n).length c') 5 (xs ++ vput n) ∧ Below w.heap.size w w' := by
  go_enter Tryd.func32, Tryd.ntmps32
  go_wp2_with (go_at_call 48; refine (clone_any A len c xs _ hn hx (by omega) h0).mono ?_; rintro e w1 ⟨A1, c1, rfl, ho1, hb1⟩)
  go_loopw [5, 1] (fun v m wr => ∃ (done : List UInt8) (k : Nat) (A1 : Option Addr) (c1 : Nat), done ++ vput k = vput n ∧ k < 18446744073709551616 ∧ m = .int .u64 k ∧ v = .slice A1 (xs ++ done).length c1 ∧ OwnS wr w.heap.size (.slice A1 (xs ++ done).length c1) 5 (xs ++ done) ∧ Below w.heap.size w wr) (fun _ m _ => (intOf m).toNat)
  case atStart => exact ⟨[], n, A1, c1, rfl, hn64, rfl, by rw [List.append_nil, hn], by rw [List.append_nil, hn]; exact ho1, hb1⟩
  case round =>
    obtain ⟨done, k, A2, c2, hd, hk, rfl, rfl, ho, hb⟩ := hrel
    have hdl : (xs ++ done).length + 1 ≤ 140737488355328 := by
      have h1 := congrArg List.length hd
      have h2 := vput_len10 hn64
      simp at h1 ⊢
      omega
    generalize hX : xs ++ done = X at *
    have HD := Lib.hid hd
    have HX := Lib.hid hX
    clear hd hX
    by_cases hlt : k < 128
    · have hd : decide (128 ≤ (k : Int)) = false := by simp; omega
      have hz := Lib.hid (show (k : Int) = ((UInt8.ofNat k).toNat : Int) by rw [UInt8.toNat_ofNat']; omega)
      go_wp2_with (at_builtin; refine wpList_append_s rfl (.tmp 18) (.tmp 21) 24 rfl Tryd.underlying24 infoU8 rfl (ho.alloc _) _ _ 1 [UInt8.ofNat k] rfl rfl (bytesAt_one _ _ _ _ hz.out) hdl (by have := hb.size; simp; omega) ?_; intro A3 c3 w3 ho3 hg3)
      go_ret
      have hfin : X ++ [UInt8.ofNat k] = xs ++ vput n := by
        rw [← HX.out, ← HD.out, vput_low hlt, List.append_assoc]
      refine ⟨A3, c3, by rw [← hfin, List.length_append]; rfl, by rw [← hfin]; exact ho3, (ho.alloc _).belowGrown (Nat.le_refl _) (by have := hb.size; simp; omega) (below_alloc (Nat.le_refl _) hb _) hg3⟩
    · have hd : decide (128 ≤ (k : Int)) = true := by simp; omega
      have hz := Lib.hid (byte_or k)
      go_wp2_with (at_builtin; refine wpList_append_s rfl (.tmp 10) (.tmp 14) 24 rfl Tryd.underlying24 infoU8 rfl (ho.alloc _) _ _ 1 [UInt8.ofNat (k % 128 + 128)] rfl rfl (bytesAt_one _ _ _ _ hz.out) hdl (by have := hb.size; simp; omega) ?_; intro A3 c3 w3 ho3 hg3)
      go_roundw
      case rel =>
        refine ⟨done ++ [UInt8.ofNat (k % 128 + 128)], k / 128, A3, c3, ?_, by omega, by go_num, ?_, ?_, (ho.alloc _).belowGrown (Nat.le_refl _) (by have := hb.size; simp; omega) (below_alloc (Nat.le_refl _) hb _) hg3⟩
        · rw [← HD.out, vput_high hlt, List.append_assoc]; rfl
        · rw [← List.append_assoc, HX.out, List.length_append]; rfl
        · rw [← List.append_assoc, HX.out]; exact ho3
      case measure => simp [intOf]; omega

theorem rem128 (k : Nat) : (k : Int) % 128 + 128 = ((UInt8.ofNat (k % 128 + 128)).toNat : Int) := by rw [UInt8.toNat_ofNat']; omega

theorem or_add (a c i : Nat) (ha : a < 2 ^ (7 * i)) : a ||| c * 2 ^ (7 * i) = a + c * 2 ^ (7 * i) := by
  rw [Nat.or_comm, ← Nat.shiftLeft_eq, ← Nat.shiftLeft_add_eq_or_of_lt ha]
  omega

theorem andNot128 (c : UInt8) : bits BinOp.andNot IntKind.u8 (c.toNat : Int) 128 = ((c.toNat % 128 : Nat) : Int) := by
  have hc := c.toNat_lt
  have e : bits BinOp.andNot IntKind.u8 (c.toNat : Int) ((128 : Nat) : Int) = ((c.toNat &&& (255 - 128) : Nat) : Int) := u8_andNot_nat _ _ (by omega) (by omega)
  rw [show (128 : Int) = ((128 : Nat) : Int) from rfl, e]
  have : c.toNat &&& (2 ^ 7 - 1) = c.toNat % 2 ^ 7 := Nat.and_two_pow_sub_one_eq_mod _ 7
  simp only [Nat.reduceSub, Nat.reducePow] at *
  rw [this]

theorem get_lt (a n k : Nat) (ha : a < 2 ^ (7 * k)) : a + n % 128 * 2 ^ (7 * k) < 2 ^ (7 * (k + 1)) := by
  rw [pow7]
  have : n % 128 * 2 ^ (7 * k) ≤ 127 * 2 ^ (7 * k) := Nat.mul_le_mul_right _ (by omega)
  omega

theorem get_or (a n k : Nat) (hn : n < 2 ^ 8) (ha : a < 2 ^ (7 * k)) (hk : k ≤ 9) (h9 : k = 9 → n ≤ 1) :
    bits BinOp.or IntKind.u64 (a : Int) (IntKind.u64.wrap (IntKind.u64.wrap (bits BinOp.andNot IntKind.u8 (n : Int) 128) * 2 ^ (7 * k))) = ((a + n % 128 * 2 ^ (7 * k) : Nat) : Int) := by
  have hu : bits BinOp.andNot IntKind.u8 (n : Int) 128 = ((n % 128 : Nat) : Int) := by
    have := andNot128 (UInt8.ofNat n)
    rw [ofNat_toNat (by omega)] at this
    exact this
  have hlt : a + n % 128 * 2 ^ (7 * k) < 18446744073709551616 := by
    by_cases h : k = 9
    · subst h
      have := h9 rfl
      have : n % 128 ≤ 1 := by omega
      have : n % 128 * 2 ^ (7 * 9) ≤ 1 * 2 ^ (7 * 9) := Nat.mul_le_mul_right _ this
      omega
    · have h1 := get_lt a n k ha
      have h2 : 2 ^ (7 * (k + 1)) ≤ 2 ^ 63 := Nat.pow_le_pow_right (by omega) (by omega)
      omega
  rw [hu]
  have e1 : IntKind.u64.wrap ((n % 128 : Nat) : Int) = ((n % 128 : Nat) : Int) := by rw [IntKind.wrap_u64]; omega
  have e2 : ((n % 128 : Nat) : Int) * 2 ^ (7 * k) = ((n % 128 * 2 ^ (7 * k) : Nat) : Int) := by simp
  have e3 : IntKind.u64.wrap ((n % 128 * 2 ^ (7 * k) : Nat) : Int) = ((n % 128 * 2 ^ (7 * k) : Nat) : Int) := by rw [IntKind.wrap_u64]; omega
  rw [e1, e2, e3, u64_or_nat _ _ (by omega) (by omega), or_add a (n % 128) k ha]

theorem get_ret {a b c d : Int} (h : a = b) (h2 : c = d) : Ending.returned (.tuple #[.int .u64 a, .int .i64 c, .int .i64 0]) = Ending.returned (.tuple #[.int .u64 b, .int .i64 d, .int .i64 0]) := by rw [h, h2]

set_option maxRecDepth 100000 in
theorem get_any (A : Option Addr) (len c : Nat) (xs : List UInt8) (w : World) (hn : xs.length = len) (hx : BytesAt w A xs) :
    Calls Tryd.prog 56 #[.slice A len c] w fun e w' => e = .returned (.tuple #[.int .u64 (vget xs 0 0).1, .int .i64 (vget xs 0 0).2.1, .int .i64 (vget xs 0 0).2.2]) ∧ w = w' := by
  subst hn
  obtain ⟨R, hR0⟩ : ∃ R, R = vget xs 0 0 := ⟨_, rfl⟩
  rw [← hR0]
  have hR := Lib.hid hR0
  clear hR0
  go_enter Tryd.func56, Tryd.ntmps56
  go_wp2_with fail
  go_loop [5, 10] (fun v i => ∃ k a : Nat, k ≤ xs.length ∧ k ≤ 9 ∧ a < 2 ^ (7 * k) ∧ R = vget (xs.drop k) k a ∧ i = .int .i64 k ∧ v = .int .u64 a) (fun _ i => xs.length - (intOf i).toNat)
  case atStart => exact ⟨0, 0, by omega, by omega, by simp, hR.out, rfl, rfl⟩
  case round =>
    obtain ⟨k, a, hk, hk9, ha, hr, rfl, rfl⟩ := hrel
    by_cases hlt : k < xs.length
    · obtain ⟨b, off, rfl, hc⟩ := hx (by intro h; subst h; simp at hlt)
      have hck := hc k hlt
      clear hc
      have hd : xs.drop k = xs[k] :: xs.drop (k + 1) := List.drop_eq_getElem_cons hlt
      rw [hd] at hr
      clear hd
      have hu := andNot128 xs[k]
      simp only [vget] at hr
      have hn := xs[k].toNat_lt
      generalize xs[k].toNat = n at *
      have HR := Lib.hid hr
      have HU := Lib.hid hu
      clear hr hu
      go_wp2_with fail
      all_goals try have e0 : n = 0 := by simpa using (by assumption : ((n : Int) == 0) = true)
      all_goals try have e1 : n ≠ 0 := by simpa using (by assumption : ((n : Int) == 0) = false)
      · go_ret3
        refine ⟨?_, rfl⟩
        rw [show R = (0, 0, 3) by rw [HR.out]; first | rw [if_pos (by omega)] | rw [if_neg (by omega), if_pos (by omega)]]
        rfl
      · go_ret3
        refine ⟨?_, rfl⟩
        rw [show R = (0, 0, 3) by rw [HR.out]; first | rw [if_pos (by omega)] | rw [if_neg (by omega), if_pos (by omega)]]
        rfl
      · go_ret3
        refine ⟨?_, rfl⟩
        rw [show R = (a + n % 128 * 2 ^ (7 * k), k + 1, 0) by rw [HR.out, if_neg (by omega), if_neg (by omega), if_pos (by omega)]]
        refine get_ret ?_ ?_
        · obtain rfl : k = 9 := by omega
          exact get_or a n 9 hn ha (by omega) (by omega)
        · first | (rfl; done) | omega | (simp; done) | (simp; omega)
      · go_ret3
        refine ⟨?_, rfl⟩
        rw [show R = (0, 0, 3) by rw [HR.out]; first | rw [if_pos (by omega)] | rw [if_neg (by omega), if_pos (by omega)]]
        rfl
      · go_ret3
        refine ⟨?_, rfl⟩
        rw [show R = (a + n % 128 * 2 ^ (7 * k), k + 1, 0) by rw [HR.out, if_neg (by omega), if_neg (by omega), if_pos (by omega)]]
        refine get_ret ?_ ?_
        · exact get_or a n k hn ha (by omega) (by omega)
        · first | (rfl; done) | omega | (simp; done) | (simp; omega)
      · go_round
        case rel =>
          refine ⟨k + 1, a + n % 128 * 2 ^ (7 * k), by omega, by omega, get_lt a n k ha, ?_, by go_num, congrArg (Value.int .u64) (get_or a n k hn ha hk9 (by omega))⟩
          rw [HR.out, if_neg (by omega), if_neg (by omega), if_neg (by omega)]
        case measure => simp [intOf]; omega
      · go_ret3
        refine ⟨?_, rfl⟩
        rw [show R = (a + n % 128 * 2 ^ (7 * k), k + 1, 0) by rw [HR.out, if_neg (by omega), if_neg (by omega), if_pos (by omega)]]
        refine get_ret ?_ ?_
        · obtain rfl : k = 0 := by omega
          exact get_or a n 0 hn ha (by omega) (by omega)
        · first | (rfl; done) | omega | (simp; done) | (simp; omega)
      · go_round
        case rel =>
          refine ⟨k + 1, a + n % 128 * 2 ^ (7 * k), by omega, by omega, get_lt a n k ha, ?_, by go_num, congrArg (Value.int .u64) (get_or a n k hn ha hk9 (by omega))⟩
          rw [HR.out, if_neg (by omega), if_neg (by omega), if_neg (by omega)]
        case measure => simp [intOf]; omega
    · obtain rfl : k = xs.length := by omega
      rw [List.drop_length] at hr
      simp only [vget] at hr
      subst hr
      go_wp2_with fail
      go_ret3
      exact ⟨rfl, rfl⟩
end Go.Proofs.YtocddhokjhfaaaaDoor

namespace Go.Proofs.YtocddhokjhfaaaaDoor
open Go.RowKit VarM
set_option linter.unusedVariables false

theorem bytesAt_block {w : World} {g : Nat} {t : TypeId} {fr : Nat × Nat} (xs : List UInt8) (h : w.heap[g]? = some (.cells (xs.map fun c => Value.int .u8 (c.toNat : Int)).toArray t fr)) : BytesAt w (some ⟨g, 0, none⟩) xs := fun _ =>
  ⟨g, 0, rfl, fun k hk => by rw [cell_of_row w g (0 + k) _ t fr h]; simp [hk]⟩

theorem text_n {w : World} (A : Option Addr) (n c : Nat) (xs : List UInt8) (hn : xs.length = n) (hA : BytesAt w A xs) :
    (convert 24 9 (.slice A n c)).run Tryd.prog w = .ok (.string ⟨xs.toArray⟩) w := by
  subst hn
  exact run_text (P := Tryd.prog) 24 9 Tryd.underlying24 Tryd.underlying5 Tryd.underlying9 A c hA

theorem get_lit (g : Nat) (w : World) (h : w.heap[g]? = some (.cells #[.int .u8 172, .int .u8 2] 5 (0, 0))) :
    Calls Tryd.prog 56 #[.slice (some ⟨g, 0, none⟩) 2 2] w fun e w' => e = .returned (.tuple #[.int .u64 300, .int .i64 2, .int .i64 0]) ∧ w = w' :=
  get_any _ 2 2 [172, 2] w rfl (bytesAt_block [172, 2] h)

theorem vput300 : vput 300 = [172, 2] := by rw [vput_high (by omega), vput_low (by omega)]; rfl

theorem put_lit (w : World) : Calls Tryd.prog 32 #[.slice none 0 0, .int .u64 300] w fun e w' => ∃ A' c', e = .returned (.slice A' 2 c') ∧ BytesAt w' A' [172, 2] ∧ Below w.heap.size w w' := by
  refine (put_any none 0 0 [] w rfl (fun h => absurd rfl h) (by omega) (fun _ => ⟨rfl, rfl⟩) 300 (by omega)).mono ?_
  rintro e w' ⟨A', c', rfl, ho, hb⟩
  rw [List.nil_append, vput300] at *
  obtain ⟨A2, c2, he, hby, _⟩ := ho.slice
  injection he with h1 h2 h3
  subst h1
  exact ⟨A', c', rfl, hby, hb⟩

theorem zig_lit (w : World) : Calls Tryd.prog 33 #[.int .i64 (-1)] w fun e w' => e = .returned (.int .u64 1) ∧ w = w' := zig_any (-1) (by omega) (by omega) w
theorem zag_lit (w : World) : Calls Tryd.prog 57 #[.int .u64 1] w fun e w' => e = .returned (.int .i64 (-1)) ∧ w = w' := zag_any 1 (by omega) w

theorem zig_any' (n : Int) (h1 : -9223372036854775808 ≤ n) (h2 : n ≤ 9223372036854775807) (z : Nat) (hz : zig n = z) (w : World) : Calls Tryd.prog 33 #[.int .i64 n] w fun e w' => e = .returned (.int .u64 (z : Int)) ∧ w = w' := by subst hz; exact zig_any n h1 h2 w
theorem zag_any' (m : Nat) (h1 : m < 18446744073709551616) (z : Int) (hz : zag m = z) (w : World) : Calls Tryd.prog 57 #[.int .u64 m] w fun e w' => e = .returned (.int .i64 z) ∧ w = w' := by subst hz; exact zag_any m h1 w
theorem put_nil (w : World) (n : Nat) (hn : n < 18446744073709551616) (X : List UInt8) (hX : vput n = X) : Calls Tryd.prog 32 #[.slice none 0 0, .int .u64 (n : Int)] w fun e w' => ∃ A' c', e = .returned (.slice A' X.length c') ∧ BytesAt w' A' X ∧ X.length ≤ c' ∧ c' ≤ maxLen ∧ Below w.heap.size w w' := by
  subst hX
  refine (put_any none 0 0 [] w rfl (fun h => absurd rfl h) (by omega) (fun _ => ⟨rfl, rfl⟩) n hn).mono ?_
  rintro e w' ⟨A', c', rfl, ho, hb⟩
  rw [List.nil_append] at *
  obtain ⟨A2, c2, he, hby, hl, hm, _⟩ := ho.slice
  injection he with h1 h2 h3
  subst h1
  subst h3
  exact ⟨A', c', rfl, hby, hl, hm, hb⟩

theorem get_bad (A : Option Addr) (n c : Nat) (X : List UInt8) (w : World) (hn : X.length = n) (hx : BytesAt w A X) (h : vget X 0 0 = (0, 0, 4)) :
    Calls Tryd.prog 56 #[.slice A n c] w fun e w' => e = .returned (.tuple #[.int .u64 0, .int .i64 0, .int .i64 4]) ∧ w = w' := by
  have := get_any A n c X w hn hx
  rw [h] at this
  exact this

/-- The count of bytes, as the statement counts. -/
theorem count7 (n j : Nat) : (vput (n / 128 ^ j)).length = if n / 128 ^ (j + 1) = 0 then 1 else 1 + (vput (n / 128 ^ (j + 1))).length := by
  have e : n / 128 ^ (j + 1) = n / 128 ^ j / 128 := by rw [Nat.pow_succ, Nat.div_div_eq_div_mul]
  rw [e]
  generalize n / 128 ^ j = y
  by_cases h : y < 128
  · rw [vput_low h, if_pos (by omega)]; rfl
  · rw [vput_high h, if_neg (by omega), List.length_cons]; omega

end Go.Proofs.YtocddhokjhfaaaaDoor

namespace Go.Proofs.YtocddhokjhfaaaaDoor
open Go.ChangeShapes Go.WideShapes Go.ChangeAt Go.RowKit

theorem ownKnob_none : ownKnob Tryd.prog.godebug = none := by kernel_rfl
theorem laid_out : laidOutB Tryd.prog = true := by kernel_rfl

/-- A slice of numbers that came in, its elements alone: nil, or a row of cells. -/
def NumRow (k : IntKind) (w : World) (a : Option Addr) (zs : List Int) : Prop :=
  (∀ n ∈ zs, (Lit.int k n).wf = true) ∧ (zs ≠ [] → ∃ b off, a = some ⟨b, off, none⟩ ∧ ∀ i (h : i < zs.length), w.cell? ⟨b, off + i, none⟩ = some (.int k zs[i]))

theorem numRow_of {H : Type} {enc : TypeId × Value → H} {W : World} {base : Nat} {spare : Nat → Bool} {held : Bool} {t e : TypeId} {k : IntKind} {a : Option Addr} {len cap fuel : Nat} {x : DataW H × List MemPlace}
    (ht : Tryd.prog.underlying t = some (.slice e)) (he : Tryd.prog.underlying e = some (.int k)) (hC : Tryd.prog.cellsOf e = 1)
    (h : DataW.trod enc Tryd.prog W base spare held fuel t [.slice a len cap] = some x) : ∃ zs : List Int, zs.length = len ∧ len ≤ cap ∧ cap ≤ maxLen ∧ NumRow k W a zs := by
  rcases open_ints ht he hC h with ⟨hcs, _⟩ | ⟨x, l, c, zs, hcs, _, hl, hm, hz, _, hcell, hwz⟩
  · simp at hcs
    obtain ⟨rfl, rfl, rfl⟩ := hcs
    exact ⟨[], rfl, Nat.le_refl _, by unfold maxLen; omega, by simp, fun h => absurd rfl h⟩
  · simp at hcs
    obtain ⟨rfl, rfl, rfl⟩ := hcs
    have hz' : len ≤ zs.length := by rw [hz]; split <;> omega
    refine ⟨zs.take len, by simp; omega, hl, hm, fun n hn => hwz n (List.mem_of_mem_take hn), fun hne => ?_⟩
    have hpos : 0 < len := by
      rcases Nat.eq_zero_or_pos len with h0 | h0
      · subst h0; simp at hne
      · exact h0
    obtain ⟨b, off, spot⟩ := x
    have hc0 := hcell 0 (by omega)
    have hspot : spot = none := by simpa [Addr.add] using World.cell?_spot hc0
    subst hspot
    refine ⟨b, off, rfl, fun i hi => ?_⟩
    have hi' : i < zs.length := by simp at hi; omega
    have hadd : (⟨b, off, none⟩ : Addr).add i = ⟨b, off + i, none⟩ := by unfold Addr.add; split <;> simp_all
    have := hcell i hi'
    rw [hadd] at this
    rw [this]
    simp [List.getElem?_eq_getElem hi']

theorem nilRow_of {H : Type} {enc : TypeId × Value → H} {W : World} {base : Nat} {spare : Nat → Bool} {held : Bool} {t e : TypeId} {k : IntKind} {a : Option Addr} {len cap fuel : Nat} {x : DataW H × List MemPlace}
    (ht : Tryd.prog.underlying t = some (.slice e)) (he : Tryd.prog.underlying e = some (.int k)) (hC : Tryd.prog.cellsOf e = 1)
    (h : DataW.trod enc Tryd.prog W base spare held fuel t [.slice a len cap] = some x) : a = none → len = 0 ∧ cap = 0 := by
  rintro rfl
  rcases open_ints ht he hC h with ⟨hcs, _⟩ | ⟨x, l, c, zs, hcs, _⟩
  · simp at hcs
    exact hcs
  · simp at hcs

/-- Bytes, as a list of bytes. -/
theorem bytes_of_nums {W : World} {a : Option Addr} {zs : List Int} (h : NumRow .u8 W a zs) : ∃ xs : List UInt8, xs.length = zs.length ∧ BytesAt W a xs := by
  refine ⟨zs.map fun n => UInt8.ofNat n.toNat, by simp, fun hne => ?_⟩
  obtain ⟨b, off, ha, hc⟩ := h.2 (by intro h0; subst h0; simp at hne)
  refine ⟨b, off, ha, fun k hk => ?_⟩
  have hk' : k < zs.length := by simpa using hk
  rw [hc k hk']
  have hb := bounds_u8 (h.1 _ (List.getElem_mem hk'))
  congr 2
  rw [List.getElem_map, UInt8.toNat_ofNat']
  omega

end Go.Proofs.YtocddhokjhfaaaaDoor
