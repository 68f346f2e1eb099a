/- BitmapActs: its row of acts; what stands in memory. -/
import Derived.Test.YtobfepkeikecoaaBmC
import Derived.Test.YtobfepkeikecoaaRowKit
import Derived.Test.YtobfepkeikecoaaWays4
import Derived.Deep.SlicePairs
import Derived.Deep.CutBlock
namespace Go.Proofs.Ytobfepkeikecoaa
open Go.RowKit PageM Go.Deep Go.ChangeShapes Go.WideShapes
set_option linter.unusedVariables false

def inI64 (z : Int) : Prop := -9223372036854775808 ≤ z ∧ z ≤ 9223372036854775807
theorem quiet_binOp {P : Program} {o : Oper} {a : Act} {B : Nat} {w0 : World} {K : Act → Prop} (op : BinOp) (ty : TypeId) (x y : Operand) (t2 : TypeId) (ho : o.op = .binOp op ty x y t2) (vx vy v : Value) (hx : a.eval x = vx) (hy : a.eval y = vy)
    (hg : ∀ W, (eqGuard op ty x y vx vy).run P W = .ok () W) (hr : ∀ W, (binOp op ty vx vy).run P W = .ok v W) (h : K (a.put o.dst v)) : o.quiet P a (fun w' => ∃ x : SubW B w0, w' = x.at_) K := by
  refine ⟨v, ?_, h⟩
  rintro w ⟨y, rfl⟩
  unfold Oper.quietAt execOp
  simp only [ho, Sem.run_bind, Sem.run_pure, Result.andThen_ok, hx, hy, hg, hr]
  exact ⟨rfl, rfl⟩
theorem modI7 (a : Int) (m : Nat) (h0 : 0 < m) (hm : m ≤ 1000000) : ∃ k : Nat, k < m ∧ wrap64 ((IntKind.u64.wrap a).tmod (m : Int)) = (k : Int) := by
  have h1 : 0 ≤ IntKind.u64.wrap a := by rw [IntKind.wrap_u64]; omega
  rw [Int.tmod_eq_emod_of_nonneg h1]
  have h2 : 0 ≤ IntKind.u64.wrap a % (m : Int) := Int.emod_nonneg _ (by omega)
  have h3 : IntKind.u64.wrap a % (m : Int) < (m : Int) := Int.emod_lt_of_pos _ (by omega)
  rw [IntWalk.wrap64_in (IntKind.u64.wrap a % (m : Int)) ⟨by omega, by omega⟩]
  exact ⟨(IntKind.u64.wrap a % (m : Int)).toNat, by omega, by omega⟩
theorem blk_cell {w : World} {g : Nat} {cs : Array Value} {T : TypeId} {fr : Nat × Nat} (h : w.heap[g]? = some (.cells cs T fr)) (i : Nat) (v : Value) (hv : cs[i]? = some v) : w.cell? ⟨g, i, none⟩ = some v := (cell_of_row _ _ _ _ _ _ h).trans hv
theorem text_b {w : World} (A : Option Addr) (n c : Nat) (xs : List UInt8) (hn : xs.length = n) (hA : BytesAt w A xs) :
    (convert 42 9 (.slice A n c)).run Try.prog w = .ok (.string ⟨xs.toArray⟩) w := by
  subst hn
  exact run_text (P := Try.prog) 42 9 Try.underlying42 Try.underlying5 Try.underlying9 A c hA
/-- A row of acts in memory. -/
def ActsAt (w : World) (A : Option Addr) (ps : List (Int × Int × Int)) : Prop :=
  (∀ q ∈ ps, inI64 q.1 ∧ inI64 q.2.1 ∧ inI64 q.2.2) ∧ (ps ≠ [] → ∃ b off, A = some ⟨b, off, none⟩ ∧ ∀ i (h : i < ps.length), w.cell? ⟨b, off + i * 3, none⟩ = some (.int .i64 ps[i].1) ∧ w.cell? ⟨b, off + i * 3 + 1, none⟩ = some (.int .i64 ps[i].2.1) ∧ w.cell? ⟨b, off + i * 3 + 2, none⟩ = some (.int .i64 ps[i].2.2))

theorem list3 {α : Type} {l : List α} (h : l.length = 3) : ∃ a b c, l = [a, b, c] := by
  match l, h with
  | [a, b, c], _ => exact ⟨a, b, c, rfl⟩

theorem actsRow_of {H : Type} {enc : TypeId × Value → H} {W : World} {base : Nat} {spare : Nat → Bool} {held : Bool} {t e : TypeId} {f0 f1 f2 : Field} {a : Option Addr} {len cap fuel : Nat} {x : DataW H × List MemPlace}
    (ht : Try.prog.underlying t = some (.slice e)) (he : Try.prog.underlying e = some (.struct #[f0, f1, f2])) (ce : Try.prog.cellsOf e = 3) (o0 : f0.offset = 0) (o1 : f1.offset = 1) (o2 : f2.offset = 2) (c0 : Try.prog.cellsOf f0.type = 1) (c1 : Try.prog.cellsOf f1.type = 1) (c2 : Try.prog.cellsOf f2.type = 1)
    (u0 : Try.prog.underlying f0.type = some (.int .i64)) (u1 : Try.prog.underlying f1.type = some (.int .i64)) (u2 : Try.prog.underlying f2.type = some (.int .i64))
    (h : DataW.trod enc Try.prog W base spare held fuel t [.slice a len cap] = some x) : ∃ ps : List (Int × Int × Int), ps.length = len ∧ len ≤ cap ∧ cap ≤ maxLen ∧ ActsAt W a ps := by
  rcases open_slice ht h with ⟨hcs, _⟩ | ⟨ad, l, c, m, n, D, Pl, hcs, _, hl, hm, hmm, _, hx⟩
  · simp at hcs
    obtain ⟨rfl, rfl, rfl⟩ := hcs
    exact ⟨[], rfl, Nat.le_refl _, by unfold maxLen; omega, by simp, fun h => absurd rfl h⟩
  · simp at hcs
    obtain ⟨rfl, rfl, rfl⟩ := hcs
    have hlm : len ≤ m := by rw [hmm]; split <;> omega
    have hone : ∀ i, i < len → ∃ q : Int × Int × Int, (inI64 q.1 ∧ inI64 q.2.1 ∧ inI64 q.2.2) ∧ W.cell? (ad.add (i * 3)) = some (.int .i64 q.1) ∧ W.cell? (ad.add (i * 3 + 1)) = some (.int .i64 q.2.1) ∧ W.cell? (ad.add (i * 3 + 2)) = some (.int .i64 q.2.2) := fun i hi => by
      obtain ⟨cs', h1, h2⟩ := hx i (by omega)
      rw [ce] at h1
      obtain ⟨_, hlen, hcell⟩ := World.cells?_some h1
      obtain ⟨xs, k, _, _, _, hxl, hf⟩ := DataW.trod_struct he h2
      obtain ⟨v0, v1, v2, rfl⟩ := list3 hlen
      have hxl3 : xs.length = 3 := hxl
      have g0 : DataW.trod enc Try.prog W base spare held k f0.type (([v0, v1, v2].drop f0.offset).take (Try.prog.cellsOf f0.type)) = some (xs[0]'(by omega)) := (hf 0 f0 rfl).trans (List.getElem?_eq_getElem (by omega))
      have g1 : DataW.trod enc Try.prog W base spare held k f1.type (([v0, v1, v2].drop f1.offset).take (Try.prog.cellsOf f1.type)) = some (xs[1]'(by omega)) := (hf 1 f1 rfl).trans (List.getElem?_eq_getElem (by omega))
      have g2 : DataW.trod enc Try.prog W base spare held k f2.type (([v0, v1, v2].drop f2.offset).take (Try.prog.cellsOf f2.type)) = some (xs[2]'(by omega)) := (hf 2 f2 rfl).trans (List.getElem?_eq_getElem (by omega))
      rw [o0, c0] at g0
      rw [o1, c1] at g1
      rw [o2, c2] at g2
      have e0 := hcell 0 (by omega)
      have e1 := hcell 1 (by omega)
      have e2 := hcell 2 (by omega)
      rw [add_add] at e0 e1 e2
      obtain ⟨z0, k0, _, w0⟩ := DataW.trod_int u0 g0
      obtain ⟨z1, k1, _, w1⟩ := DataW.trod_int u1 g1
      obtain ⟨z2, k2, _, w2⟩ := DataW.trod_int u2 g2
      simp at k0 k1 k2
      subst k0 k1 k2
      exact ⟨(z0, z1, z2), ⟨bounds_i64 w0, bounds_i64 w1, bounds_i64 w2⟩, e0, e1, e2⟩
    obtain ⟨q, hq⟩ := choose_lt hone
    refine ⟨(List.range len).map q, by simp, hl, hm, fun y hy => ?_, fun hne => ?_⟩
    · obtain ⟨i, hi, rfl⟩ := List.mem_map.1 hy
      exact (hq i (List.mem_range.1 hi)).1
    · have hpos : 0 < len := by
        rcases Nat.eq_zero_or_pos len with h0 | h0
        · subst h0; simp at hne
        · exact h0
      obtain ⟨b, off, spot⟩ := ad
      have hc0 := (hq 0 hpos).2.1
      have hspot : spot = none := by simpa [Addr.add] using World.cell?_spot hc0
      subst hspot
      refine ⟨b, off, rfl, fun i hi => ?_⟩
      have hi' : i < len := by simpa using hi
      obtain ⟨_, h1, h2, h3⟩ := hq i hi'
      have hadd : ∀ k, (⟨b, off, none⟩ : Addr).add k = ⟨b, off + k, none⟩ := fun k => by unfold Addr.add; split <;> simp_all
      rw [hadd] at h1 h2 h3
      rw [List.getElem_map, List.getElem_range]
      exact ⟨h1, by rw [Nat.add_assoc]; exact h2, by rw [Nat.add_assoc]; exact h3⟩

/-- At the head of a round: the maps in use, and the other ones, on both sides. -/
structure ActsIn (w wr : World) (K5 K6 K7 K8 p : Nat) (U V : List Bool) : Prop where
  m5 : MapAt wr K5 25 (p : Int) U
  m6 : MapAt wr K6 27 (p : Int) U
  m7 : MapAt wr K7 25 (p : Int) V
  m8 : MapAt wr K8 27 (p : Int) V
  bel : Below w.heap.size w wr
  l5 : w.heap.size ≤ K5
  l6 : w.heap.size ≤ K6
  l7 : w.heap.size ≤ K7
  l8 : w.heap.size ≤ K8
  n56 : K5 ≠ K6
  n57 : K5 ≠ K7
  n58 : K5 ≠ K8
  n67 : K6 ≠ K7
  n68 : K6 ≠ K8
  n78 : K7 ≠ K8
section
variable {w wr wx : World} {K5 K6 K7 K8 p : Nat} {U V : List Bool} {C D : Array Value}
theorem ActsIn.below (h : ActsIn w wr K5 K6 K7 K8 p U V) (hb : Below wr.heap.size wr wx) : ActsIn w wx K5 K6 K7 K8 p U V :=
  ⟨h.m5.below hb h.m5.lt, h.m6.below hb h.m6.lt, h.m7.below hb h.m7.lt, h.m8.below hb h.m8.lt, h.bel.trans (hb.mono h.bel.size), h.l5, h.l6, h.l7, h.l8, h.n56, h.n57, h.n58, h.n67, h.n68, h.n78⟩
theorem ActsIn.alloc (h : ActsIn w wr K5 K6 K7 K8 p U V) (o : Obj) : ActsIn w (wr.alloc o) K5 K6 K7 K8 p U V := h.below ((Below.refl _ _).alloc (Nat.le_refl _) _)
theorem row_ne {w : World} {g k : Nat} {cs ds : Array Value} {T S : TypeId} {fr fs : Nat × Nat} (h : w.heap[g]? = some (.cells cs T fr)) (h2 : w.heap[k]? = some (.cells ds S fs)) (hne : T ≠ S) : g ≠ k := by
  intro e
  subst e
  rw [h] at h2
  injection h2 with h2
  injection h2 with h3 h4
  exact hne h4
theorem ActsIn.set56 {U' : List Bool} {E : Array Value} (h : ActsIn w wr K5 K6 K7 K8 p U V) (eE : E = mapC (p : Int) U') : ActsIn w ((wr.setRow K5 E).setRow K6 E) K5 K6 K7 K8 p U' V := by
  have n1 := h.n56
  have n2 := h.n57
  have n3 := h.n58
  have n4 := h.n67
  have n5 := h.n68
  refine ⟨?_, ?_, ?_, ?_, below_setRow (below_setRow h.bel h.l5 _) h.l6 _, h.l5, h.l6, h.l7, h.l8, h.n56, h.n57, h.n58, h.n67, h.n68, h.n78⟩
  · unfold MapAt
    rw [← eE]
    exact (setRow_other _ _ _ _ (by omega)).trans (setRow_heap _ _ _ _ _ _ h.m5)
  · unfold MapAt
    rw [← eE]
    exact setRow_heap _ _ _ _ _ _ ((setRow_other _ _ _ _ (by omega)).trans h.m6)
  · exact (setRow_other _ _ _ _ (by omega)).trans ((setRow_other _ _ _ _ (by omega)).trans h.m7)
  · exact (setRow_other _ _ _ _ (by omega)).trans ((setRow_other _ _ _ _ (by omega)).trans h.m8)
theorem ActsIn.set78 {U' : List Bool} {E : Array Value} (h : ActsIn w wr K5 K6 K7 K8 p U V) (eE : E = mapC (p : Int) U') : ActsIn w ((wr.setRow K7 E).setRow K8 E) K5 K6 K7 K8 p U U' := by
  have n2 := h.n57
  have n3 := h.n58
  have n4 := h.n67
  have n5 := h.n68
  have n6 := h.n78
  refine ⟨?_, ?_, ?_, ?_, below_setRow (below_setRow h.bel h.l7 _) h.l8 _, h.l5, h.l6, h.l7, h.l8, h.n56, h.n57, h.n58, h.n67, h.n68, h.n78⟩
  · exact (setRow_other _ _ _ _ (by omega)).trans ((setRow_other _ _ _ _ (by omega)).trans h.m5)
  · exact (setRow_other _ _ _ _ (by omega)).trans ((setRow_other _ _ _ _ (by omega)).trans h.m6)
  · unfold MapAt
    rw [← eE]
    exact (setRow_other _ _ _ _ (by omega)).trans (setRow_heap _ _ _ _ _ _ h.m7)
  · unfold MapAt
    rw [← eE]
    exact setRow_heap _ _ _ _ _ _ ((setRow_other _ _ _ _ (by omega)).trans h.m8)
theorem ActsIn.r5 (h : ActsIn w wr K5 K6 K7 K8 p U V) (e : C = mapC (p : Int) U) : wr.heap[K5]? = some (.cells C 25 (0, 0)) := by rw [e]; exact h.m5
theorem ActsIn.r6 (h : ActsIn w wr K5 K6 K7 K8 p U V) (e : C = mapC (p : Int) U) : wr.heap[K6]? = some (.cells C 27 (0, 0)) := by rw [e]; exact h.m6
theorem ActsIn.r7 (h : ActsIn w wr K5 K6 K7 K8 p U V) (e : D = mapC (p : Int) V) : wr.heap[K7]? = some (.cells D 25 (0, 0)) := by rw [e]; exact h.m7
theorem ActsIn.r8 (h : ActsIn w wr K5 K6 K7 K8 p U V) (e : D = mapC (p : Int) V) : wr.heap[K8]? = some (.cells D 27 (0, 0)) := by rw [e]; exact h.m8
end

set_option maxHeartbeats 8000000 in
set_option maxRecDepth 100000 in
theorem bitmapActs_walk (z : Int) (hz : (Lit.int .i64 z).wf = true) (A : Option Addr) (cap : Nat) (rs : List (Int × Int × Int)) {w : World} (has : ActsAt w A rs) (lc : rs.length ≤ cap) (cm : cap ≤ maxLen) :
    Calls Try.prog 3 #[.int .i64 z, .slice A rs.length cap] w fun e w' => e = .returned (.bool true) ∧ Below w.heap.size w w' := by
  unfold maxLen at cm
  obtain ⟨p, hp⟩ : ∃ p : Nat, min (max z 8) 512 = (p : Int) := ⟨(min (max z 8) 512).toNat, by omega⟩
  have hp8 : 8 ≤ p := by omega
  have hp5 : p ≤ 512 := by omega
  have HP := Lib.hid hp
  have HAS := Lib.hid has
  obtain ⟨C, eC⟩ : ∃ C, C = mapC (p : Int) map0 := ⟨_, rfl⟩
  have hS : Hid (some 513 = some C.size) := Lib.hid (by rw [eC, size_mapC length_map0])
  have hO : Hid (C.all (·.oneCell') = true) := Lib.hid (by rw [eC]; exact one_mapC _ _)
  obtain ⟨C0, eC0⟩ : ∃ C0, C0 = mapC (p : Int) (List.replicate 512 false) := ⟨_, rfl⟩
  have hbu : (Try.zeroCells27).setIfInBounds 0 (.int .i64 (p : Int)) = C0 := by rw [eC0, zeroMapR]; unfold mapC; rw [List.setIfInBounds_toArray, List.set_cons_zero]
  have HBU := Lib.hid hbu
  have hS0 : Hid (some 513 = some C0.size) := Lib.hid (by rw [eC0, size_mapC List.length_replicate])
  have hO0 : Hid (C0.all (·.oneCell') = true) := Lib.hid (by rw [eC0]; exact one_mapC _ _)
  have EC0 := Lib.hid eC0
  have HNW : Hid (∀ W, Calls Try.prog 9 #[.int .i64 z] W fun e w' => e = .returned (.agg C) ∧ Below W.heap.size W w') := Lib.hid (fun W => by rw [eC]; exact new_bm z p hp W)
  have EC := Lib.hid eC
  clear hp has eC eC0 hbu hz
  go_enter Try.func3, Try.ntmps3
  go_upto_region 3 with (first
    | (go_at_call 9; (refine (HNW.out _).mono ?_); rintro e w1 ⟨rfl, hb1⟩)
    | (refine wpList_store_row rfl 25 (.tmp 5) (.tmp 28) rfl w1.heap.size C rfl rfl 25 Try.zeroCells25 (heap_alloc_new _ _) (infoMap.trans hS.out) (size_zeroMap.trans (Option.some.inj hS.out)) hO.out ?_; rw [World.setRow_alloc_new])
    | (rw [HP.out, HBU.out]; refine wpList_store_row rfl 27 (.tmp 6) (.tmp 32) rfl (w1.heap.size + 1) C0 rfl rfl 27 Try.zeroCells27 (heap_alloc2_new _ _ _) (infoMapR.trans hS0.out) (size_zeroMapR.trans (Option.some.inj hS0.out)) hO0.out ?_))
  obtain ⟨K5, eK5⟩ : ∃ k, k = w1.heap.size := ⟨_, rfl⟩
  obtain ⟨W2, eW2⟩ : ∃ W, W = ((w1.alloc (.cells C 25)).alloc (.cells Try.zeroCells27 27)).setRow (K5 + 1) C0 := ⟨_, rfl⟩
  have hm5 : MapAt W2 K5 25 (p : Int) map0 := by
    rw [eW2, eK5]
    unfold MapAt
    rw [← EC.out]
    exact (setRow_other _ _ _ _ (by omega)).trans (heap_alloc2_old _ _ _)
  have hm6 : MapAt W2 (K5 + 1) 27 (p : Int) (List.replicate 512 false) := by
    rw [eW2, eK5]
    unfold MapAt
    rw [← EC0.out]
    exact setRow_heap _ _ _ _ _ _ (heap_alloc2_new _ _ _)
  have hb2 : Below w.heap.size w W2 := by
    rw [eW2]
    exact below_setRow ((hb1.alloc hb1.size _).alloc (by have := hb1.size; simp; omega) _) (by have := hb1.size; omega) _
  have hk5 : w.heap.size ≤ K5 := by have := hb1.size; omega
  have g0 : W2.cell? ⟨K5 + 1, 1, none⟩ = some (.bool false) := hm6.cs 0 (by simp)
  have g1 : W2.cell? ⟨K5 + 1, 2, none⟩ = some (.bool false) := hm6.cs 1 (by simp)
  have z0 := hm6.fr 1
  have z1 := hm6.fr 2
  rw [← eK5, ← eW2]
  have HM5 := Lib.hid hm5
  have HM6 := Lib.hid hm6
  have HB2 := Lib.hid hb2
  clear eW2 eK5 hm5 hm6 hb1 hb2
  go_upto_region 4 with fail
  obtain ⟨W3, eW3⟩ : ∃ W, W = (W2.setCell ⟨K5 + 1, 1, none⟩ (.bool true)).setCell ⟨K5 + 1, 2, none⟩ (.bool true) := ⟨_, rfl⟩
  have hm53 : MapAt W3 K5 25 (p : Int) map0 := by
    rw [eW3]
    exact (Below.heap_setCell _ ⟨K5 + 1, 2, none⟩ _ K5 (by simp)).trans ((Below.heap_setCell _ ⟨K5 + 1, 1, none⟩ _ K5 (by simp)).trans HM5.out)
  have hm63 : MapAt W3 (K5 + 1) 27 (p : Int) map0 := by
    rw [eW3]
    exact (HM6.out.set 0 true).set 1 true
  have hb3 : Below w.heap.size w W3 := by
    rw [eW3]
    exact below_setCM (below_setCM HB2.out (by omega)) (by omega)
  rw [← eW3]
  have HM53 := Lib.hid hm53
  have HM63 := Lib.hid hm63
  have HB3 := Lib.hid hb3
  have H5 : Hid (∀ y : SubW W3.heap.size W3, y.at_.heap[K5]? = some (.cells C 25 (0, 0))) := Lib.hid (fun y => (y.ok_.block _ HM53.out.lt).trans (by rw [EC.out]; exact HM53.out))
  have H6 : Hid (∀ y : SubW W3.heap.size W3, y.at_.heap[K5 + 1]? = some (.cells C 27 (0, 0))) := Lib.hid (fun y => (y.ok_.block _ HM63.out.lt).trans (by rw [EC.out]; exact HM63.out))
  clear eW3 hm53 hm63 hb3 HM5 HM6 HB2 g0 g1 z0 z1 HBU hS0 hO0 EC0 HNW
  have hZ := Lib.hid size_zeroMap
  have hZR := Lib.hid size_zeroMapR
  go_cut [7, 8] (fun s7 s8 wx => ∃ K7 K8, s7 = .pointer (some ⟨K7, 0, none⟩) ∧ s8 = .pointer (some ⟨K8, 0, none⟩) ∧ Hid (ActsIn w wx K5 (K5 + 1) K7 K8 p map0 map0))
  case first =>
    refine region_ways4 W3.heap.size (Nat.le_refl _) (.two [0, 1] 2 (.one [] 3 (.one [] 4 (.one [] 5 (.done [])))) 3 (.one [] 2 (.one [] 4 (.one [] 5 (.done []))))) (by kernel_rfl) (by kernel_rfl) ?_
    rintro wd hbd
    have hwd := hbd.size
    rw [wpWays_two4]
    try simp only [List.map_cons, List.map_nil, opAt, List.getElem?_toArray, List.getElem?_cons_zero, List.getElem?_cons_succ, Option.getD_some]
    repeat (first
      | (go_big_quiet_want; refine quiet_load_row 25 (.tmp 5) rfl K5 rfl 25 C (0, 0) _ H5.out Try.underlying25 rfl (infoMap.trans hS.out) ?_; simp only [Act.put, List.setIfInBounds_toArray, List.set_cons_zero, List.set_cons_succ]; go_big_quiet_on)
      | (go_big_quiet_want; refine quiet_load_row 27 (.tmp 6) rfl (K5 + 1) rfl 27 C (0, 0) _ H6.out Try.underlying27 rfl (infoMapR.trans hS.out) ?_; simp only [Act.put, List.setIfInBounds_toArray, List.set_cons_zero, List.set_cons_succ]; go_big_quiet_on)
      | (go_big_quiet_step (fail)))
    refine wpQuiet_nil ⟨?_, ?_⟩
    · have b1 := hbd.alloc hwd (.cells Try.zeroCells25 25)
      have b2 := b1.alloc b1.size (.cells Try.zeroCells27 27)
      have q1 : ((wd.alloc (.cells Try.zeroCells25 25)).alloc (.cells Try.zeroCells27 27)).heap[wd.heap.size]? = some (.cells Try.zeroCells25 25 (0, 0)) := heap_alloc2_old _ _ _
      have q2 : (((wd.alloc (.cells Try.zeroCells25 25)).alloc (.cells Try.zeroCells27 27)).setRow wd.heap.size C).heap[(wd.heap.size + 1)]? = some (.cells Try.zeroCells27 27 (0, 0)) := (setRow_other _ _ _ _ (by omega)).trans (heap_alloc2_new _ _ _)
      have b3 := below_setRow b2 (show W3.heap.size ≤ wd.heap.size by omega) C
      have b4 := below_setRow b3 (show W3.heap.size ≤ (wd.heap.size + 1) by omega) C
      go_wp2_with fail
      refine ⟨⟨⟨_, b1⟩, rfl⟩, ?_⟩
      try simp only [Act.put, List.setIfInBounds_toArray, List.set_cons_zero, List.set_cons_succ]
      rw [wpWays_one4]
      try simp only [List.map_nil, opAt, List.getElem?_toArray, List.getElem?_cons_zero, List.getElem?_cons_succ, Option.getD_some]
      refine wpQuiet_nil ?_
      go_wp2_with fail
      refine ⟨⟨⟨_, b2⟩, rfl⟩, ?_⟩
      try simp only [Act.put, List.setIfInBounds_toArray, List.set_cons_zero, List.set_cons_succ]
      rw [wpWays_one4]
      try simp only [List.map_nil, opAt, List.getElem?_toArray, List.getElem?_cons_zero, List.getElem?_cons_succ, Option.getD_some]
      refine wpQuiet_nil ?_
      go_wp2_with (refine wpList_store_row rfl 25 (.tmp 7) (.tmp 37) rfl wd.heap.size C rfl rfl 25 Try.zeroCells25 q1 (infoMap.trans hS.out) (hZ.out.trans (Option.some.inj hS.out)) hO.out ?_)
      refine ⟨⟨⟨_, b3⟩, rfl⟩, ?_⟩
      try simp only [Act.put]
      rw [wpWays_one4]
      try simp only [List.map_nil, opAt, List.getElem?_toArray, List.getElem?_cons_zero, List.getElem?_cons_succ, Option.getD_some]
      refine wpQuiet_nil ?_
      go_wp2_with (refine wpList_store_row rfl 27 (.tmp 8) (.tmp 38) rfl (wd.heap.size + 1) C rfl rfl 27 Try.zeroCells27 q2 (infoMapR.trans hS.out) (hZR.out.trans (Option.some.inj hS.out)) hO.out ?_)
      refine ⟨⟨⟨_, b4⟩, rfl⟩, ?_⟩
      try simp only [Act.put]
      rw [wpWays_done4]
      try simp only [List.map_nil]
      refine wpQuiet_nil ?_
      go_wp2_with fail
      go_meet
      exact ⟨_, _, rfl, rfl, Lib.hid ⟨HM53.out.below b4 HM53.out.lt, HM63.out.below b4 HM63.out.lt, by unfold MapAt; rw [← EC.out]; exact (setRow_other _ _ _ _ (by omega)).trans (setRow_heap _ _ _ _ _ _ q1), by unfold MapAt; rw [← EC.out]; exact setRow_heap _ _ _ _ _ _ q2, HB3.out.trans (b4.mono HB3.out.size), hk5, by omega, by have := HB3.out.size; omega, by have := HB3.out.size; omega, by omega, by have := HM53.out.lt; omega, by have := HM53.out.lt; omega, by have := HM63.out.lt; omega, by have := HM63.out.lt; omega, by omega⟩⟩
    · have b1 := hbd.alloc hwd (.cells Try.zeroCells27 27)
      have b2 := b1.alloc b1.size (.cells Try.zeroCells25 25)
      have q1 : ((wd.alloc (.cells Try.zeroCells27 27)).alloc (.cells Try.zeroCells25 25)).heap[(wd.heap.size + 1)]? = some (.cells Try.zeroCells25 25 (0, 0)) := heap_alloc2_new _ _ _
      have q2 : (((wd.alloc (.cells Try.zeroCells27 27)).alloc (.cells Try.zeroCells25 25)).setRow (wd.heap.size + 1) C).heap[wd.heap.size]? = some (.cells Try.zeroCells27 27 (0, 0)) := (setRow_other _ _ _ _ (by omega)).trans (heap_alloc2_old _ _ _)
      have b3 := below_setRow b2 (show W3.heap.size ≤ (wd.heap.size + 1) by omega) C
      have b4 := below_setRow b3 (show W3.heap.size ≤ wd.heap.size by omega) C
      go_wp2_with fail
      refine ⟨⟨⟨_, b1⟩, rfl⟩, ?_⟩
      try simp only [Act.put, List.setIfInBounds_toArray, List.set_cons_zero, List.set_cons_succ]
      rw [wpWays_one4]
      try simp only [List.map_nil, opAt, List.getElem?_toArray, List.getElem?_cons_zero, List.getElem?_cons_succ, Option.getD_some]
      refine wpQuiet_nil ?_
      go_wp2_with fail
      refine ⟨⟨⟨_, b2⟩, rfl⟩, ?_⟩
      try simp only [Act.put, List.setIfInBounds_toArray, List.set_cons_zero, List.set_cons_succ]
      rw [wpWays_one4]
      try simp only [List.map_nil, opAt, List.getElem?_toArray, List.getElem?_cons_zero, List.getElem?_cons_succ, Option.getD_some]
      refine wpQuiet_nil ?_
      go_wp2_with (refine wpList_store_row rfl 25 (.tmp 7) (.tmp 37) rfl (wd.heap.size + 1) C rfl rfl 25 Try.zeroCells25 q1 (infoMap.trans hS.out) (hZ.out.trans (Option.some.inj hS.out)) hO.out ?_)
      refine ⟨⟨⟨_, b3⟩, rfl⟩, ?_⟩
      try simp only [Act.put]
      rw [wpWays_one4]
      try simp only [List.map_nil, opAt, List.getElem?_toArray, List.getElem?_cons_zero, List.getElem?_cons_succ, Option.getD_some]
      refine wpQuiet_nil ?_
      go_wp2_with (refine wpList_store_row rfl 27 (.tmp 8) (.tmp 38) rfl wd.heap.size C rfl rfl 27 Try.zeroCells27 q2 (infoMapR.trans hS.out) (hZR.out.trans (Option.some.inj hS.out)) hO.out ?_)
      refine ⟨⟨⟨_, b4⟩, rfl⟩, ?_⟩
      try simp only [Act.put]
      rw [wpWays_done4]
      try simp only [List.map_nil]
      refine wpQuiet_nil ?_
      go_wp2_with fail
      go_meet
      exact ⟨_, _, rfl, rfl, Lib.hid ⟨HM53.out.below b4 HM53.out.lt, HM63.out.below b4 HM63.out.lt, by unfold MapAt; rw [← EC.out]; exact (setRow_other _ _ _ _ (by omega)).trans (setRow_heap _ _ _ _ _ _ q1), by unfold MapAt; rw [← EC.out]; exact setRow_heap _ _ _ _ _ _ q2, HB3.out.trans (b4.mono HB3.out.size), hk5, by omega, by have := HB3.out.size; omega, by have := HB3.out.size; omega, by omega, by have := HM53.out.lt; omega, by have := HM53.out.lt; omega, by have := HM63.out.lt; omega, by have := HM63.out.lt; omega, by omega⟩⟩
  case rest =>
    obtain ⟨K7, K8, rfl, rfl, HA⟩ := hcut
    clear HM53 HM63 HB3 H5 H6
    obtain ⟨K6, hK6⟩ : ∃ k, k = K5 + 1 := ⟨_, rfl⟩
    rw [← hK6] at HA ⊢
    clear hK6
    have H5 : Hid (∀ y : SubW wc.heap.size wc, y.at_.heap[K5]? = some (.cells C 25 (0, 0))) := Lib.hid (fun y => (HA.out.below y.ok_).r5 EC.out)
    have H6 : Hid (∀ y : SubW wc.heap.size wc, y.at_.heap[K6]? = some (.cells C 27 (0, 0))) := Lib.hid (fun y => (HA.out.below y.ok_).r6 EC.out)
    have HFC : Hid (∀ W, Calls Try.prog 11 #[.agg C] W fun e w' => e = .returned (.agg C) ∧ Below W.heap.size W w') := Lib.hid (fun W => from_bm (p : Int) map0 length_map0 W C EC.out)
    have HNE : Hid (∀ W, (binOp .neq 27 (.agg C) (.agg C)).run Try.prog W = .ok (.bool false) W) := Lib.hid (fun W => neq_mapR (p : Int) map0 length_map0 C EC.out W)
    go_upto_region 5 with fail
    refine region_below wc.heap.size wc (Below.refl _ _) (by kernel_rfl) (by kernel_rfl) ?_
    repeat (first
      | (go_big_quiet_want; refine quiet_load_row 25 (.tmp 5) rfl K5 rfl 25 C (0, 0) _ H5.out Try.underlying25 rfl (infoMap.trans hS.out) ?_; simp only [Act.put, List.setIfInBounds_toArray, List.set_cons_zero, List.set_cons_succ]; go_big_quiet_on)
      | (go_big_quiet_want; refine quiet_load_row 27 (.tmp 6) rfl K6 rfl 27 C (0, 0) _ H6.out Try.underlying27 rfl (infoMapR.trans hS.out) ?_; simp only [Act.put, List.setIfInBounds_toArray, List.set_cons_zero, List.set_cons_succ]; go_big_quiet_on)
      | (go_big_quiet_want; refine quiet_binOp .neq 27 (.tmp 43) (.tmp 44) 27 rfl _ _ (.bool false) rfl rfl (fun W => guard_mapR .neq _ _ _ _ W) (fun W => HNE.out W) ?_; simp only [Act.put, List.setIfInBounds_toArray, List.set_cons_zero, List.set_cons_succ]; go_big_quiet_on)
      | (go_big_quiet_step ((first | (go_at_call 10; exact calls_sub (Nat.le_refl _) (takes_any _)) | (go_at_call 11; exact calls_sub (Nat.le_refl _) (HFC.out _))))))
    refine wpQuiet_nil ?_
    rintro w' ⟨y, rfl⟩
    have HA4 := Lib.hid (HA.out.below y.ok_)
    obtain ⟨W4, eW4⟩ : ∃ W, W = y.at_ := ⟨_, rfl⟩
    rw [← eW4] at HA4 ⊢
    clear H5 H6 HFC HNE HA eW4 y
    go_wp2_with fail
    go_loopw [9] (fun i wr => ∃ (j : Nat) (U V : List Bool), j ≤ 40 ∧ j ≤ rs.length ∧ i = .int .i64 j ∧ Hid ((U.length = 512 ∧ V.length = 512) ∧ okM (p : Int) U ∧ okM (p : Int) V) ∧ Hid (ActsIn w wr K5 K6 K7 K8 p U V)) (fun i _ => 40 - (intOf i).toNat)
    case atStart =>
      have ok0 : okM (p : Int) map0 := ok_of hp8 hp5 (fun j hj => by rw [get_map0, decide_eq_true hj]) (fun j hj => by rw [get_map0, decide_eq_false (by omega)])
      exact ⟨0, map0, map0, by omega, by omega, rfl, Lib.hid ⟨⟨length_map0, length_map0⟩, ok0, ok0⟩, HA4⟩
    case round =>
      obtain ⟨j, U, V, hj, hjl, rfl, HUV, HA⟩ := hrel
      clear HA4
      by_cases hlt : j < rs.length ∧ j < 40
      · obtain ⟨hlt1, hlt2⟩ := hlt
        obtain ⟨bz, off, rfl, hcell⟩ := HAS.out.2 (by intro e; subst e; simp at hlt1)
        obtain ⟨ck0, ck1, ck2⟩ := hcell j hlt1
        have c0 := (HA.out.bel.cell (p := ⟨bz, off + j * 3, none⟩) (World.block_lt_of_cell? _ _ ck0)).trans ck0
        have c1 := (HA.out.bel.cell (p := ⟨bz, off + j * 3 + 1, none⟩) (World.block_lt_of_cell? _ _ ck1)).trans ck1
        have c2 := (HA.out.bel.cell (p := ⟨bz, off + j * 3 + 2, none⟩) (World.block_lt_of_cell? _ _ ck2)).trans ck2
        have hin := HAS.out.1 _ (List.getElem_mem hlt1)
        obtain ⟨q, hq⟩ : ∃ q, q = rs[j] := ⟨_, rfl⟩
        rw [← hq] at c0 c1 c2 hin
        obtain ⟨zw, zn, za⟩ := q
        dsimp only at c0 c1 c2 hin
        have HIN := Lib.hid hin
        clear hcell ck0 ck1 ck2 hq hin
        go_upto_region 11 with fail
        obtain ⟨g10, e10⟩ : ∃ g, g = wr.heap.size := ⟨_, rfl⟩
        obtain ⟨W10, eW10⟩ : ∃ W, W = wr.alloc (.cells #[.int .i64 zw, .int .i64 zn, .int .i64 za] 31) := ⟨_, rfl⟩
        have HA10 : Hid (ActsIn w W10 K5 K6 K7 K8 p U V) := Lib.hid (by rw [eW10]; exact HA.out.alloc _)
        have h10 : W10.heap[g10]? = some (.cells #[.int .i64 zw, .int .i64 zn, .int .i64 za] 31 (0, 0)) := by rw [eW10, e10]; exact heap_alloc_new _ _
        rw [← e10, ← eW10]
        have HG10 := Lib.hid h10
        have b0 := blk_cell h10 0 (.int .i64 zw) rfl
        clear e10 eW10 c0 c1 c2 h10 HA
        obtain ⟨K, hK7, hKe⟩ := modI7 zw 7 (by omega) (by omega)
        have HKE : Hid (wrap64 ((IntKind.u64.wrap zw).tmod 7) = (K : Int)) := Lib.hid hKe
        clear hKe
        go_upto_block 2 with fail
        rw [HKE.out]
        clear b0 HKE
        obtain ⟨CU, eCU⟩ : ∃ C, C = mapC (p : Int) U := ⟨_, rfl⟩
        obtain ⟨CV, eCV⟩ : ∃ C, C = mapC (p : Int) V := ⟨_, rfl⟩
        have hSU : Hid (some 513 = some CU.size) := Lib.hid (by rw [eCU, size_mapC HUV.out.1.1])
        have hSV : Hid (some 513 = some CV.size) := Lib.hid (by rw [eCV, size_mapC HUV.out.1.2])
        have hOU : Hid (CU.all (·.oneCell') = true) := Lib.hid (by rw [eCU]; exact one_mapC _ _)
        have ECU := Lib.hid eCU
        have ECV := Lib.hid eCV
        clear eCU eCV
        go_cut [] from 47 to 196 (fun wx => ∃ U1 V1 : List Bool, Hid ((U1.length = 512 ∧ V1.length = 512) ∧ okM (p : Int) U1 ∧ okM (p : Int) V1) ∧ Hid (ActsIn w wx K5 K6 K7 K8 p U1 V1))
        case first =>
          have hk3 : K < 4 ∨ (4 ≤ K ∧ K < 6) ∨ K = 6 := by omega
          rcases hk3 with hk | ⟨hk, hk2⟩ | hk
          · have d1 : decide ((K : Int) < 4) = true := by simp; omega
            have d1' : decide (K < 4) = true := by simp; omega
            obtain ⟨P', U', E, at_, er, eE, hU', hcase, ht1, ht2⟩ := take_both p U V HUV.out.1.1 HUV.out.1.2 HUV.out.2.1 HUV.out.2.2 zn CU CV ECU.out ECV.out
            have HT1 := Lib.hid ht1
            have HT2 := Lib.hid ht2
            have EE := Lib.hid eE
            have hSE : Hid (some 513 = some E.size) := Lib.hid (by rw [eE, size_mapC hU'])
            have hOE : Hid (E.all (·.oneCell') = true) := Lib.hid (by rw [eE]; exact one_mapC _ _)
            have HFE : Hid (∀ W, Calls Try.prog 11 #[.agg E] W fun e w' => e = .returned (.agg E) ∧ Below W.heap.size W w') := Lib.hid (fun W => from_bm P' U' hU' W E eE)
            have HNE : Hid (∀ W, (binOp .neq 27 (.agg E) (.agg E)).run Try.prog W = .ok (.bool false) W) := Lib.hid (fun W => neq_mapR P' U' hU' E eE W)
            have HCS := Lib.hid hcase
            have HU' := Lib.hid hU'
            have b1 := blk_cell HG10.out 1 (.int .i64 zn) rfl
            clear ht1 ht2 eE hcase hU'
            go_upto_region 15 with (first
              | (refine wpList_load_row rfl 25 (.tmp 5) rfl K5 rfl 25 CU (0, 0) _ (HA10.out.r5 ECU.out) Try.underlying25 rfl (infoMap.trans hSU.out) ?_)
              | (refine wpList_load_row rfl 25 (.tmp 7) rfl K7 rfl 25 CV (0, 0) _ (HA10.out.r7 ECV.out) Try.underlying25 rfl (infoMap.trans hSV.out) ?_)
              | (go_at_call 12; (refine (HT1.out _).mono ?_); rintro e w11 ⟨rfl, hb11⟩)
              | (refine wpList_store_row rfl 25 (.tmp 12) (.tmp 77) rfl w11.heap.size E rfl rfl 25 Try.zeroCells25 (heap_alloc_new _ _) (infoMap.trans hSE.out) (hZ.out.trans (Option.some.inj hSE.out)) hOE.out ?_; rw [World.setRow_alloc_new]))
            obtain ⟨g12, e12⟩ : ∃ g, g = w11.heap.size := ⟨_, rfl⟩
            obtain ⟨W12, eW12⟩ : ∃ W, W = w11.alloc (.cells E 25) := ⟨_, rfl⟩
            have HA12 : Hid (ActsIn w W12 K5 K6 K7 K8 p U V) := Lib.hid (by rw [eW12]; exact (HA10.out.below hb11).alloc _)
            have HG12 : Hid (W12.heap[g12]? = some (.cells E 25 (0, 0))) := Lib.hid (by rw [eW12, e12]; exact heap_alloc_new _ _)
            have hg12 : g12 < W12.heap.size := by rw [eW12, e12]; simp
            have HG102 : Hid (W12.heap[g10]? = some (.cells #[.int .i64 zw, .int .i64 zn, .int .i64 za] 31 (0, 0))) := Lib.hid (by rw [eW12]; exact (Below.heap_alloc _ _ _ (Nat.lt_of_lt_of_le (Array.getElem?_eq_some_iff.1 HG10.out).1 hb11.size)).trans ((hb11.block _ (Array.getElem?_eq_some_iff.1 HG10.out).1).trans HG10.out))
            rw [← e12, ← eW12]
            have b2 := blk_cell HG102.out 1 (.int .i64 zn) rfl
            clear e12 eW12 b1 hb11 HA10 HG10 HT1
            go_upto_region 16 with (first
              | (refine wpList_load_row rfl 27 (.tmp 6) rfl K6 rfl 27 CU (0, 0) _ (HA12.out.r6 ECU.out) Try.underlying27 rfl (infoMapR.trans hSU.out) ?_)
              | (refine wpList_load_row rfl 27 (.tmp 8) rfl K8 rfl 27 CV (0, 0) _ (HA12.out.r8 ECV.out) Try.underlying27 rfl (infoMapR.trans hSV.out) ?_)
              | (go_at_call 13; (refine (HT2.out _).mono ?_); rintro e w13 ⟨rfl, hb13⟩)
              | (refine wpList_store_row rfl 27 (.tmp 15) (.tmp 86) rfl w13.heap.size E rfl rfl 27 Try.zeroCells27 (heap_alloc_new _ _) (infoMapR.trans hSE.out) (hZR.out.trans (Option.some.inj hSE.out)) hOE.out ?_; rw [World.setRow_alloc_new]))
            obtain ⟨g15, e15⟩ : ∃ g, g = w13.heap.size := ⟨_, rfl⟩
            obtain ⟨W14, eW14⟩ : ∃ W, W = w13.alloc (.cells E 27) := ⟨_, rfl⟩
            have HA14 : Hid (ActsIn w W14 K5 K6 K7 K8 p U V) := Lib.hid (by rw [eW14]; exact (HA12.out.below hb13).alloc _)
            have HG15 : Hid (W14.heap[g15]? = some (.cells E 27 (0, 0))) := Lib.hid (by rw [eW14, e15]; exact heap_alloc_new _ _)
            have HG124 : Hid (W14.heap[g12]? = some (.cells E 25 (0, 0))) := Lib.hid (by rw [eW14]; exact (Below.heap_alloc _ _ _ (Nat.lt_of_lt_of_le hg12 hb13.size)).trans ((hb13.block _ hg12).trans HG12.out))
            rw [← e15, ← eW14]
            have H12 : Hid (∀ y : SubW W14.heap.size W14, y.at_.heap[g12]? = some (.cells E 25 (0, 0))) := Lib.hid (fun y => (y.ok_.block _ (Array.getElem?_eq_some_iff.1 HG124.out).1).trans HG124.out)
            have H15 : Hid (∀ y : SubW W14.heap.size W14, y.at_.heap[g15]? = some (.cells E 27 (0, 0))) := Lib.hid (fun y => (y.ok_.block _ (Array.getElem?_eq_some_iff.1 HG15.out).1).trans HG15.out)
            clear e15 eW14 b2 hb13 HA12 HG12 HG102 HT2 hg12
            refine region_below W14.heap.size W14 (Below.refl _ _) (by kernel_rfl) (by kernel_rfl) ?_
            repeat (first
              | (go_big_quiet_want; refine quiet_load_row 25 (.tmp 12) rfl g12 rfl 25 E (0, 0) _ H12.out Try.underlying25 rfl (infoMap.trans hSE.out) ?_; simp only [Act.put, List.setIfInBounds_toArray, List.set_cons_zero, List.set_cons_succ]; go_big_quiet_on)
              | (go_big_quiet_want; refine quiet_load_row 27 (.tmp 15) rfl g15 rfl 27 E (0, 0) _ H15.out Try.underlying27 rfl (infoMapR.trans hSE.out) ?_; simp only [Act.put, List.setIfInBounds_toArray, List.set_cons_zero, List.set_cons_succ]; go_big_quiet_on)
              | (go_big_quiet_want; refine quiet_binOp .neq 27 (.tmp 99) (.tmp 100) 27 rfl _ _ (.bool false) rfl rfl (fun W => guard_mapR .neq _ _ _ _ W) (fun W => HNE.out W) ?_; simp only [Act.put, List.setIfInBounds_toArray, List.set_cons_zero, List.set_cons_succ]; go_big_quiet_on)
              | (go_big_quiet_step ((go_at_call 11; exact calls_sub (Nat.le_refl _) (HFE.out _)))))
            refine wpQuiet_nil ?_
            rintro w' ⟨y, rfl⟩
            have HA16 := Lib.hid (HA14.out.below y.ok_)
            have G12 := Lib.hid (H12.out y)
            have G15 := Lib.hid (H15.out y)
            obtain ⟨W16, eW16⟩ : ∃ W, W = y.at_ := ⟨_, rfl⟩
            rw [← eW16] at HA16 G12 G15 ⊢
            clear H12 H15 HFE HNE HA14 HG15 HG124 eW16 y
            by_cases her : er = 0
            · have hz : ((er : Int) == 0) = true := by rw [her]; rfl
              have HX : Hid (P' = (p : Int) ∧ okM (p : Int) U') := Lib.hid (by rcases HCS.out with h | h; exact h.2; exact absurd her h)
              have EE' : Hid (E = mapC (p : Int) U') := Lib.hid (by rw [EE.out, HX.out.1])
              clear her HCS EE
              go_upto_region 19 with fail
              refine region_ways4 w.heap.size HA16.out.bel.size (.two [] 0 (.two [] 1 (.one [] 2 (.one [] 3 (.done []))) 2 (.one [] 1 (.one [] 3 (.done [])))) 1 (.one [] 0 (.one [] 2 (.one [] 3 (.done []))))) (by kernel_rfl) (by kernel_rfl) ?_
              rintro wd hbd
              have b0 : Below w.heap.size W16 wd := hbd.mono HA16.out.bel.size
              have HAd := Lib.hid (HA16.out.below hbd)
              have G12d := Lib.hid ((hbd.block _ (Array.getElem?_eq_some_iff.1 G12.out).1).trans G12.out)
              have G15d := Lib.hid ((hbd.block _ (Array.getElem?_eq_some_iff.1 G15.out).1).trans G15.out)
              have b1 := below_setRow b0 HAd.out.l5 E
              have b2 := below_setRow b1 HAd.out.l6 E
              rw [wpWays_two4]
              try simp only [List.map_nil, opAt, List.getElem?_toArray, List.getElem?_cons_zero, List.getElem?_cons_succ, Option.getD_some]
              refine wpQuiet_nil ⟨?_, ?_⟩
              · go_wp2_with (refine wpList_load_row rfl 25 (.tmp 12) rfl g12 rfl 25 E (0, 0) _ (G12d.out) Try.underlying25 rfl (infoMap.trans hSE.out) ?_)
                refine ⟨⟨⟨_, b0⟩, rfl⟩, ?_⟩
                try simp only [Act.put, List.setIfInBounds_toArray, List.set_cons_zero, List.set_cons_succ]
                rw [wpWays_two4]
                try simp only [List.map_nil, opAt, List.getElem?_toArray, List.getElem?_cons_zero, List.getElem?_cons_succ, Option.getD_some]
                refine wpQuiet_nil ⟨?_, ?_⟩
                · go_wp2_with (refine wpList_load_row rfl 27 (.tmp 15) rfl g15 rfl 27 E (0, 0) _ (G15d.out) Try.underlying27 rfl (infoMapR.trans hSE.out) ?_)
                  refine ⟨⟨⟨_, b0⟩, rfl⟩, ?_⟩
                  try simp only [Act.put, List.setIfInBounds_toArray, List.set_cons_zero, List.set_cons_succ]
                  rw [wpWays_one4]
                  try simp only [List.map_nil, opAt, List.getElem?_toArray, List.getElem?_cons_zero, List.getElem?_cons_succ, Option.getD_some]
                  refine wpQuiet_nil ?_
                  go_wp2_with (refine wpList_store_row rfl 25 (.tmp 5) (.tmp 105) rfl K5 E rfl rfl 25 CU (HAd.out.r5 ECU.out) (infoMap.trans hSE.out) ((Option.some.inj hSU.out).symm.trans (Option.some.inj hSE.out)) hOE.out ?_)
                  refine ⟨⟨⟨_, b1⟩, rfl⟩, ?_⟩
                  try simp only [Act.put]
                  rw [wpWays_one4]
                  try simp only [List.map_nil, opAt, List.getElem?_toArray, List.getElem?_cons_zero, List.getElem?_cons_succ, Option.getD_some]
                  refine wpQuiet_nil ?_
                  go_wp2_with (refine wpList_store_row rfl 27 (.tmp 6) (.tmp 106) rfl K6 E rfl rfl 27 CU ((setRow_other _ _ _ _ (by have := HAd.out.n56; omega)).trans (HAd.out.r6 ECU.out)) (infoMapR.trans hSE.out) ((Option.some.inj hSU.out).symm.trans (Option.some.inj hSE.out)) hOE.out ?_)
                  refine ⟨⟨⟨_, b2⟩, rfl⟩, ?_⟩
                  try simp only [Act.put]
                  rw [wpWays_done4]
                  try simp only [List.map_nil]
                  refine wpQuiet_nil ?_
                  go_wp2_with fail
                  go_meet
                  exact ⟨U', V, Lib.hid ⟨⟨HU'.out, HUV.out.1.2⟩, HX.out.2, HUV.out.2.2⟩, Lib.hid (HAd.out.set56 EE'.out)⟩
                · go_wp2_with (refine wpList_store_row rfl 25 (.tmp 5) (.tmp 105) rfl K5 E rfl rfl 25 CU (HAd.out.r5 ECU.out) (infoMap.trans hSE.out) ((Option.some.inj hSU.out).symm.trans (Option.some.inj hSE.out)) hOE.out ?_)
                  refine ⟨⟨⟨_, b1⟩, rfl⟩, ?_⟩
                  try simp only [Act.put]
                  rw [wpWays_one4]
                  try simp only [List.map_nil, opAt, List.getElem?_toArray, List.getElem?_cons_zero, List.getElem?_cons_succ, Option.getD_some]
                  refine wpQuiet_nil ?_
                  go_wp2_with (refine wpList_load_row rfl 27 (.tmp 15) rfl g15 rfl 27 E (0, 0) _ ((setRow_other _ _ _ _ (by exact row_ne G15d.out HAd.out.m5 (by decide))).trans (G15d.out)) Try.underlying27 rfl (infoMapR.trans hSE.out) ?_)
                  refine ⟨⟨⟨_, b1⟩, rfl⟩, ?_⟩
                  try simp only [Act.put, List.setIfInBounds_toArray, List.set_cons_zero, List.set_cons_succ]
                  rw [wpWays_one4]
                  try simp only [List.map_nil, opAt, List.getElem?_toArray, List.getElem?_cons_zero, List.getElem?_cons_succ, Option.getD_some]
                  refine wpQuiet_nil ?_
                  go_wp2_with (refine wpList_store_row rfl 27 (.tmp 6) (.tmp 106) rfl K6 E rfl rfl 27 CU ((setRow_other _ _ _ _ (by have := HAd.out.n56; omega)).trans (HAd.out.r6 ECU.out)) (infoMapR.trans hSE.out) ((Option.some.inj hSU.out).symm.trans (Option.some.inj hSE.out)) hOE.out ?_)
                  refine ⟨⟨⟨_, b2⟩, rfl⟩, ?_⟩
                  try simp only [Act.put]
                  rw [wpWays_done4]
                  try simp only [List.map_nil]
                  refine wpQuiet_nil ?_
                  go_wp2_with fail
                  go_meet
                  exact ⟨U', V, Lib.hid ⟨⟨HU'.out, HUV.out.1.2⟩, HX.out.2, HUV.out.2.2⟩, Lib.hid (HAd.out.set56 EE'.out)⟩
              · go_wp2_with (refine wpList_load_row rfl 27 (.tmp 15) rfl g15 rfl 27 E (0, 0) _ (G15d.out) Try.underlying27 rfl (infoMapR.trans hSE.out) ?_)
                refine ⟨⟨⟨_, b0⟩, rfl⟩, ?_⟩
                try simp only [Act.put, List.setIfInBounds_toArray, List.set_cons_zero, List.set_cons_succ]
                rw [wpWays_one4]
                try simp only [List.map_nil, opAt, List.getElem?_toArray, List.getElem?_cons_zero, Option.getD_some]
                refine wpQuiet_nil ?_
                go_wp2_with (refine wpList_load_row rfl 25 (.tmp 12) rfl g12 rfl 25 E (0, 0) _ (G12d.out) Try.underlying25 rfl (infoMap.trans hSE.out) ?_)
                refine ⟨⟨⟨_, b0⟩, rfl⟩, ?_⟩
                try simp only [Act.put, List.setIfInBounds_toArray, List.set_cons_zero, List.set_cons_succ]
                rw [wpWays_one4]
                try simp only [List.map_nil, opAt, List.getElem?_toArray, List.getElem?_cons_zero, List.getElem?_cons_succ, Option.getD_some]
                refine wpQuiet_nil ?_
                go_wp2_with (refine wpList_store_row rfl 25 (.tmp 5) (.tmp 105) rfl K5 E rfl rfl 25 CU (HAd.out.r5 ECU.out) (infoMap.trans hSE.out) ((Option.some.inj hSU.out).symm.trans (Option.some.inj hSE.out)) hOE.out ?_)
                refine ⟨⟨⟨_, b1⟩, rfl⟩, ?_⟩
                try simp only [Act.put]
                rw [wpWays_one4]
                try simp only [List.map_nil, opAt, List.getElem?_toArray, List.getElem?_cons_zero, List.getElem?_cons_succ, Option.getD_some]
                refine wpQuiet_nil ?_
                go_wp2_with (refine wpList_store_row rfl 27 (.tmp 6) (.tmp 106) rfl K6 E rfl rfl 27 CU ((setRow_other _ _ _ _ (by have := HAd.out.n56; omega)).trans (HAd.out.r6 ECU.out)) (infoMapR.trans hSE.out) ((Option.some.inj hSU.out).symm.trans (Option.some.inj hSE.out)) hOE.out ?_)
                refine ⟨⟨⟨_, b2⟩, rfl⟩, ?_⟩
                try simp only [Act.put]
                rw [wpWays_done4]
                try simp only [List.map_nil]
                refine wpQuiet_nil ?_
                go_wp2_with fail
                go_meet
                exact ⟨U', V, Lib.hid ⟨⟨HU'.out, HUV.out.1.2⟩, HX.out.2, HUV.out.2.2⟩, Lib.hid (HAd.out.set56 EE'.out)⟩
            · have hz : ((er : Int) == 0) = false := by rw [beq_eq_false_iff_ne]; omega
              clear her HCS
              go_wp2_with fail
              go_meet
              exact ⟨U, V, HUV, HA16⟩
          · have d1 : decide ((K : Int) < 4) = false := by simp; omega
            have d1' : decide (K < 4) = false := by simp; omega
            have d2 : decide ((K : Int) < 6) = true := by simp; omega
            have d2' : decide (K < 6) = true := by simp; omega
            obtain ⟨P', U', E, er, eE, hU', hcase, ht1, ht2⟩ := give_both p U HUV.out.1.1 HUV.out.2.1 za zn HIN.out.2.1.1 HIN.out.2.1.2 CU ECU.out
            have HT1 := Lib.hid ht1
            have HT2 := Lib.hid ht2
            have EE := Lib.hid eE
            have hSE : Hid (some 513 = some E.size) := Lib.hid (by rw [eE, size_mapC hU'])
            have hOE : Hid (E.all (·.oneCell') = true) := Lib.hid (by rw [eE]; exact one_mapC _ _)
            have HFE : Hid (∀ W, Calls Try.prog 11 #[.agg E] W fun e w' => e = .returned (.agg E) ∧ Below W.heap.size W w') := Lib.hid (fun W => from_bm P' U' hU' W E eE)
            have HNE : Hid (∀ W, (binOp .neq 27 (.agg E) (.agg E)).run Try.prog W = .ok (.bool false) W) := Lib.hid (fun W => neq_mapR P' U' hU' E eE W)
            have HCS := Lib.hid hcase
            have HU' := Lib.hid hU'
            have b1 := blk_cell HG10.out 1 (.int .i64 zn) rfl
            have b1' := blk_cell HG10.out 2 (.int .i64 za) rfl
            clear ht1 ht2 eE hcase hU'
            go_upto_region 22 with (first
              | (refine wpList_load_row rfl 25 (.tmp 5) rfl K5 rfl 25 CU (0, 0) _ (HA10.out.r5 ECU.out) Try.underlying25 rfl (infoMap.trans hSU.out) ?_)
              | (go_at_call 14; (refine (HT1.out _).mono ?_); rintro e w11 ⟨rfl, hb11⟩)
              | (refine wpList_store_row rfl 25 (.tmp 18) (.tmp 117) rfl w11.heap.size E rfl rfl 25 Try.zeroCells25 (heap_alloc_new _ _) (infoMap.trans hSE.out) (hZ.out.trans (Option.some.inj hSE.out)) hOE.out ?_; rw [World.setRow_alloc_new]))
            obtain ⟨g12, e12⟩ : ∃ g, g = w11.heap.size := ⟨_, rfl⟩
            obtain ⟨W12, eW12⟩ : ∃ W, W = w11.alloc (.cells E 25) := ⟨_, rfl⟩
            have HA12 : Hid (ActsIn w W12 K5 K6 K7 K8 p U V) := Lib.hid (by rw [eW12]; exact (HA10.out.below hb11).alloc _)
            have HG12 : Hid (W12.heap[g12]? = some (.cells E 25 (0, 0))) := Lib.hid (by rw [eW12, e12]; exact heap_alloc_new _ _)
            have hg12 : g12 < W12.heap.size := by rw [eW12, e12]; simp
            have HG102 : Hid (W12.heap[g10]? = some (.cells #[.int .i64 zw, .int .i64 zn, .int .i64 za] 31 (0, 0))) := Lib.hid (by rw [eW12]; exact (Below.heap_alloc _ _ _ (Nat.lt_of_lt_of_le (Array.getElem?_eq_some_iff.1 HG10.out).1 hb11.size)).trans ((hb11.block _ (Array.getElem?_eq_some_iff.1 HG10.out).1).trans HG10.out))
            rw [← e12, ← eW12]
            have b2 := blk_cell HG102.out 1 (.int .i64 zn) rfl
            have b2' := blk_cell HG102.out 2 (.int .i64 za) rfl
            clear e12 eW12 b1 hb11 HA10 HG10 HT1 b1'
            go_upto_region 23 with (first
              | (refine wpList_load_row rfl 27 (.tmp 6) rfl K6 rfl 27 CU (0, 0) _ (HA12.out.r6 ECU.out) Try.underlying27 rfl (infoMapR.trans hSU.out) ?_)
              | (go_at_call 15; (refine (HT2.out _).mono ?_); rintro e w13 ⟨rfl, hb13⟩)
              | (refine wpList_store_row rfl 27 (.tmp 20) (.tmp 126) rfl w13.heap.size E rfl rfl 27 Try.zeroCells27 (heap_alloc_new _ _) (infoMapR.trans hSE.out) (hZR.out.trans (Option.some.inj hSE.out)) hOE.out ?_; rw [World.setRow_alloc_new]))
            obtain ⟨g15, e15⟩ : ∃ g, g = w13.heap.size := ⟨_, rfl⟩
            obtain ⟨W14, eW14⟩ : ∃ W, W = w13.alloc (.cells E 27) := ⟨_, rfl⟩
            have HA14 : Hid (ActsIn w W14 K5 K6 K7 K8 p U V) := Lib.hid (by rw [eW14]; exact (HA12.out.below hb13).alloc _)
            have HG15 : Hid (W14.heap[g15]? = some (.cells E 27 (0, 0))) := Lib.hid (by rw [eW14, e15]; exact heap_alloc_new _ _)
            have HG124 : Hid (W14.heap[g12]? = some (.cells E 25 (0, 0))) := Lib.hid (by rw [eW14]; exact (Below.heap_alloc _ _ _ (Nat.lt_of_lt_of_le hg12 hb13.size)).trans ((hb13.block _ hg12).trans HG12.out))
            rw [← e15, ← eW14]
            have H12 : Hid (∀ y : SubW W14.heap.size W14, y.at_.heap[g12]? = some (.cells E 25 (0, 0))) := Lib.hid (fun y => (y.ok_.block _ (Array.getElem?_eq_some_iff.1 HG124.out).1).trans HG124.out)
            have H15 : Hid (∀ y : SubW W14.heap.size W14, y.at_.heap[g15]? = some (.cells E 27 (0, 0))) := Lib.hid (fun y => (y.ok_.block _ (Array.getElem?_eq_some_iff.1 HG15.out).1).trans HG15.out)
            clear e15 eW14 b2 hb13 HA12 HG12 HG102 HT2 hg12 b2'
            refine region_below W14.heap.size W14 (Below.refl _ _) (by kernel_rfl) (by kernel_rfl) ?_
            repeat (first
              | (go_big_quiet_want; refine quiet_load_row 25 (.tmp 18) rfl g12 rfl 25 E (0, 0) _ H12.out Try.underlying25 rfl (infoMap.trans hSE.out) ?_; simp only [Act.put, List.setIfInBounds_toArray, List.set_cons_zero, List.set_cons_succ]; go_big_quiet_on)
              | (go_big_quiet_want; refine quiet_load_row 27 (.tmp 20) rfl g15 rfl 27 E (0, 0) _ H15.out Try.underlying27 rfl (infoMapR.trans hSE.out) ?_; simp only [Act.put, List.setIfInBounds_toArray, List.set_cons_zero, List.set_cons_succ]; go_big_quiet_on)
              | (go_big_quiet_want; refine quiet_binOp .neq 27 (.tmp 133) (.tmp 134) 27 rfl _ _ (.bool false) rfl rfl (fun W => guard_mapR .neq _ _ _ _ W) (fun W => HNE.out W) ?_; simp only [Act.put, List.setIfInBounds_toArray, List.set_cons_zero, List.set_cons_succ]; go_big_quiet_on)
              | (go_big_quiet_step ((go_at_call 11; exact calls_sub (Nat.le_refl _) (HFE.out _)))))
            refine wpQuiet_nil ?_
            rintro w' ⟨y, rfl⟩
            have HA16 := Lib.hid (HA14.out.below y.ok_)
            have G12 := Lib.hid (H12.out y)
            have G15 := Lib.hid (H15.out y)
            obtain ⟨W16, eW16⟩ : ∃ W, W = y.at_ := ⟨_, rfl⟩
            rw [← eW16] at HA16 G12 G15 ⊢
            clear H12 H15 HFE HNE HA14 HG15 HG124 eW16 y
            by_cases her : er = 0
            · have hz : ((er : Int) == 0) = true := by rw [her]; rfl
              have HX : Hid (P' = (p : Int) ∧ okM (p : Int) U') := Lib.hid (by rcases HCS.out with h | h; exact h.2; exact absurd her h)
              have EE' : Hid (E = mapC (p : Int) U') := Lib.hid (by rw [EE.out, HX.out.1])
              clear her HCS EE
              go_upto_region 26 with fail
              refine region_ways4 w.heap.size HA16.out.bel.size (.two [] 0 (.two [] 1 (.one [] 2 (.one [] 3 (.done []))) 2 (.one [] 1 (.one [] 3 (.done [])))) 1 (.one [] 0 (.one [] 2 (.one [] 3 (.done []))))) (by kernel_rfl) (by kernel_rfl) ?_
              rintro wd hbd
              have b0 : Below w.heap.size W16 wd := hbd.mono HA16.out.bel.size
              have HAd := Lib.hid (HA16.out.below hbd)
              have G12d := Lib.hid ((hbd.block _ (Array.getElem?_eq_some_iff.1 G12.out).1).trans G12.out)
              have G15d := Lib.hid ((hbd.block _ (Array.getElem?_eq_some_iff.1 G15.out).1).trans G15.out)
              have b1 := below_setRow b0 HAd.out.l5 E
              have b2 := below_setRow b1 HAd.out.l6 E
              rw [wpWays_two4]
              try simp only [List.map_nil, opAt, List.getElem?_toArray, List.getElem?_cons_zero, List.getElem?_cons_succ, Option.getD_some]
              refine wpQuiet_nil ⟨?_, ?_⟩
              · go_wp2_with (refine wpList_load_row rfl 25 (.tmp 18) rfl g12 rfl 25 E (0, 0) _ (G12d.out) Try.underlying25 rfl (infoMap.trans hSE.out) ?_)
                refine ⟨⟨⟨_, b0⟩, rfl⟩, ?_⟩
                try simp only [Act.put, List.setIfInBounds_toArray, List.set_cons_zero, List.set_cons_succ]
                rw [wpWays_two4]
                try simp only [List.map_nil, opAt, List.getElem?_toArray, List.getElem?_cons_zero, List.getElem?_cons_succ, Option.getD_some]
                refine wpQuiet_nil ⟨?_, ?_⟩
                · go_wp2_with (refine wpList_load_row rfl 27 (.tmp 20) rfl g15 rfl 27 E (0, 0) _ (G15d.out) Try.underlying27 rfl (infoMapR.trans hSE.out) ?_)
                  refine ⟨⟨⟨_, b0⟩, rfl⟩, ?_⟩
                  try simp only [Act.put, List.setIfInBounds_toArray, List.set_cons_zero, List.set_cons_succ]
                  rw [wpWays_one4]
                  try simp only [List.map_nil, opAt, List.getElem?_toArray, List.getElem?_cons_zero, List.getElem?_cons_succ, Option.getD_some]
                  refine wpQuiet_nil ?_
                  go_wp2_with (refine wpList_store_row rfl 25 (.tmp 5) (.tmp 139) rfl K5 E rfl rfl 25 CU (HAd.out.r5 ECU.out) (infoMap.trans hSE.out) ((Option.some.inj hSU.out).symm.trans (Option.some.inj hSE.out)) hOE.out ?_)
                  refine ⟨⟨⟨_, b1⟩, rfl⟩, ?_⟩
                  try simp only [Act.put]
                  rw [wpWays_one4]
                  try simp only [List.map_nil, opAt, List.getElem?_toArray, List.getElem?_cons_zero, List.getElem?_cons_succ, Option.getD_some]
                  refine wpQuiet_nil ?_
                  go_wp2_with (refine wpList_store_row rfl 27 (.tmp 6) (.tmp 140) rfl K6 E rfl rfl 27 CU ((setRow_other _ _ _ _ (by have := HAd.out.n56; omega)).trans (HAd.out.r6 ECU.out)) (infoMapR.trans hSE.out) ((Option.some.inj hSU.out).symm.trans (Option.some.inj hSE.out)) hOE.out ?_)
                  refine ⟨⟨⟨_, b2⟩, rfl⟩, ?_⟩
                  try simp only [Act.put]
                  rw [wpWays_done4]
                  try simp only [List.map_nil]
                  refine wpQuiet_nil ?_
                  go_wp2_with fail
                  go_meet
                  exact ⟨U', V, Lib.hid ⟨⟨HU'.out, HUV.out.1.2⟩, HX.out.2, HUV.out.2.2⟩, Lib.hid (HAd.out.set56 EE'.out)⟩
                · go_wp2_with (refine wpList_store_row rfl 25 (.tmp 5) (.tmp 139) rfl K5 E rfl rfl 25 CU (HAd.out.r5 ECU.out) (infoMap.trans hSE.out) ((Option.some.inj hSU.out).symm.trans (Option.some.inj hSE.out)) hOE.out ?_)
                  refine ⟨⟨⟨_, b1⟩, rfl⟩, ?_⟩
                  try simp only [Act.put]
                  rw [wpWays_one4]
                  try simp only [List.map_nil, opAt, List.getElem?_toArray, List.getElem?_cons_zero, List.getElem?_cons_succ, Option.getD_some]
                  refine wpQuiet_nil ?_
                  go_wp2_with (refine wpList_load_row rfl 27 (.tmp 20) rfl g15 rfl 27 E (0, 0) _ ((setRow_other _ _ _ _ (by exact row_ne G15d.out HAd.out.m5 (by decide))).trans (G15d.out)) Try.underlying27 rfl (infoMapR.trans hSE.out) ?_)
                  refine ⟨⟨⟨_, b1⟩, rfl⟩, ?_⟩
                  try simp only [Act.put, List.setIfInBounds_toArray, List.set_cons_zero, List.set_cons_succ]
                  rw [wpWays_one4]
                  try simp only [List.map_nil, opAt, List.getElem?_toArray, List.getElem?_cons_zero, List.getElem?_cons_succ, Option.getD_some]
                  refine wpQuiet_nil ?_
                  go_wp2_with (refine wpList_store_row rfl 27 (.tmp 6) (.tmp 140) rfl K6 E rfl rfl 27 CU ((setRow_other _ _ _ _ (by have := HAd.out.n56; omega)).trans (HAd.out.r6 ECU.out)) (infoMapR.trans hSE.out) ((Option.some.inj hSU.out).symm.trans (Option.some.inj hSE.out)) hOE.out ?_)
                  refine ⟨⟨⟨_, b2⟩, rfl⟩, ?_⟩
                  try simp only [Act.put]
                  rw [wpWays_done4]
                  try simp only [List.map_nil]
                  refine wpQuiet_nil ?_
                  go_wp2_with fail
                  go_meet
                  exact ⟨U', V, Lib.hid ⟨⟨HU'.out, HUV.out.1.2⟩, HX.out.2, HUV.out.2.2⟩, Lib.hid (HAd.out.set56 EE'.out)⟩
              · go_wp2_with (refine wpList_load_row rfl 27 (.tmp 20) rfl g15 rfl 27 E (0, 0) _ (G15d.out) Try.underlying27 rfl (infoMapR.trans hSE.out) ?_)
                refine ⟨⟨⟨_, b0⟩, rfl⟩, ?_⟩
                try simp only [Act.put, List.setIfInBounds_toArray, List.set_cons_zero, List.set_cons_succ]
                rw [wpWays_one4]
                try simp only [List.map_nil, opAt, List.getElem?_toArray, List.getElem?_cons_zero, Option.getD_some]
                refine wpQuiet_nil ?_
                go_wp2_with (refine wpList_load_row rfl 25 (.tmp 18) rfl g12 rfl 25 E (0, 0) _ (G12d.out) Try.underlying25 rfl (infoMap.trans hSE.out) ?_)
                refine ⟨⟨⟨_, b0⟩, rfl⟩, ?_⟩
                try simp only [Act.put, List.setIfInBounds_toArray, List.set_cons_zero, List.set_cons_succ]
                rw [wpWays_one4]
                try simp only [List.map_nil, opAt, List.getElem?_toArray, List.getElem?_cons_zero, List.getElem?_cons_succ, Option.getD_some]
                refine wpQuiet_nil ?_
                go_wp2_with (refine wpList_store_row rfl 25 (.tmp 5) (.tmp 139) rfl K5 E rfl rfl 25 CU (HAd.out.r5 ECU.out) (infoMap.trans hSE.out) ((Option.some.inj hSU.out).symm.trans (Option.some.inj hSE.out)) hOE.out ?_)
                refine ⟨⟨⟨_, b1⟩, rfl⟩, ?_⟩
                try simp only [Act.put]
                rw [wpWays_one4]
                try simp only [List.map_nil, opAt, List.getElem?_toArray, List.getElem?_cons_zero, List.getElem?_cons_succ, Option.getD_some]
                refine wpQuiet_nil ?_
                go_wp2_with (refine wpList_store_row rfl 27 (.tmp 6) (.tmp 140) rfl K6 E rfl rfl 27 CU ((setRow_other _ _ _ _ (by have := HAd.out.n56; omega)).trans (HAd.out.r6 ECU.out)) (infoMapR.trans hSE.out) ((Option.some.inj hSU.out).symm.trans (Option.some.inj hSE.out)) hOE.out ?_)
                refine ⟨⟨⟨_, b2⟩, rfl⟩, ?_⟩
                try simp only [Act.put]
                rw [wpWays_done4]
                try simp only [List.map_nil]
                refine wpQuiet_nil ?_
                go_wp2_with fail
                go_meet
                exact ⟨U', V, Lib.hid ⟨⟨HU'.out, HUV.out.1.2⟩, HX.out.2, HUV.out.2.2⟩, Lib.hid (HAd.out.set56 EE'.out)⟩
            · have hz : ((er : Int) == 0) = false := by rw [beq_eq_false_iff_ne]; omega
              clear her HCS
              go_wp2_with fail
              go_meet
              exact ⟨U, V, HUV, HA16⟩
          · have d1 : decide ((K : Int) < 4) = false := by simp; omega
            have d1' : decide (K < 4) = false := by simp; omega
            have d2 : decide ((K : Int) < 6) = false := by simp; omega
            have d2' : decide (K < 6) = false := by simp; omega
            clear hk
            go_upto_region 12 with fail
            refine region_ways4 w.heap.size HA10.out.bel.size (.two [] 0 (.two [] 1 (.one [] 2 (.one [] 3 (.done []))) 2 (.one [] 1 (.one [] 3 (.done [])))) 1 (.one [] 0 (.one [] 2 (.one [] 3 (.done []))))) (by kernel_rfl) (by kernel_rfl) ?_
            rintro wd hbd
            have b0 : Below w.heap.size W10 wd := hbd.mono HA10.out.bel.size
            have HAd := Lib.hid (HA10.out.below hbd)
            have b1 := below_setRow b0 HAd.out.l7 CU
            have b2 := below_setRow b1 HAd.out.l8 CU
            rw [wpWays_two4]
            try simp only [List.map_nil, opAt, List.getElem?_toArray, List.getElem?_cons_zero, List.getElem?_cons_succ, Option.getD_some]
            refine wpQuiet_nil ⟨?_, ?_⟩
            · go_wp2_with (refine wpList_load_row rfl 25 (.tmp 5) rfl K5 rfl 25 CU (0, 0) _ (HAd.out.r5 ECU.out) Try.underlying25 rfl (infoMap.trans hSU.out) ?_)
              refine ⟨⟨⟨_, b0⟩, rfl⟩, ?_⟩
              try simp only [Act.put, List.setIfInBounds_toArray, List.set_cons_zero, List.set_cons_succ]
              rw [wpWays_two4]
              try simp only [List.map_nil, opAt, List.getElem?_toArray, List.getElem?_cons_zero, List.getElem?_cons_succ, Option.getD_some]
              refine wpQuiet_nil ⟨?_, ?_⟩
              · go_wp2_with (refine wpList_load_row rfl 27 (.tmp 6) rfl K6 rfl 27 CU (0, 0) _ (HAd.out.r6 ECU.out) Try.underlying27 rfl (infoMapR.trans hSU.out) ?_)
                refine ⟨⟨⟨_, b0⟩, rfl⟩, ?_⟩
                try simp only [Act.put, List.setIfInBounds_toArray, List.set_cons_zero, List.set_cons_succ]
                rw [wpWays_one4]
                try simp only [List.map_nil, opAt, List.getElem?_toArray, List.getElem?_cons_zero, List.getElem?_cons_succ, Option.getD_some]
                refine wpQuiet_nil ?_
                go_wp2_with (refine wpList_store_row rfl 25 (.tmp 7) (.tmp 66) rfl K7 CU rfl rfl 25 CV (HAd.out.r7 ECV.out) (infoMap.trans hSU.out) ((Option.some.inj hSV.out).symm.trans (Option.some.inj hSU.out)) hOU.out ?_)
                refine ⟨⟨⟨_, b1⟩, rfl⟩, ?_⟩
                try simp only [Act.put]
                rw [wpWays_one4]
                try simp only [List.map_nil, opAt, List.getElem?_toArray, List.getElem?_cons_zero, List.getElem?_cons_succ, Option.getD_some]
                refine wpQuiet_nil ?_
                go_wp2_with (refine wpList_store_row rfl 27 (.tmp 8) (.tmp 67) rfl K8 CU rfl rfl 27 CV ((setRow_other _ _ _ _ (by have := HAd.out.n78; omega)).trans (HAd.out.r8 ECV.out)) (infoMapR.trans hSU.out) ((Option.some.inj hSV.out).symm.trans (Option.some.inj hSU.out)) hOU.out ?_)
                refine ⟨⟨⟨_, b2⟩, rfl⟩, ?_⟩
                try simp only [Act.put]
                rw [wpWays_done4]
                try simp only [List.map_nil]
                refine wpQuiet_nil ?_
                go_wp2_with fail
                go_meet
                exact ⟨U, U, Lib.hid ⟨⟨HUV.out.1.1, HUV.out.1.1⟩, HUV.out.2.1, HUV.out.2.1⟩, Lib.hid (HAd.out.set78 ECU.out)⟩
              · go_wp2_with (refine wpList_store_row rfl 25 (.tmp 7) (.tmp 66) rfl K7 CU rfl rfl 25 CV (HAd.out.r7 ECV.out) (infoMap.trans hSU.out) ((Option.some.inj hSV.out).symm.trans (Option.some.inj hSU.out)) hOU.out ?_)
                refine ⟨⟨⟨_, b1⟩, rfl⟩, ?_⟩
                try simp only [Act.put]
                rw [wpWays_one4]
                try simp only [List.map_nil, opAt, List.getElem?_toArray, List.getElem?_cons_zero, List.getElem?_cons_succ, Option.getD_some]
                refine wpQuiet_nil ?_
                go_wp2_with (refine wpList_load_row rfl 27 (.tmp 6) rfl K6 rfl 27 CU (0, 0) _ ((setRow_other _ _ _ _ (by have := HAd.out.n67; omega)).trans (HAd.out.r6 ECU.out)) Try.underlying27 rfl (infoMapR.trans hSU.out) ?_)
                refine ⟨⟨⟨_, b1⟩, rfl⟩, ?_⟩
                try simp only [Act.put, List.setIfInBounds_toArray, List.set_cons_zero, List.set_cons_succ]
                rw [wpWays_one4]
                try simp only [List.map_nil, opAt, List.getElem?_toArray, List.getElem?_cons_zero, List.getElem?_cons_succ, Option.getD_some]
                refine wpQuiet_nil ?_
                go_wp2_with (refine wpList_store_row rfl 27 (.tmp 8) (.tmp 67) rfl K8 CU rfl rfl 27 CV ((setRow_other _ _ _ _ (by have := HAd.out.n78; omega)).trans (HAd.out.r8 ECV.out)) (infoMapR.trans hSU.out) ((Option.some.inj hSV.out).symm.trans (Option.some.inj hSU.out)) hOU.out ?_)
                refine ⟨⟨⟨_, b2⟩, rfl⟩, ?_⟩
                try simp only [Act.put]
                rw [wpWays_done4]
                try simp only [List.map_nil]
                refine wpQuiet_nil ?_
                go_wp2_with fail
                go_meet
                exact ⟨U, U, Lib.hid ⟨⟨HUV.out.1.1, HUV.out.1.1⟩, HUV.out.2.1, HUV.out.2.1⟩, Lib.hid (HAd.out.set78 ECU.out)⟩
            · go_wp2_with (refine wpList_load_row rfl 27 (.tmp 6) rfl K6 rfl 27 CU (0, 0) _ (HAd.out.r6 ECU.out) Try.underlying27 rfl (infoMapR.trans hSU.out) ?_)
              refine ⟨⟨⟨_, b0⟩, rfl⟩, ?_⟩
              try simp only [Act.put, List.setIfInBounds_toArray, List.set_cons_zero, List.set_cons_succ]
              rw [wpWays_one4]
              try simp only [List.map_nil, opAt, List.getElem?_toArray, List.getElem?_cons_zero, Option.getD_some]
              refine wpQuiet_nil ?_
              go_wp2_with (refine wpList_load_row rfl 25 (.tmp 5) rfl K5 rfl 25 CU (0, 0) _ (HAd.out.r5 ECU.out) Try.underlying25 rfl (infoMap.trans hSU.out) ?_)
              refine ⟨⟨⟨_, b0⟩, rfl⟩, ?_⟩
              try simp only [Act.put, List.setIfInBounds_toArray, List.set_cons_zero, List.set_cons_succ]
              rw [wpWays_one4]
              try simp only [List.map_nil, opAt, List.getElem?_toArray, List.getElem?_cons_zero, List.getElem?_cons_succ, Option.getD_some]
              refine wpQuiet_nil ?_
              go_wp2_with (refine wpList_store_row rfl 25 (.tmp 7) (.tmp 66) rfl K7 CU rfl rfl 25 CV (HAd.out.r7 ECV.out) (infoMap.trans hSU.out) ((Option.some.inj hSV.out).symm.trans (Option.some.inj hSU.out)) hOU.out ?_)
              refine ⟨⟨⟨_, b1⟩, rfl⟩, ?_⟩
              try simp only [Act.put]
              rw [wpWays_one4]
              try simp only [List.map_nil, opAt, List.getElem?_toArray, List.getElem?_cons_zero, List.getElem?_cons_succ, Option.getD_some]
              refine wpQuiet_nil ?_
              go_wp2_with (refine wpList_store_row rfl 27 (.tmp 8) (.tmp 67) rfl K8 CU rfl rfl 27 CV ((setRow_other _ _ _ _ (by have := HAd.out.n78; omega)).trans (HAd.out.r8 ECV.out)) (infoMapR.trans hSU.out) ((Option.some.inj hSV.out).symm.trans (Option.some.inj hSU.out)) hOU.out ?_)
              refine ⟨⟨⟨_, b2⟩, rfl⟩, ?_⟩
              try simp only [Act.put]
              rw [wpWays_done4]
              try simp only [List.map_nil]
              refine wpQuiet_nil ?_
              go_wp2_with fail
              go_meet
              exact ⟨U, U, Lib.hid ⟨⟨HUV.out.1.1, HUV.out.1.1⟩, HUV.out.2.1, HUV.out.2.1⟩, Lib.hid (HAd.out.set78 ECU.out)⟩
        case rest =>
          obtain ⟨U1, V1, HUV1, HA1⟩ := hcut
          clear HA10 HG10 HIN HUV hSU hSV hOU ECU ECV
          obtain ⟨CU1, eCU⟩ : ∃ C, C = mapC (p : Int) U1 := ⟨_, rfl⟩
          obtain ⟨CV1, eCV⟩ : ∃ C, C = mapC (p : Int) V1 := ⟨_, rfl⟩
          have hSU : Hid (some 513 = some CU1.size) := Lib.hid (by rw [eCU, size_mapC HUV1.out.1.1])
          have hSV : Hid (some 513 = some CV1.size) := Lib.hid (by rw [eCV, size_mapC HUV1.out.1.2])
          have hOU : Hid (CU1.all (·.oneCell') = true) := Lib.hid (by rw [eCU]; exact one_mapC _ _)
          have ECU := Lib.hid eCU
          have ECV := Lib.hid eCV
          obtain ⟨n, hn⟩ : ∃ n, n = 2 + (p + 7) / 8 := ⟨_, rfl⟩
          have hn70 : n ≤ 70 := by omega
          obtain ⟨X, eX⟩ : ∃ X, X = bmN p U1 p := ⟨_, rfl⟩
          have HXL : Hid (X.length = n) := Lib.hid (by rw [eX, length_bmN, hn])
          have HPB : Hid (∀ W, Calls Try.prog 16 #[.agg CU1] W fun e w' => ∃ q, e = .returned (.slice (some ⟨q, 0, none⟩) n n) ∧ OwnB w' (W.heap.size + 1) q n 5 X ∧ Below W.heap.size W w') := Lib.hid (fun W => by rw [eX]; exact put_bm p U1 HUV1.out.1.1 HUV1.out.2.1 W CU1 ECU.out n hn)
          have HPR : Hid (∀ W, Calls Try.prog 18 #[.agg CU1] W fun e w' => ∃ q, e = .returned (.slice (some ⟨q, 0, none⟩) n n) ∧ OwnB w' (W.heap.size + 1) q n 5 X ∧ Below W.heap.size W w') := Lib.hid (fun W => by rw [eX]; exact put_rf p U1 HUV1.out.1.1 HUV1.out.2.1 W CU1 ECU.out n hn)
          have hgp := got_put HUV1.out.1.1 HUV1.out.2.1
          have HGT : Hid (∀ q W, BytesAt W (some ⟨q, 0, none⟩) X → Calls Try.prog 17 #[.slice (some ⟨q, 0, none⟩) n n] W fun e w' => e = .returned (.tuple #[.agg CU1, .int .i64 0]) ∧ Below W.heap.size W w') := Lib.hid (fun q W hW => get_all (some ⟨q, 0, none⟩) n n X W HXL.out (by omega) hW (Nat.le_refl _) CU1 (by rw [ECU.out, eX, hgp.1]) 0 (by rw [eX, hgp.2]))
          have HFC : Hid (∀ W, Calls Try.prog 11 #[.agg CU1] W fun e w' => e = .returned (.agg CU1) ∧ Below W.heap.size W w') := Lib.hid (fun W => from_bm (p : Int) U1 HUV1.out.1.1 W CU1 ECU.out)
          have HNE : Hid (∀ W, (binOp .neq 27 (.agg CU1) (.agg CU1)).run Try.prog W = .ok (.bool false) W) := Lib.hid (fun W => neq_mapR (p : Int) U1 HUV1.out.1.1 CU1 ECU.out W)
          obtain ⟨fr, hfr⟩ : ∃ f, f = (runF U1 V1 p).1 := ⟨_, rfl⟩
          have HRN : Hid (∀ W, Calls Try.prog 19 #[.agg CU1, .agg CV1] W fun e w' => e = .returned (.int .i64 (fr : Int)) ∧ Below W.heap.size W w') := Lib.hid (fun W => run_bm p U1 V1 HUV1.out.1.1 HUV1.out.1.2 HUV1.out.2.1 HUV1.out.2.2 W CU1 CV1 ECU.out ECV.out fr hfr)
          have HRR : Hid (∀ W, Calls Try.prog 20 #[.agg CU1, .agg CV1] W fun e w' => e = .returned (.int .i64 (fr : Int)) ∧ Below W.heap.size W w') := Lib.hid (fun W => rrun_bm p U1 V1 HUV1.out.1.1 HUV1.out.1.2 HUV1.out.2.1 HUV1.out.2.2 W CU1 CV1 ECU.out ECV.out fr hfr)
          have HRT : Hid (∀ W, Calls Try.prog 21 #[.agg CU1] W fun e w' => e = .returned (.bool true) ∧ Below W.heap.size W w') := Lib.hid (fun W => right_bmC (p : Int) U1 HUV1.out.1.1 W CU1 ECU.out true (by simp [HUV1.out.2.1]))
          obtain ⟨ff, hff⟩ : ∃ f, f = freeN U1 p := ⟨_, rfl⟩
          have HFR : Hid (∀ W, Calls Try.prog 22 #[.agg CU1] W fun e w' => e = .returned (.int .i64 (ff : Int)) ∧ Below W.heap.size W w') := Lib.hid (fun W => free_bm p U1 HUV1.out.1.1 hp5 W CU1 ECU.out ff hff)
          have HFF := Lib.hid hff
          have HU1 := Lib.hid HUV1.out.1.1
          clear eCU eCV hn eX hgp hfr hff
          go_upto_region 28 with (first
            | (refine wpList_load_row rfl 25 (.tmp 5) rfl K5 rfl 25 CU1 (0, 0) _ (HA1.out.r5 ECU.out) Try.underlying25 rfl (infoMap.trans hSU.out) ?_)
            | (go_at_call 16; (refine (HPB.out _).mono ?_); rintro e w21 ⟨q, rfl, ho21, hb21⟩))
          have HA2 := Lib.hid (HA1.out.below hb21)
          have HO21 := Lib.hid ho21.bytes
          clear ho21 hb21 HA1 HPB
          go_upto_region 29 with (first
            | (go_at_call 17; (refine (HGT.out q _ HO21.out).mono ?_); rintro e w22 ⟨rfl, hb22⟩)
            | (refine wpList_store_row rfl 25 (.tmp 23) (.tmp 146) rfl w22.heap.size CU1 rfl rfl 25 Try.zeroCells25 (heap_alloc_new _ _) (infoMap.trans hSU.out) (hZ.out.trans (Option.some.inj hSU.out)) hOU.out ?_; rw [World.setRow_alloc_new]))
          obtain ⟨g23, e23⟩ : ∃ g, g = w22.heap.size := ⟨_, rfl⟩
          obtain ⟨W23, eW23⟩ : ∃ W, W = w22.alloc (.cells CU1 25) := ⟨_, rfl⟩
          have HA3 : Hid (ActsIn w W23 K5 K6 K7 K8 p U1 V1) := Lib.hid (by rw [eW23]; exact (HA2.out.below hb22).alloc _)
          have HO3 : Hid (BytesAt W23 (some ⟨q, 0, none⟩) X) := Lib.hid (by rw [eW23]; exact (HO21.out.below hb22).below ((Below.refl _ _).alloc (Nat.le_refl _) _))
          have HG23 : Hid (W23.heap[g23]? = some (.cells CU1 25 (0, 0))) := Lib.hid (by rw [eW23, e23]; exact heap_alloc_new _ _)
          rw [← e23, ← eW23]
          clear e23 eW23 hb22 HA2 HO21 HGT
          have f0 := HA3.out.m6.c0
          go_wp2_with fail
          go_loop [25, 26] (fun f i => ∃ k : Nat, k ≤ p ∧ i = .int .i64 k ∧ f = .int .i64 (freeN U1 k : Nat)) (fun _ i => p - (intOf i).toNat)
          case atStart => exact ⟨0, by omega, rfl, rfl⟩
          case round =>
            obtain ⟨k, hk, rfl, rfl⟩ := hrel
            by_cases hkp : k < p
            · have hc := HA3.out.m6.cs k (by rw [HU1.out]; omega)
              obtain ⟨u, hu⟩ : ∃ u, u = U1.getD k false := ⟨_, rfl⟩
              have hfl := freeN_le U1 k
              have hst : freeN U1 (k + 1) = freeN U1 k + (if u then 0 else 1) := by rw [hu]; rfl
              rw [← hu] at hc
              have HST := Lib.hid hst
              clear hu hst
              cases u
              · go_wp2_with fail
                go_round
                case rel => exact ⟨k + 1, by omega, by go_num, by rw [HST.out]; simp⟩
                case measure => simp [intOf]; omega
              · go_wp2_with fail
                go_round
                case rel => exact ⟨k + 1, by omega, by go_num, by rw [HST.out]; simp⟩
                case measure => simp [intOf]; omega
            · obtain rfl : k = p := by omega
              go_upto_region 35 with fail
              rw [← HFF.out]
              clear f0 hkp hk
              have H5 : Hid (∀ y : SubW W23.heap.size W23, y.at_.heap[K5]? = some (.cells CU1 25 (0, 0))) := Lib.hid (fun y => (HA3.out.below y.ok_).r5 ECU.out)
              have H6 : Hid (∀ y : SubW W23.heap.size W23, y.at_.heap[K6]? = some (.cells CU1 27 (0, 0))) := Lib.hid (fun y => (HA3.out.below y.ok_).r6 ECU.out)
              have H7 : Hid (∀ y : SubW W23.heap.size W23, y.at_.heap[K7]? = some (.cells CV1 25 (0, 0))) := Lib.hid (fun y => (HA3.out.below y.ok_).r7 ECV.out)
              have H8 : Hid (∀ y : SubW W23.heap.size W23, y.at_.heap[K8]? = some (.cells CV1 27 (0, 0))) := Lib.hid (fun y => (HA3.out.below y.ok_).r8 ECV.out)
              have H23 : Hid (∀ y : SubW W23.heap.size W23, y.at_.heap[g23]? = some (.cells CU1 25 (0, 0))) := Lib.hid (fun y => (y.ok_.block _ (Array.getElem?_eq_some_iff.1 HG23.out).1).trans HG23.out)
              go_cut [196] from 161 to 196 (fun s wx => s = .bool false ∧ Hid (Below W23.heap.size W23 wx))
              case first =>
                refine region_ways4 W23.heap.size (Nat.le_refl _) (.two [0, 2] 1 (.one [] 3 (.one [] 4 (.one [5, 6, 7, 8, 9, 10, 11, 13] 12 (.one [14, 15, 16, 17, 18, 20, 21] 19 (.one [] 22 (.one [23, 24, 25, 26] 27 (.one [28, 29, 30, 31, 33] 32 (.done [34, 35])))))))) 3 (.two [] 1 (.one [] 4 (.one [5, 6, 7, 8, 9, 10, 11, 13] 12 (.one [14, 15, 16, 17, 18, 20, 21] 19 (.one [] 22 (.one [23, 24, 25, 26] 27 (.one [28, 29, 30, 31, 33] 32 (.done [34, 35]))))))) 4 (.one [] 1 (.one [5, 6, 7, 8, 9, 10, 11, 13] 12 (.one [14, 15, 16, 17, 18, 20, 21] 19 (.one [] 22 (.one [23, 24, 25, 26] 27 (.one [28, 29, 30, 31, 33] 32 (.done [34, 35]))))))))) (by kernel_rfl) (by kernel_rfl) ?_
                rintro wd hbd
                have hx0 := HO3.out.below hbd
                have tp0 := text_b (some ⟨q, 0, none⟩) n n X HXL.out hx0
                rw [wpWays_two4]
                try simp only [List.map_cons, List.map_nil, opAt, List.getElem?_toArray, List.getElem?_cons_zero, List.getElem?_cons_succ, Option.getD_some]
                repeat (first
                  | (go_big_quiet_want; refine quiet_load_row 25 (.tmp 5) rfl K5 rfl 25 CU1 (0, 0) _ H5.out Try.underlying25 rfl (infoMap.trans hSU.out) ?_; simp only [Act.put, List.setIfInBounds_toArray, List.set_cons_zero, List.set_cons_succ]; go_big_quiet_on)
                  | (go_big_quiet_want; refine quiet_load_row 27 (.tmp 6) rfl K6 rfl 27 CU1 (0, 0) _ H6.out Try.underlying27 rfl (infoMapR.trans hSU.out) ?_; simp only [Act.put, List.setIfInBounds_toArray, List.set_cons_zero, List.set_cons_succ]; go_big_quiet_on)
                  | (go_big_quiet_want; refine quiet_load_row 25 (.tmp 7) rfl K7 rfl 25 CV1 (0, 0) _ H7.out Try.underlying25 rfl (infoMap.trans hSV.out) ?_; simp only [Act.put, List.setIfInBounds_toArray, List.set_cons_zero, List.set_cons_succ]; go_big_quiet_on)
                  | (go_big_quiet_want; refine quiet_load_row 27 (.tmp 8) rfl K8 rfl 27 CV1 (0, 0) _ H8.out Try.underlying27 rfl (infoMapR.trans hSV.out) ?_; simp only [Act.put, List.setIfInBounds_toArray, List.set_cons_zero, List.set_cons_succ]; go_big_quiet_on)
                  | (go_big_quiet_want; refine quiet_load_row 25 (.tmp 23) rfl g23 rfl 25 CU1 (0, 0) _ H23.out Try.underlying25 rfl (infoMap.trans hSU.out) ?_; simp only [Act.put, List.setIfInBounds_toArray, List.set_cons_zero, List.set_cons_succ]; go_big_quiet_on)
                  | (go_big_quiet_want; refine quiet_binOp .neq 27 (.tmp 173) (.tmp 174) 27 rfl _ _ (.bool false) rfl rfl (fun W => guard_mapR .neq _ _ _ _ W) (fun W => HNE.out W) ?_; simp only [Act.put, List.setIfInBounds_toArray, List.set_cons_zero, List.set_cons_succ]; go_big_quiet_on)
                  | (go_big_quiet_step (fail)))
                refine wpQuiet_nil ⟨?_, ?_⟩
                · go_wp2_with (fail)
                  refine ⟨⟨⟨_, hbd⟩, rfl⟩, ?_⟩
                  rw [wpWays_one4]
                  try simp only [List.map_nil, opAt, List.getElem?_toArray, List.getElem?_cons_zero, List.getElem?_cons_succ, Option.getD_some]
                  refine wpQuiet_nil ?_
                  go_wp2_with (go_at_call 18; (refine (HPR.out _).mono ?_); rintro e v1 ⟨qr, rfl, ho1, hv1⟩)
                  have b1 := hbd.trans (hv1.mono hbd.size)
                  have hx1 := hx0.below hv1
                  have tp1 := text_b (some ⟨q, 0, none⟩) n n X HXL.out hx1
                  have tr1 := text_b (some ⟨qr, 0, none⟩) n n X HXL.out ho1.bytes
                  refine ⟨⟨⟨_, b1⟩, rfl⟩, ?_⟩
                  rw [wpWays_one4]
                  try simp only [List.map_nil, opAt, List.getElem?_toArray, List.getElem?_cons_zero, List.getElem?_cons_succ, Option.getD_some]
                  refine wpQuiet_nil ?_
                  go_wp2_with (fail)
                  refine ⟨⟨⟨_, b1⟩, rfl⟩, ?_⟩
                  rw [wpWays_one4]
                  try simp only [List.map_cons, List.map_nil, opAt, List.getElem?_toArray, List.getElem?_cons_zero, List.getElem?_cons_succ, Option.getD_some]
                  repeat (first
                    | (go_big_quiet_want; refine quiet_load_row 25 (.tmp 5) rfl K5 rfl 25 CU1 (0, 0) _ H5.out Try.underlying25 rfl (infoMap.trans hSU.out) ?_; simp only [Act.put, List.setIfInBounds_toArray, List.set_cons_zero, List.set_cons_succ]; go_big_quiet_on)
                    | (go_big_quiet_want; refine quiet_load_row 27 (.tmp 6) rfl K6 rfl 27 CU1 (0, 0) _ H6.out Try.underlying27 rfl (infoMapR.trans hSU.out) ?_; simp only [Act.put, List.setIfInBounds_toArray, List.set_cons_zero, List.set_cons_succ]; go_big_quiet_on)
                    | (go_big_quiet_want; refine quiet_load_row 25 (.tmp 7) rfl K7 rfl 25 CV1 (0, 0) _ H7.out Try.underlying25 rfl (infoMap.trans hSV.out) ?_; simp only [Act.put, List.setIfInBounds_toArray, List.set_cons_zero, List.set_cons_succ]; go_big_quiet_on)
                    | (go_big_quiet_want; refine quiet_load_row 27 (.tmp 8) rfl K8 rfl 27 CV1 (0, 0) _ H8.out Try.underlying27 rfl (infoMapR.trans hSV.out) ?_; simp only [Act.put, List.setIfInBounds_toArray, List.set_cons_zero, List.set_cons_succ]; go_big_quiet_on)
                    | (go_big_quiet_want; refine quiet_load_row 25 (.tmp 23) rfl g23 rfl 25 CU1 (0, 0) _ H23.out Try.underlying25 rfl (infoMap.trans hSU.out) ?_; simp only [Act.put, List.setIfInBounds_toArray, List.set_cons_zero, List.set_cons_succ]; go_big_quiet_on)
                    | (go_big_quiet_want; refine quiet_binOp .neq 27 (.tmp 173) (.tmp 174) 27 rfl _ _ (.bool false) rfl rfl (fun W => guard_mapR .neq _ _ _ _ W) (fun W => HNE.out W) ?_; simp only [Act.put, List.setIfInBounds_toArray, List.set_cons_zero, List.set_cons_succ]; go_big_quiet_on)
                    | (go_big_quiet_step (fail)))
                  refine wpQuiet_nil ?_
                  go_wp2_with (go_at_call 11; (refine (HFC.out _).mono ?_); rintro e v2 ⟨rfl, hv2⟩)
                  have b2 := b1.trans (hv2.mono b1.size)
                  refine ⟨⟨⟨_, b2⟩, rfl⟩, ?_⟩
                  rw [wpWays_one4]
                  try simp only [List.map_cons, List.map_nil, opAt, List.getElem?_toArray, List.getElem?_cons_zero, List.getElem?_cons_succ, Option.getD_some]
                  repeat (first
                    | (go_big_quiet_want; refine quiet_load_row 25 (.tmp 5) rfl K5 rfl 25 CU1 (0, 0) _ H5.out Try.underlying25 rfl (infoMap.trans hSU.out) ?_; simp only [Act.put, List.setIfInBounds_toArray, List.set_cons_zero, List.set_cons_succ]; go_big_quiet_on)
                    | (go_big_quiet_want; refine quiet_load_row 27 (.tmp 6) rfl K6 rfl 27 CU1 (0, 0) _ H6.out Try.underlying27 rfl (infoMapR.trans hSU.out) ?_; simp only [Act.put, List.setIfInBounds_toArray, List.set_cons_zero, List.set_cons_succ]; go_big_quiet_on)
                    | (go_big_quiet_want; refine quiet_load_row 25 (.tmp 7) rfl K7 rfl 25 CV1 (0, 0) _ H7.out Try.underlying25 rfl (infoMap.trans hSV.out) ?_; simp only [Act.put, List.setIfInBounds_toArray, List.set_cons_zero, List.set_cons_succ]; go_big_quiet_on)
                    | (go_big_quiet_want; refine quiet_load_row 27 (.tmp 8) rfl K8 rfl 27 CV1 (0, 0) _ H8.out Try.underlying27 rfl (infoMapR.trans hSV.out) ?_; simp only [Act.put, List.setIfInBounds_toArray, List.set_cons_zero, List.set_cons_succ]; go_big_quiet_on)
                    | (go_big_quiet_want; refine quiet_load_row 25 (.tmp 23) rfl g23 rfl 25 CU1 (0, 0) _ H23.out Try.underlying25 rfl (infoMap.trans hSU.out) ?_; simp only [Act.put, List.setIfInBounds_toArray, List.set_cons_zero, List.set_cons_succ]; go_big_quiet_on)
                    | (go_big_quiet_want; refine quiet_binOp .neq 27 (.tmp 173) (.tmp 174) 27 rfl _ _ (.bool false) rfl rfl (fun W => guard_mapR .neq _ _ _ _ W) (fun W => HNE.out W) ?_; simp only [Act.put, List.setIfInBounds_toArray, List.set_cons_zero, List.set_cons_succ]; go_big_quiet_on)
                    | (go_big_quiet_step (fail)))
                  refine wpQuiet_nil ?_
                  go_wp2_with (go_at_call 19; (refine (HRN.out _).mono ?_); rintro e v3 ⟨rfl, hv3⟩)
                  have b3 := b2.trans (hv3.mono b2.size)
                  refine ⟨⟨⟨_, b3⟩, rfl⟩, ?_⟩
                  rw [wpWays_one4]
                  try simp only [List.map_nil, opAt, List.getElem?_toArray, List.getElem?_cons_zero, List.getElem?_cons_succ, Option.getD_some]
                  repeat (first
                    | (go_big_quiet_want; refine quiet_load_row 25 (.tmp 5) rfl K5 rfl 25 CU1 (0, 0) _ H5.out Try.underlying25 rfl (infoMap.trans hSU.out) ?_; simp only [Act.put, List.setIfInBounds_toArray, List.set_cons_zero, List.set_cons_succ]; go_big_quiet_on)
                    | (go_big_quiet_want; refine quiet_load_row 27 (.tmp 6) rfl K6 rfl 27 CU1 (0, 0) _ H6.out Try.underlying27 rfl (infoMapR.trans hSU.out) ?_; simp only [Act.put, List.setIfInBounds_toArray, List.set_cons_zero, List.set_cons_succ]; go_big_quiet_on)
                    | (go_big_quiet_want; refine quiet_load_row 25 (.tmp 7) rfl K7 rfl 25 CV1 (0, 0) _ H7.out Try.underlying25 rfl (infoMap.trans hSV.out) ?_; simp only [Act.put, List.setIfInBounds_toArray, List.set_cons_zero, List.set_cons_succ]; go_big_quiet_on)
                    | (go_big_quiet_want; refine quiet_load_row 27 (.tmp 8) rfl K8 rfl 27 CV1 (0, 0) _ H8.out Try.underlying27 rfl (infoMapR.trans hSV.out) ?_; simp only [Act.put, List.setIfInBounds_toArray, List.set_cons_zero, List.set_cons_succ]; go_big_quiet_on)
                    | (go_big_quiet_want; refine quiet_load_row 25 (.tmp 23) rfl g23 rfl 25 CU1 (0, 0) _ H23.out Try.underlying25 rfl (infoMap.trans hSU.out) ?_; simp only [Act.put, List.setIfInBounds_toArray, List.set_cons_zero, List.set_cons_succ]; go_big_quiet_on)
                    | (go_big_quiet_want; refine quiet_binOp .neq 27 (.tmp 173) (.tmp 174) 27 rfl _ _ (.bool false) rfl rfl (fun W => guard_mapR .neq _ _ _ _ W) (fun W => HNE.out W) ?_; simp only [Act.put, List.setIfInBounds_toArray, List.set_cons_zero, List.set_cons_succ]; go_big_quiet_on)
                    | (go_big_quiet_step (fail)))
                  refine wpQuiet_nil ?_
                  go_wp2_with (go_at_call 20; (refine (HRR.out _).mono ?_); rintro e v4 ⟨rfl, hv4⟩)
                  have b4 := b3.trans (hv4.mono b3.size)
                  refine ⟨⟨⟨_, b4⟩, rfl⟩, ?_⟩
                  rw [wpWays_one4]
                  try simp only [List.map_cons, List.map_nil, opAt, List.getElem?_toArray, List.getElem?_cons_zero, List.getElem?_cons_succ, Option.getD_some]
                  repeat (first
                    | (go_big_quiet_want; refine quiet_load_row 25 (.tmp 5) rfl K5 rfl 25 CU1 (0, 0) _ H5.out Try.underlying25 rfl (infoMap.trans hSU.out) ?_; simp only [Act.put, List.setIfInBounds_toArray, List.set_cons_zero, List.set_cons_succ]; go_big_quiet_on)
                    | (go_big_quiet_want; refine quiet_load_row 27 (.tmp 6) rfl K6 rfl 27 CU1 (0, 0) _ H6.out Try.underlying27 rfl (infoMapR.trans hSU.out) ?_; simp only [Act.put, List.setIfInBounds_toArray, List.set_cons_zero, List.set_cons_succ]; go_big_quiet_on)
                    | (go_big_quiet_want; refine quiet_load_row 25 (.tmp 7) rfl K7 rfl 25 CV1 (0, 0) _ H7.out Try.underlying25 rfl (infoMap.trans hSV.out) ?_; simp only [Act.put, List.setIfInBounds_toArray, List.set_cons_zero, List.set_cons_succ]; go_big_quiet_on)
                    | (go_big_quiet_want; refine quiet_load_row 27 (.tmp 8) rfl K8 rfl 27 CV1 (0, 0) _ H8.out Try.underlying27 rfl (infoMapR.trans hSV.out) ?_; simp only [Act.put, List.setIfInBounds_toArray, List.set_cons_zero, List.set_cons_succ]; go_big_quiet_on)
                    | (go_big_quiet_want; refine quiet_load_row 25 (.tmp 23) rfl g23 rfl 25 CU1 (0, 0) _ H23.out Try.underlying25 rfl (infoMap.trans hSU.out) ?_; simp only [Act.put, List.setIfInBounds_toArray, List.set_cons_zero, List.set_cons_succ]; go_big_quiet_on)
                    | (go_big_quiet_want; refine quiet_binOp .neq 27 (.tmp 173) (.tmp 174) 27 rfl _ _ (.bool false) rfl rfl (fun W => guard_mapR .neq _ _ _ _ W) (fun W => HNE.out W) ?_; simp only [Act.put, List.setIfInBounds_toArray, List.set_cons_zero, List.set_cons_succ]; go_big_quiet_on)
                    | (go_big_quiet_step (fail)))
                  refine wpQuiet_nil ?_
                  go_wp2_with (go_at_call 21; (refine (HRT.out _).mono ?_); rintro e v5 ⟨rfl, hv5⟩)
                  have b5 := b4.trans (hv5.mono b4.size)
                  refine ⟨⟨⟨_, b5⟩, rfl⟩, ?_⟩
                  rw [wpWays_one4]
                  try simp only [List.map_cons, List.map_nil, opAt, List.getElem?_toArray, List.getElem?_cons_zero, List.getElem?_cons_succ, Option.getD_some]
                  repeat (first
                    | (go_big_quiet_want; refine quiet_load_row 25 (.tmp 5) rfl K5 rfl 25 CU1 (0, 0) _ H5.out Try.underlying25 rfl (infoMap.trans hSU.out) ?_; simp only [Act.put, List.setIfInBounds_toArray, List.set_cons_zero, List.set_cons_succ]; go_big_quiet_on)
                    | (go_big_quiet_want; refine quiet_load_row 27 (.tmp 6) rfl K6 rfl 27 CU1 (0, 0) _ H6.out Try.underlying27 rfl (infoMapR.trans hSU.out) ?_; simp only [Act.put, List.setIfInBounds_toArray, List.set_cons_zero, List.set_cons_succ]; go_big_quiet_on)
                    | (go_big_quiet_want; refine quiet_load_row 25 (.tmp 7) rfl K7 rfl 25 CV1 (0, 0) _ H7.out Try.underlying25 rfl (infoMap.trans hSV.out) ?_; simp only [Act.put, List.setIfInBounds_toArray, List.set_cons_zero, List.set_cons_succ]; go_big_quiet_on)
                    | (go_big_quiet_want; refine quiet_load_row 27 (.tmp 8) rfl K8 rfl 27 CV1 (0, 0) _ H8.out Try.underlying27 rfl (infoMapR.trans hSV.out) ?_; simp only [Act.put, List.setIfInBounds_toArray, List.set_cons_zero, List.set_cons_succ]; go_big_quiet_on)
                    | (go_big_quiet_want; refine quiet_load_row 25 (.tmp 23) rfl g23 rfl 25 CU1 (0, 0) _ H23.out Try.underlying25 rfl (infoMap.trans hSU.out) ?_; simp only [Act.put, List.setIfInBounds_toArray, List.set_cons_zero, List.set_cons_succ]; go_big_quiet_on)
                    | (go_big_quiet_want; refine quiet_binOp .neq 27 (.tmp 173) (.tmp 174) 27 rfl _ _ (.bool false) rfl rfl (fun W => guard_mapR .neq _ _ _ _ W) (fun W => HNE.out W) ?_; simp only [Act.put, List.setIfInBounds_toArray, List.set_cons_zero, List.set_cons_succ]; go_big_quiet_on)
                    | (go_big_quiet_step (fail)))
                  refine wpQuiet_nil ?_
                  go_wp2_with (go_at_call 22; (refine (HFR.out _).mono ?_); rintro e v6 ⟨rfl, hv6⟩)
                  have b6 := b5.trans (hv6.mono b5.size)
                  refine ⟨⟨⟨_, b6⟩, rfl⟩, ?_⟩
                  rw [wpWays_done4]
                  try simp only [List.map_cons, List.map_nil, opAt, List.getElem?_toArray, List.getElem?_cons_zero, List.getElem?_cons_succ, Option.getD_some]
                  repeat (first
                    | (go_big_quiet_want; refine quiet_load_row 25 (.tmp 5) rfl K5 rfl 25 CU1 (0, 0) _ H5.out Try.underlying25 rfl (infoMap.trans hSU.out) ?_; simp only [Act.put, List.setIfInBounds_toArray, List.set_cons_zero, List.set_cons_succ]; go_big_quiet_on)
                    | (go_big_quiet_want; refine quiet_load_row 27 (.tmp 6) rfl K6 rfl 27 CU1 (0, 0) _ H6.out Try.underlying27 rfl (infoMapR.trans hSU.out) ?_; simp only [Act.put, List.setIfInBounds_toArray, List.set_cons_zero, List.set_cons_succ]; go_big_quiet_on)
                    | (go_big_quiet_want; refine quiet_load_row 25 (.tmp 7) rfl K7 rfl 25 CV1 (0, 0) _ H7.out Try.underlying25 rfl (infoMap.trans hSV.out) ?_; simp only [Act.put, List.setIfInBounds_toArray, List.set_cons_zero, List.set_cons_succ]; go_big_quiet_on)
                    | (go_big_quiet_want; refine quiet_load_row 27 (.tmp 8) rfl K8 rfl 27 CV1 (0, 0) _ H8.out Try.underlying27 rfl (infoMapR.trans hSV.out) ?_; simp only [Act.put, List.setIfInBounds_toArray, List.set_cons_zero, List.set_cons_succ]; go_big_quiet_on)
                    | (go_big_quiet_want; refine quiet_load_row 25 (.tmp 23) rfl g23 rfl 25 CU1 (0, 0) _ H23.out Try.underlying25 rfl (infoMap.trans hSU.out) ?_; simp only [Act.put, List.setIfInBounds_toArray, List.set_cons_zero, List.set_cons_succ]; go_big_quiet_on)
                    | (go_big_quiet_want; refine quiet_binOp .neq 27 (.tmp 173) (.tmp 174) 27 rfl _ _ (.bool false) rfl rfl (fun W => guard_mapR .neq _ _ _ _ W) (fun W => HNE.out W) ?_; simp only [Act.put, List.setIfInBounds_toArray, List.set_cons_zero, List.set_cons_succ]; go_big_quiet_on)
                    | (go_big_quiet_step (fail)))
                  refine wpQuiet_nil ?_
                  go_wp2_with fail
                  go_meet
                  exact ⟨rfl, Lib.hid b6⟩
                · go_wp2_with (go_at_call 18; (refine (HPR.out _).mono ?_); rintro e v7 ⟨qr, rfl, ho7, hv7⟩)
                  have b7 := hbd.trans (hv7.mono hbd.size)
                  have hx7 := hx0.below hv7
                  have tp7 := text_b (some ⟨q, 0, none⟩) n n X HXL.out hx7
                  have tr7 := text_b (some ⟨qr, 0, none⟩) n n X HXL.out ho7.bytes
                  refine ⟨⟨⟨_, b7⟩, rfl⟩, ?_⟩
                  rw [wpWays_two4]
                  try simp only [List.map_nil, opAt, List.getElem?_toArray, List.getElem?_cons_zero, List.getElem?_cons_succ, Option.getD_some]
                  refine wpQuiet_nil ⟨?_, ?_⟩
                  · go_wp2_with (fail)
                    refine ⟨⟨⟨_, b7⟩, rfl⟩, ?_⟩
                    rw [wpWays_one4]
                    try simp only [List.map_nil, opAt, List.getElem?_toArray, List.getElem?_cons_zero, List.getElem?_cons_succ, Option.getD_some]
                    refine wpQuiet_nil ?_
                    go_wp2_with (fail)
                    refine ⟨⟨⟨_, b7⟩, rfl⟩, ?_⟩
                    rw [wpWays_one4]
                    try simp only [List.map_cons, List.map_nil, opAt, List.getElem?_toArray, List.getElem?_cons_zero, List.getElem?_cons_succ, Option.getD_some]
                    repeat (first
                      | (go_big_quiet_want; refine quiet_load_row 25 (.tmp 5) rfl K5 rfl 25 CU1 (0, 0) _ H5.out Try.underlying25 rfl (infoMap.trans hSU.out) ?_; simp only [Act.put, List.setIfInBounds_toArray, List.set_cons_zero, List.set_cons_succ]; go_big_quiet_on)
                      | (go_big_quiet_want; refine quiet_load_row 27 (.tmp 6) rfl K6 rfl 27 CU1 (0, 0) _ H6.out Try.underlying27 rfl (infoMapR.trans hSU.out) ?_; simp only [Act.put, List.setIfInBounds_toArray, List.set_cons_zero, List.set_cons_succ]; go_big_quiet_on)
                      | (go_big_quiet_want; refine quiet_load_row 25 (.tmp 7) rfl K7 rfl 25 CV1 (0, 0) _ H7.out Try.underlying25 rfl (infoMap.trans hSV.out) ?_; simp only [Act.put, List.setIfInBounds_toArray, List.set_cons_zero, List.set_cons_succ]; go_big_quiet_on)
                      | (go_big_quiet_want; refine quiet_load_row 27 (.tmp 8) rfl K8 rfl 27 CV1 (0, 0) _ H8.out Try.underlying27 rfl (infoMapR.trans hSV.out) ?_; simp only [Act.put, List.setIfInBounds_toArray, List.set_cons_zero, List.set_cons_succ]; go_big_quiet_on)
                      | (go_big_quiet_want; refine quiet_load_row 25 (.tmp 23) rfl g23 rfl 25 CU1 (0, 0) _ H23.out Try.underlying25 rfl (infoMap.trans hSU.out) ?_; simp only [Act.put, List.setIfInBounds_toArray, List.set_cons_zero, List.set_cons_succ]; go_big_quiet_on)
                      | (go_big_quiet_want; refine quiet_binOp .neq 27 (.tmp 173) (.tmp 174) 27 rfl _ _ (.bool false) rfl rfl (fun W => guard_mapR .neq _ _ _ _ W) (fun W => HNE.out W) ?_; simp only [Act.put, List.setIfInBounds_toArray, List.set_cons_zero, List.set_cons_succ]; go_big_quiet_on)
                      | (go_big_quiet_step (fail)))
                    refine wpQuiet_nil ?_
                    go_wp2_with (go_at_call 11; (refine (HFC.out _).mono ?_); rintro e v8 ⟨rfl, hv8⟩)
                    have b8 := b7.trans (hv8.mono b7.size)
                    refine ⟨⟨⟨_, b8⟩, rfl⟩, ?_⟩
                    rw [wpWays_one4]
                    try simp only [List.map_cons, List.map_nil, opAt, List.getElem?_toArray, List.getElem?_cons_zero, List.getElem?_cons_succ, Option.getD_some]
                    repeat (first
                      | (go_big_quiet_want; refine quiet_load_row 25 (.tmp 5) rfl K5 rfl 25 CU1 (0, 0) _ H5.out Try.underlying25 rfl (infoMap.trans hSU.out) ?_; simp only [Act.put, List.setIfInBounds_toArray, List.set_cons_zero, List.set_cons_succ]; go_big_quiet_on)
                      | (go_big_quiet_want; refine quiet_load_row 27 (.tmp 6) rfl K6 rfl 27 CU1 (0, 0) _ H6.out Try.underlying27 rfl (infoMapR.trans hSU.out) ?_; simp only [Act.put, List.setIfInBounds_toArray, List.set_cons_zero, List.set_cons_succ]; go_big_quiet_on)
                      | (go_big_quiet_want; refine quiet_load_row 25 (.tmp 7) rfl K7 rfl 25 CV1 (0, 0) _ H7.out Try.underlying25 rfl (infoMap.trans hSV.out) ?_; simp only [Act.put, List.setIfInBounds_toArray, List.set_cons_zero, List.set_cons_succ]; go_big_quiet_on)
                      | (go_big_quiet_want; refine quiet_load_row 27 (.tmp 8) rfl K8 rfl 27 CV1 (0, 0) _ H8.out Try.underlying27 rfl (infoMapR.trans hSV.out) ?_; simp only [Act.put, List.setIfInBounds_toArray, List.set_cons_zero, List.set_cons_succ]; go_big_quiet_on)
                      | (go_big_quiet_want; refine quiet_load_row 25 (.tmp 23) rfl g23 rfl 25 CU1 (0, 0) _ H23.out Try.underlying25 rfl (infoMap.trans hSU.out) ?_; simp only [Act.put, List.setIfInBounds_toArray, List.set_cons_zero, List.set_cons_succ]; go_big_quiet_on)
                      | (go_big_quiet_want; refine quiet_binOp .neq 27 (.tmp 173) (.tmp 174) 27 rfl _ _ (.bool false) rfl rfl (fun W => guard_mapR .neq _ _ _ _ W) (fun W => HNE.out W) ?_; simp only [Act.put, List.setIfInBounds_toArray, List.set_cons_zero, List.set_cons_succ]; go_big_quiet_on)
                      | (go_big_quiet_step (fail)))
                    refine wpQuiet_nil ?_
                    go_wp2_with (go_at_call 19; (refine (HRN.out _).mono ?_); rintro e v9 ⟨rfl, hv9⟩)
                    have b9 := b8.trans (hv9.mono b8.size)
                    refine ⟨⟨⟨_, b9⟩, rfl⟩, ?_⟩
                    rw [wpWays_one4]
                    try simp only [List.map_nil, opAt, List.getElem?_toArray, List.getElem?_cons_zero, List.getElem?_cons_succ, Option.getD_some]
                    repeat (first
                      | (go_big_quiet_want; refine quiet_load_row 25 (.tmp 5) rfl K5 rfl 25 CU1 (0, 0) _ H5.out Try.underlying25 rfl (infoMap.trans hSU.out) ?_; simp only [Act.put, List.setIfInBounds_toArray, List.set_cons_zero, List.set_cons_succ]; go_big_quiet_on)
                      | (go_big_quiet_want; refine quiet_load_row 27 (.tmp 6) rfl K6 rfl 27 CU1 (0, 0) _ H6.out Try.underlying27 rfl (infoMapR.trans hSU.out) ?_; simp only [Act.put, List.setIfInBounds_toArray, List.set_cons_zero, List.set_cons_succ]; go_big_quiet_on)
                      | (go_big_quiet_want; refine quiet_load_row 25 (.tmp 7) rfl K7 rfl 25 CV1 (0, 0) _ H7.out Try.underlying25 rfl (infoMap.trans hSV.out) ?_; simp only [Act.put, List.setIfInBounds_toArray, List.set_cons_zero, List.set_cons_succ]; go_big_quiet_on)
                      | (go_big_quiet_want; refine quiet_load_row 27 (.tmp 8) rfl K8 rfl 27 CV1 (0, 0) _ H8.out Try.underlying27 rfl (infoMapR.trans hSV.out) ?_; simp only [Act.put, List.setIfInBounds_toArray, List.set_cons_zero, List.set_cons_succ]; go_big_quiet_on)
                      | (go_big_quiet_want; refine quiet_load_row 25 (.tmp 23) rfl g23 rfl 25 CU1 (0, 0) _ H23.out Try.underlying25 rfl (infoMap.trans hSU.out) ?_; simp only [Act.put, List.setIfInBounds_toArray, List.set_cons_zero, List.set_cons_succ]; go_big_quiet_on)
                      | (go_big_quiet_want; refine quiet_binOp .neq 27 (.tmp 173) (.tmp 174) 27 rfl _ _ (.bool false) rfl rfl (fun W => guard_mapR .neq _ _ _ _ W) (fun W => HNE.out W) ?_; simp only [Act.put, List.setIfInBounds_toArray, List.set_cons_zero, List.set_cons_succ]; go_big_quiet_on)
                      | (go_big_quiet_step (fail)))
                    refine wpQuiet_nil ?_
                    go_wp2_with (go_at_call 20; (refine (HRR.out _).mono ?_); rintro e v10 ⟨rfl, hv10⟩)
                    have b10 := b9.trans (hv10.mono b9.size)
                    refine ⟨⟨⟨_, b10⟩, rfl⟩, ?_⟩
                    rw [wpWays_one4]
                    try simp only [List.map_cons, List.map_nil, opAt, List.getElem?_toArray, List.getElem?_cons_zero, List.getElem?_cons_succ, Option.getD_some]
                    repeat (first
                      | (go_big_quiet_want; refine quiet_load_row 25 (.tmp 5) rfl K5 rfl 25 CU1 (0, 0) _ H5.out Try.underlying25 rfl (infoMap.trans hSU.out) ?_; simp only [Act.put, List.setIfInBounds_toArray, List.set_cons_zero, List.set_cons_succ]; go_big_quiet_on)
                      | (go_big_quiet_want; refine quiet_load_row 27 (.tmp 6) rfl K6 rfl 27 CU1 (0, 0) _ H6.out Try.underlying27 rfl (infoMapR.trans hSU.out) ?_; simp only [Act.put, List.setIfInBounds_toArray, List.set_cons_zero, List.set_cons_succ]; go_big_quiet_on)
                      | (go_big_quiet_want; refine quiet_load_row 25 (.tmp 7) rfl K7 rfl 25 CV1 (0, 0) _ H7.out Try.underlying25 rfl (infoMap.trans hSV.out) ?_; simp only [Act.put, List.setIfInBounds_toArray, List.set_cons_zero, List.set_cons_succ]; go_big_quiet_on)
                      | (go_big_quiet_want; refine quiet_load_row 27 (.tmp 8) rfl K8 rfl 27 CV1 (0, 0) _ H8.out Try.underlying27 rfl (infoMapR.trans hSV.out) ?_; simp only [Act.put, List.setIfInBounds_toArray, List.set_cons_zero, List.set_cons_succ]; go_big_quiet_on)
                      | (go_big_quiet_want; refine quiet_load_row 25 (.tmp 23) rfl g23 rfl 25 CU1 (0, 0) _ H23.out Try.underlying25 rfl (infoMap.trans hSU.out) ?_; simp only [Act.put, List.setIfInBounds_toArray, List.set_cons_zero, List.set_cons_succ]; go_big_quiet_on)
                      | (go_big_quiet_want; refine quiet_binOp .neq 27 (.tmp 173) (.tmp 174) 27 rfl _ _ (.bool false) rfl rfl (fun W => guard_mapR .neq _ _ _ _ W) (fun W => HNE.out W) ?_; simp only [Act.put, List.setIfInBounds_toArray, List.set_cons_zero, List.set_cons_succ]; go_big_quiet_on)
                      | (go_big_quiet_step (fail)))
                    refine wpQuiet_nil ?_
                    go_wp2_with (go_at_call 21; (refine (HRT.out _).mono ?_); rintro e v11 ⟨rfl, hv11⟩)
                    have b11 := b10.trans (hv11.mono b10.size)
                    refine ⟨⟨⟨_, b11⟩, rfl⟩, ?_⟩
                    rw [wpWays_one4]
                    try simp only [List.map_cons, List.map_nil, opAt, List.getElem?_toArray, List.getElem?_cons_zero, List.getElem?_cons_succ, Option.getD_some]
                    repeat (first
                      | (go_big_quiet_want; refine quiet_load_row 25 (.tmp 5) rfl K5 rfl 25 CU1 (0, 0) _ H5.out Try.underlying25 rfl (infoMap.trans hSU.out) ?_; simp only [Act.put, List.setIfInBounds_toArray, List.set_cons_zero, List.set_cons_succ]; go_big_quiet_on)
                      | (go_big_quiet_want; refine quiet_load_row 27 (.tmp 6) rfl K6 rfl 27 CU1 (0, 0) _ H6.out Try.underlying27 rfl (infoMapR.trans hSU.out) ?_; simp only [Act.put, List.setIfInBounds_toArray, List.set_cons_zero, List.set_cons_succ]; go_big_quiet_on)
                      | (go_big_quiet_want; refine quiet_load_row 25 (.tmp 7) rfl K7 rfl 25 CV1 (0, 0) _ H7.out Try.underlying25 rfl (infoMap.trans hSV.out) ?_; simp only [Act.put, List.setIfInBounds_toArray, List.set_cons_zero, List.set_cons_succ]; go_big_quiet_on)
                      | (go_big_quiet_want; refine quiet_load_row 27 (.tmp 8) rfl K8 rfl 27 CV1 (0, 0) _ H8.out Try.underlying27 rfl (infoMapR.trans hSV.out) ?_; simp only [Act.put, List.setIfInBounds_toArray, List.set_cons_zero, List.set_cons_succ]; go_big_quiet_on)
                      | (go_big_quiet_want; refine quiet_load_row 25 (.tmp 23) rfl g23 rfl 25 CU1 (0, 0) _ H23.out Try.underlying25 rfl (infoMap.trans hSU.out) ?_; simp only [Act.put, List.setIfInBounds_toArray, List.set_cons_zero, List.set_cons_succ]; go_big_quiet_on)
                      | (go_big_quiet_want; refine quiet_binOp .neq 27 (.tmp 173) (.tmp 174) 27 rfl _ _ (.bool false) rfl rfl (fun W => guard_mapR .neq _ _ _ _ W) (fun W => HNE.out W) ?_; simp only [Act.put, List.setIfInBounds_toArray, List.set_cons_zero, List.set_cons_succ]; go_big_quiet_on)
                      | (go_big_quiet_step (fail)))
                    refine wpQuiet_nil ?_
                    go_wp2_with (go_at_call 22; (refine (HFR.out _).mono ?_); rintro e v12 ⟨rfl, hv12⟩)
                    have b12 := b11.trans (hv12.mono b11.size)
                    refine ⟨⟨⟨_, b12⟩, rfl⟩, ?_⟩
                    rw [wpWays_done4]
                    try simp only [List.map_cons, List.map_nil, opAt, List.getElem?_toArray, List.getElem?_cons_zero, List.getElem?_cons_succ, Option.getD_some]
                    repeat (first
                      | (go_big_quiet_want; refine quiet_load_row 25 (.tmp 5) rfl K5 rfl 25 CU1 (0, 0) _ H5.out Try.underlying25 rfl (infoMap.trans hSU.out) ?_; simp only [Act.put, List.setIfInBounds_toArray, List.set_cons_zero, List.set_cons_succ]; go_big_quiet_on)
                      | (go_big_quiet_want; refine quiet_load_row 27 (.tmp 6) rfl K6 rfl 27 CU1 (0, 0) _ H6.out Try.underlying27 rfl (infoMapR.trans hSU.out) ?_; simp only [Act.put, List.setIfInBounds_toArray, List.set_cons_zero, List.set_cons_succ]; go_big_quiet_on)
                      | (go_big_quiet_want; refine quiet_load_row 25 (.tmp 7) rfl K7 rfl 25 CV1 (0, 0) _ H7.out Try.underlying25 rfl (infoMap.trans hSV.out) ?_; simp only [Act.put, List.setIfInBounds_toArray, List.set_cons_zero, List.set_cons_succ]; go_big_quiet_on)
                      | (go_big_quiet_want; refine quiet_load_row 27 (.tmp 8) rfl K8 rfl 27 CV1 (0, 0) _ H8.out Try.underlying27 rfl (infoMapR.trans hSV.out) ?_; simp only [Act.put, List.setIfInBounds_toArray, List.set_cons_zero, List.set_cons_succ]; go_big_quiet_on)
                      | (go_big_quiet_want; refine quiet_load_row 25 (.tmp 23) rfl g23 rfl 25 CU1 (0, 0) _ H23.out Try.underlying25 rfl (infoMap.trans hSU.out) ?_; simp only [Act.put, List.setIfInBounds_toArray, List.set_cons_zero, List.set_cons_succ]; go_big_quiet_on)
                      | (go_big_quiet_want; refine quiet_binOp .neq 27 (.tmp 173) (.tmp 174) 27 rfl _ _ (.bool false) rfl rfl (fun W => guard_mapR .neq _ _ _ _ W) (fun W => HNE.out W) ?_; simp only [Act.put, List.setIfInBounds_toArray, List.set_cons_zero, List.set_cons_succ]; go_big_quiet_on)
                      | (go_big_quiet_step (fail)))
                    refine wpQuiet_nil ?_
                    go_wp2_with fail
                    go_meet
                    exact ⟨rfl, Lib.hid b12⟩
                  · go_wp2_with (fail)
                    refine ⟨⟨⟨_, b7⟩, rfl⟩, ?_⟩
                    rw [wpWays_one4]
                    try simp only [List.map_nil, opAt, List.getElem?_toArray, List.getElem?_cons_zero, List.getElem?_cons_succ, Option.getD_some]
                    refine wpQuiet_nil ?_
                    go_wp2_with (fail)
                    refine ⟨⟨⟨_, b7⟩, rfl⟩, ?_⟩
                    rw [wpWays_one4]
                    try simp only [List.map_cons, List.map_nil, opAt, List.getElem?_toArray, List.getElem?_cons_zero, List.getElem?_cons_succ, Option.getD_some]
                    repeat (first
                      | (go_big_quiet_want; refine quiet_load_row 25 (.tmp 5) rfl K5 rfl 25 CU1 (0, 0) _ H5.out Try.underlying25 rfl (infoMap.trans hSU.out) ?_; simp only [Act.put, List.setIfInBounds_toArray, List.set_cons_zero, List.set_cons_succ]; go_big_quiet_on)
                      | (go_big_quiet_want; refine quiet_load_row 27 (.tmp 6) rfl K6 rfl 27 CU1 (0, 0) _ H6.out Try.underlying27 rfl (infoMapR.trans hSU.out) ?_; simp only [Act.put, List.setIfInBounds_toArray, List.set_cons_zero, List.set_cons_succ]; go_big_quiet_on)
                      | (go_big_quiet_want; refine quiet_load_row 25 (.tmp 7) rfl K7 rfl 25 CV1 (0, 0) _ H7.out Try.underlying25 rfl (infoMap.trans hSV.out) ?_; simp only [Act.put, List.setIfInBounds_toArray, List.set_cons_zero, List.set_cons_succ]; go_big_quiet_on)
                      | (go_big_quiet_want; refine quiet_load_row 27 (.tmp 8) rfl K8 rfl 27 CV1 (0, 0) _ H8.out Try.underlying27 rfl (infoMapR.trans hSV.out) ?_; simp only [Act.put, List.setIfInBounds_toArray, List.set_cons_zero, List.set_cons_succ]; go_big_quiet_on)
                      | (go_big_quiet_want; refine quiet_load_row 25 (.tmp 23) rfl g23 rfl 25 CU1 (0, 0) _ H23.out Try.underlying25 rfl (infoMap.trans hSU.out) ?_; simp only [Act.put, List.setIfInBounds_toArray, List.set_cons_zero, List.set_cons_succ]; go_big_quiet_on)
                      | (go_big_quiet_want; refine quiet_binOp .neq 27 (.tmp 173) (.tmp 174) 27 rfl _ _ (.bool false) rfl rfl (fun W => guard_mapR .neq _ _ _ _ W) (fun W => HNE.out W) ?_; simp only [Act.put, List.setIfInBounds_toArray, List.set_cons_zero, List.set_cons_succ]; go_big_quiet_on)
                      | (go_big_quiet_step (fail)))
                    refine wpQuiet_nil ?_
                    go_wp2_with (go_at_call 11; (refine (HFC.out _).mono ?_); rintro e v13 ⟨rfl, hv13⟩)
                    have b13 := b7.trans (hv13.mono b7.size)
                    refine ⟨⟨⟨_, b13⟩, rfl⟩, ?_⟩
                    rw [wpWays_one4]
                    try simp only [List.map_cons, List.map_nil, opAt, List.getElem?_toArray, List.getElem?_cons_zero, List.getElem?_cons_succ, Option.getD_some]
                    repeat (first
                      | (go_big_quiet_want; refine quiet_load_row 25 (.tmp 5) rfl K5 rfl 25 CU1 (0, 0) _ H5.out Try.underlying25 rfl (infoMap.trans hSU.out) ?_; simp only [Act.put, List.setIfInBounds_toArray, List.set_cons_zero, List.set_cons_succ]; go_big_quiet_on)
                      | (go_big_quiet_want; refine quiet_load_row 27 (.tmp 6) rfl K6 rfl 27 CU1 (0, 0) _ H6.out Try.underlying27 rfl (infoMapR.trans hSU.out) ?_; simp only [Act.put, List.setIfInBounds_toArray, List.set_cons_zero, List.set_cons_succ]; go_big_quiet_on)
                      | (go_big_quiet_want; refine quiet_load_row 25 (.tmp 7) rfl K7 rfl 25 CV1 (0, 0) _ H7.out Try.underlying25 rfl (infoMap.trans hSV.out) ?_; simp only [Act.put, List.setIfInBounds_toArray, List.set_cons_zero, List.set_cons_succ]; go_big_quiet_on)
                      | (go_big_quiet_want; refine quiet_load_row 27 (.tmp 8) rfl K8 rfl 27 CV1 (0, 0) _ H8.out Try.underlying27 rfl (infoMapR.trans hSV.out) ?_; simp only [Act.put, List.setIfInBounds_toArray, List.set_cons_zero, List.set_cons_succ]; go_big_quiet_on)
                      | (go_big_quiet_want; refine quiet_load_row 25 (.tmp 23) rfl g23 rfl 25 CU1 (0, 0) _ H23.out Try.underlying25 rfl (infoMap.trans hSU.out) ?_; simp only [Act.put, List.setIfInBounds_toArray, List.set_cons_zero, List.set_cons_succ]; go_big_quiet_on)
                      | (go_big_quiet_want; refine quiet_binOp .neq 27 (.tmp 173) (.tmp 174) 27 rfl _ _ (.bool false) rfl rfl (fun W => guard_mapR .neq _ _ _ _ W) (fun W => HNE.out W) ?_; simp only [Act.put, List.setIfInBounds_toArray, List.set_cons_zero, List.set_cons_succ]; go_big_quiet_on)
                      | (go_big_quiet_step (fail)))
                    refine wpQuiet_nil ?_
                    go_wp2_with (go_at_call 19; (refine (HRN.out _).mono ?_); rintro e v14 ⟨rfl, hv14⟩)
                    have b14 := b13.trans (hv14.mono b13.size)
                    refine ⟨⟨⟨_, b14⟩, rfl⟩, ?_⟩
                    rw [wpWays_one4]
                    try simp only [List.map_nil, opAt, List.getElem?_toArray, List.getElem?_cons_zero, List.getElem?_cons_succ, Option.getD_some]
                    repeat (first
                      | (go_big_quiet_want; refine quiet_load_row 25 (.tmp 5) rfl K5 rfl 25 CU1 (0, 0) _ H5.out Try.underlying25 rfl (infoMap.trans hSU.out) ?_; simp only [Act.put, List.setIfInBounds_toArray, List.set_cons_zero, List.set_cons_succ]; go_big_quiet_on)
                      | (go_big_quiet_want; refine quiet_load_row 27 (.tmp 6) rfl K6 rfl 27 CU1 (0, 0) _ H6.out Try.underlying27 rfl (infoMapR.trans hSU.out) ?_; simp only [Act.put, List.setIfInBounds_toArray, List.set_cons_zero, List.set_cons_succ]; go_big_quiet_on)
                      | (go_big_quiet_want; refine quiet_load_row 25 (.tmp 7) rfl K7 rfl 25 CV1 (0, 0) _ H7.out Try.underlying25 rfl (infoMap.trans hSV.out) ?_; simp only [Act.put, List.setIfInBounds_toArray, List.set_cons_zero, List.set_cons_succ]; go_big_quiet_on)
                      | (go_big_quiet_want; refine quiet_load_row 27 (.tmp 8) rfl K8 rfl 27 CV1 (0, 0) _ H8.out Try.underlying27 rfl (infoMapR.trans hSV.out) ?_; simp only [Act.put, List.setIfInBounds_toArray, List.set_cons_zero, List.set_cons_succ]; go_big_quiet_on)
                      | (go_big_quiet_want; refine quiet_load_row 25 (.tmp 23) rfl g23 rfl 25 CU1 (0, 0) _ H23.out Try.underlying25 rfl (infoMap.trans hSU.out) ?_; simp only [Act.put, List.setIfInBounds_toArray, List.set_cons_zero, List.set_cons_succ]; go_big_quiet_on)
                      | (go_big_quiet_want; refine quiet_binOp .neq 27 (.tmp 173) (.tmp 174) 27 rfl _ _ (.bool false) rfl rfl (fun W => guard_mapR .neq _ _ _ _ W) (fun W => HNE.out W) ?_; simp only [Act.put, List.setIfInBounds_toArray, List.set_cons_zero, List.set_cons_succ]; go_big_quiet_on)
                      | (go_big_quiet_step (fail)))
                    refine wpQuiet_nil ?_
                    go_wp2_with (go_at_call 20; (refine (HRR.out _).mono ?_); rintro e v15 ⟨rfl, hv15⟩)
                    have b15 := b14.trans (hv15.mono b14.size)
                    refine ⟨⟨⟨_, b15⟩, rfl⟩, ?_⟩
                    rw [wpWays_one4]
                    try simp only [List.map_cons, List.map_nil, opAt, List.getElem?_toArray, List.getElem?_cons_zero, List.getElem?_cons_succ, Option.getD_some]
                    repeat (first
                      | (go_big_quiet_want; refine quiet_load_row 25 (.tmp 5) rfl K5 rfl 25 CU1 (0, 0) _ H5.out Try.underlying25 rfl (infoMap.trans hSU.out) ?_; simp only [Act.put, List.setIfInBounds_toArray, List.set_cons_zero, List.set_cons_succ]; go_big_quiet_on)
                      | (go_big_quiet_want; refine quiet_load_row 27 (.tmp 6) rfl K6 rfl 27 CU1 (0, 0) _ H6.out Try.underlying27 rfl (infoMapR.trans hSU.out) ?_; simp only [Act.put, List.setIfInBounds_toArray, List.set_cons_zero, List.set_cons_succ]; go_big_quiet_on)
                      | (go_big_quiet_want; refine quiet_load_row 25 (.tmp 7) rfl K7 rfl 25 CV1 (0, 0) _ H7.out Try.underlying25 rfl (infoMap.trans hSV.out) ?_; simp only [Act.put, List.setIfInBounds_toArray, List.set_cons_zero, List.set_cons_succ]; go_big_quiet_on)
                      | (go_big_quiet_want; refine quiet_load_row 27 (.tmp 8) rfl K8 rfl 27 CV1 (0, 0) _ H8.out Try.underlying27 rfl (infoMapR.trans hSV.out) ?_; simp only [Act.put, List.setIfInBounds_toArray, List.set_cons_zero, List.set_cons_succ]; go_big_quiet_on)
                      | (go_big_quiet_want; refine quiet_load_row 25 (.tmp 23) rfl g23 rfl 25 CU1 (0, 0) _ H23.out Try.underlying25 rfl (infoMap.trans hSU.out) ?_; simp only [Act.put, List.setIfInBounds_toArray, List.set_cons_zero, List.set_cons_succ]; go_big_quiet_on)
                      | (go_big_quiet_want; refine quiet_binOp .neq 27 (.tmp 173) (.tmp 174) 27 rfl _ _ (.bool false) rfl rfl (fun W => guard_mapR .neq _ _ _ _ W) (fun W => HNE.out W) ?_; simp only [Act.put, List.setIfInBounds_toArray, List.set_cons_zero, List.set_cons_succ]; go_big_quiet_on)
                      | (go_big_quiet_step (fail)))
                    refine wpQuiet_nil ?_
                    go_wp2_with (go_at_call 21; (refine (HRT.out _).mono ?_); rintro e v16 ⟨rfl, hv16⟩)
                    have b16 := b15.trans (hv16.mono b15.size)
                    refine ⟨⟨⟨_, b16⟩, rfl⟩, ?_⟩
                    rw [wpWays_one4]
                    try simp only [List.map_cons, List.map_nil, opAt, List.getElem?_toArray, List.getElem?_cons_zero, List.getElem?_cons_succ, Option.getD_some]
                    repeat (first
                      | (go_big_quiet_want; refine quiet_load_row 25 (.tmp 5) rfl K5 rfl 25 CU1 (0, 0) _ H5.out Try.underlying25 rfl (infoMap.trans hSU.out) ?_; simp only [Act.put, List.setIfInBounds_toArray, List.set_cons_zero, List.set_cons_succ]; go_big_quiet_on)
                      | (go_big_quiet_want; refine quiet_load_row 27 (.tmp 6) rfl K6 rfl 27 CU1 (0, 0) _ H6.out Try.underlying27 rfl (infoMapR.trans hSU.out) ?_; simp only [Act.put, List.setIfInBounds_toArray, List.set_cons_zero, List.set_cons_succ]; go_big_quiet_on)
                      | (go_big_quiet_want; refine quiet_load_row 25 (.tmp 7) rfl K7 rfl 25 CV1 (0, 0) _ H7.out Try.underlying25 rfl (infoMap.trans hSV.out) ?_; simp only [Act.put, List.setIfInBounds_toArray, List.set_cons_zero, List.set_cons_succ]; go_big_quiet_on)
                      | (go_big_quiet_want; refine quiet_load_row 27 (.tmp 8) rfl K8 rfl 27 CV1 (0, 0) _ H8.out Try.underlying27 rfl (infoMapR.trans hSV.out) ?_; simp only [Act.put, List.setIfInBounds_toArray, List.set_cons_zero, List.set_cons_succ]; go_big_quiet_on)
                      | (go_big_quiet_want; refine quiet_load_row 25 (.tmp 23) rfl g23 rfl 25 CU1 (0, 0) _ H23.out Try.underlying25 rfl (infoMap.trans hSU.out) ?_; simp only [Act.put, List.setIfInBounds_toArray, List.set_cons_zero, List.set_cons_succ]; go_big_quiet_on)
                      | (go_big_quiet_want; refine quiet_binOp .neq 27 (.tmp 173) (.tmp 174) 27 rfl _ _ (.bool false) rfl rfl (fun W => guard_mapR .neq _ _ _ _ W) (fun W => HNE.out W) ?_; simp only [Act.put, List.setIfInBounds_toArray, List.set_cons_zero, List.set_cons_succ]; go_big_quiet_on)
                      | (go_big_quiet_step (fail)))
                    refine wpQuiet_nil ?_
                    go_wp2_with (go_at_call 22; (refine (HFR.out _).mono ?_); rintro e v17 ⟨rfl, hv17⟩)
                    have b17 := b16.trans (hv17.mono b16.size)
                    refine ⟨⟨⟨_, b17⟩, rfl⟩, ?_⟩
                    rw [wpWays_done4]
                    try simp only [List.map_cons, List.map_nil, opAt, List.getElem?_toArray, List.getElem?_cons_zero, List.getElem?_cons_succ, Option.getD_some]
                    repeat (first
                      | (go_big_quiet_want; refine quiet_load_row 25 (.tmp 5) rfl K5 rfl 25 CU1 (0, 0) _ H5.out Try.underlying25 rfl (infoMap.trans hSU.out) ?_; simp only [Act.put, List.setIfInBounds_toArray, List.set_cons_zero, List.set_cons_succ]; go_big_quiet_on)
                      | (go_big_quiet_want; refine quiet_load_row 27 (.tmp 6) rfl K6 rfl 27 CU1 (0, 0) _ H6.out Try.underlying27 rfl (infoMapR.trans hSU.out) ?_; simp only [Act.put, List.setIfInBounds_toArray, List.set_cons_zero, List.set_cons_succ]; go_big_quiet_on)
                      | (go_big_quiet_want; refine quiet_load_row 25 (.tmp 7) rfl K7 rfl 25 CV1 (0, 0) _ H7.out Try.underlying25 rfl (infoMap.trans hSV.out) ?_; simp only [Act.put, List.setIfInBounds_toArray, List.set_cons_zero, List.set_cons_succ]; go_big_quiet_on)
                      | (go_big_quiet_want; refine quiet_load_row 27 (.tmp 8) rfl K8 rfl 27 CV1 (0, 0) _ H8.out Try.underlying27 rfl (infoMapR.trans hSV.out) ?_; simp only [Act.put, List.setIfInBounds_toArray, List.set_cons_zero, List.set_cons_succ]; go_big_quiet_on)
                      | (go_big_quiet_want; refine quiet_load_row 25 (.tmp 23) rfl g23 rfl 25 CU1 (0, 0) _ H23.out Try.underlying25 rfl (infoMap.trans hSU.out) ?_; simp only [Act.put, List.setIfInBounds_toArray, List.set_cons_zero, List.set_cons_succ]; go_big_quiet_on)
                      | (go_big_quiet_want; refine quiet_binOp .neq 27 (.tmp 173) (.tmp 174) 27 rfl _ _ (.bool false) rfl rfl (fun W => guard_mapR .neq _ _ _ _ W) (fun W => HNE.out W) ?_; simp only [Act.put, List.setIfInBounds_toArray, List.set_cons_zero, List.set_cons_succ]; go_big_quiet_on)
                      | (go_big_quiet_step (fail)))
                    refine wpQuiet_nil ?_
                    go_wp2_with fail
                    go_meet
                    exact ⟨rfl, Lib.hid b17⟩
              case rest =>
                obtain ⟨rfl, HBX⟩ := hcut
                have HA5 := Lib.hid (HA3.out.below HBX.out)
                clear H5 H6 H7 H8 H23 HA3 HBX
                go_wp2_with fail
                go_roundw
                case rel => exact ⟨j + 1, U1, V1, by omega, by omega, by go_num, HUV1, HA5⟩
                case measure => simp [intOf]; omega
      · by_cases hl2 : j < rs.length
        · have d1 : decide ((j : Int) < (rs.length : Int)) = true := by simp; omega
          have d2 : decide ((j : Int) < 40) = false := by simp; omega
          have d2' : decide (j < 40) = false := by simp; omega
          go_wp2_with fail
          go_ret
          exact ⟨rfl, HA.out.bel⟩
        · have d1 : decide ((j : Int) < (rs.length : Int)) = false := by simp; omega
          go_wp2_with fail
          go_ret
          exact ⟨rfl, HA.out.bel⟩
end Go.Proofs.Ytobfepkeikecoaa
