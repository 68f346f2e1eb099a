/- How a node that came in is told to a walk. -/
import Derived.Test.YtgkddhncfaeidaaNpY
import Derived.Test.YtgkddhncfaeidaaRowKit
import Derived.Deep.SlicePairs
import Derived.Lib.SmallJoins
import Derived.SizedLaws
namespace Go.Proofs.Ytgkddhncfaeidaa
open Go.ChangeShapes Go.WideShapes Go.ChangeAt Go.RowKit Go.Deep Go.Joins CrcM PageM
set_option linter.unusedVariables false

/-- A row of whatever elements that came in. -/
theorem row_any {α : Type} [Inhabited α] (at_ : World → Nat → Nat → α → Prop) (okv : α → Prop) {H : Type} {enc : TypeId × Value → H} {W : World} {base : Nat} {held : Bool} {t e : TypeId} {a : Option Addr} {len cap fuel sz : Nat} {x : DataW H × List MemPlace}
    (ht : Try.prog.underlying t = some (.slice e)) (ce : Try.prog.cellsOf e = sz) (hsz : 0 < sz)
    (hone : ∀ (k : Nat) (cs : List Value) (y : DataW H × List MemPlace), cs.length = sz → DataW.trod enc Try.prog W base (fun _ => true) held k e cs = some y → ∃ q, okv q ∧ ∀ b o, (∀ i, i < sz → W.cell? ⟨b, o + i, none⟩ = cs[i]?) → at_ W b o q)
    (h : DataW.trod enc Try.prog W base (fun _ => true) held fuel t [.slice a len cap] = some x) :
    ∃ rs : List α, rs.length = len ∧ len ≤ cap ∧ cap ≤ maxLen ∧ (∀ q ∈ rs, okv q) ∧ (rs ≠ [] → ∃ b off, a = some ⟨b, off, none⟩ ∧ ∀ i q, rs[i]? = some q → at_ W b (off + i * sz) q) ∧ (0 < len → ∃ el sp, x.1 = .slice el sp ∧ el.length = len) := by
  rcases open_slice ht h with ⟨hcs, _⟩ | ⟨ad, l, c, m, n, D, Pl, hcs, _, hl, hm, hmm, hxe, hx⟩
  · simp at hcs
    obtain ⟨rfl, rfl, rfl⟩ := hcs
    exact ⟨[], rfl, Nat.le_refl _, by unfold maxLen; omega, by simp, fun h => absurd rfl h, fun h => absurd h (by omega)⟩
  · simp at hcs
    obtain ⟨rfl, rfl, rfl⟩ := hcs
    have hlm : len ≤ m := by rw [hmm]; split <;> omega
    have hall : ∀ i, i < len → ∃ q : α, okv q ∧ ∀ b o, ad = ⟨b, o, none⟩ → at_ W b (o + i * sz) q := fun i hi => by
      obtain ⟨cs', h1, h2⟩ := hx i (by omega)
      rw [ce] at h1
      obtain ⟨_, hlen, hcell⟩ := World.cells?_some h1
      obtain ⟨q, hq, hat⟩ := hone n cs' _ hlen h2
      refine ⟨q, hq, fun b o hb => hat b (o + i * sz) fun j hj => ?_⟩
      subst hb
      have := hcell j hj
      rw [add_add, Addr.add_mid, ← Nat.add_assoc] at this
      exact this
    obtain ⟨q, hq⟩ := choose_lt hall
    refine ⟨(List.range len).map q, by simp, hl, hm, fun y hy => ?_, fun hne => ?_, fun _ => ⟨_, _, congrArg Prod.fst hxe, by simp⟩⟩
    · obtain ⟨i, hi, rfl⟩ := List.mem_map.1 hy
      exact (hq i (List.mem_range.1 hi)).1
    · have hpos : 0 < len := by
        rcases Nat.eq_zero_or_pos len with h0 | h0
        · subst h0; simp at hne
        · exact h0
      obtain ⟨cs', h1, h2⟩ := hx 0 (by omega)
      rw [ce] at h1
      obtain ⟨_, hlen, hcell⟩ := World.cells?_some h1
      have hc0 := hcell 0 hsz
      rw [List.getElem?_eq_getElem (by omega)] at hc0
      obtain ⟨b, off, spot⟩ := ad
      have hspot : spot = none := by simpa [Addr.add] using World.cell?_spot hc0
      subst hspot
      refine ⟨b, off, rfl, fun i y hy => ?_⟩
      have hi : i < len := by have := (List.getElem?_eq_some_iff.1 hy).1; simpa using this
      rw [List.getElem?_map, List.getElem?_range hi] at hy
      injection hy with hy
      subst hy
      exact (hq i hi).2 b off rfl
instance : Inhabited KeyD := ⟨⟨0, 0⟩⟩
instance : Inhabited EntD := ⟨⟨0, 0, 0, 0, 0, 0, 0, 0⟩⟩

def inKey (k : KeyD) : Prop := inJ k.se ∧ inJ k.st
theorem list2 {α : Type} {l : List α} (h : l.length = 2) : ∃ a b, l = [a, b] := by
  match l, h with
  | [a, b], _ => exact ⟨a, b, rfl⟩
theorem list8 {α : Type} {l : List α} (h : l.length = 8) : ∃ a b c d e f g i, l = [a, b, c, d, e, f, g, i] := by
  match l, h with
  | [a, b, c, d, e, f, g, i], _ => exact ⟨a, b, c, d, e, f, g, i, rfl⟩
set_option maxRecDepth 100000 in
theorem key_trod {H : Type} {enc : TypeId × Value → H} {W : World} {base : Nat} {held : Bool} {k : Nat} {cs : List Value} {y : DataW H × List MemPlace} (hl : cs.length = 2)
    (h : DataW.trod enc Try.prog W base (fun _ => true) held k 48 cs = some y) : ∃ q : KeyD, inKey q ∧ cs = [.int .i64 q.se, .int .i64 q.st] := by
  have hu : Try.prog.underlying 48 = some (.struct #[⟨"Series", 3, 0, false, "", "", 0⟩, ⟨"Start", 2, 1, false, "", "", 8⟩]) := by kernel_rfl
  obtain ⟨xs, n, _, _, _, hxl, hf⟩ := DataW.trod_struct hu h
  obtain ⟨v0, v1, rfl⟩ := list2 hl
  have hxl2 : xs.length = 2 := hxl
  have c1 : Try.prog.cellsOf 3 = 1 := by kernel_rfl
  have c2 : Try.prog.cellsOf 2 = 1 := by kernel_rfl
  have g0 : DataW.trod enc Try.prog W base (fun _ => true) held n 3 (([v0, v1].drop 0).take (Try.prog.cellsOf 3)) = some (xs[0]'(by omega)) := (hf 0 _ rfl).trans (List.getElem?_eq_getElem (by omega))
  have g1 : DataW.trod enc Try.prog W base (fun _ => true) held n 2 (([v0, v1].drop 1).take (Try.prog.cellsOf 2)) = some (xs[1]'(by omega)) := (hf 1 _ rfl).trans (List.getElem?_eq_getElem (by omega))
  rw [c1] at g0
  rw [c2] at g1
  obtain ⟨z0, k0, _, w0⟩ := DataW.trod_int Try.underlying3 g0
  obtain ⟨z1, k1, _, w1⟩ := DataW.trod_int Try.underlying2 g1
  simp at k0 k1
  subst k0 k1
  exact ⟨⟨z0, z1⟩, ⟨bounds_i64 w0, bounds_i64 w1⟩, rfl⟩
set_option maxRecDepth 100000 in
theorem ent_trod {H : Type} {enc : TypeId × Value → H} {W : World} {base : Nat} {held : Bool} {k : Nat} {cs : List Value} {y : DataW H × List MemPlace} (hl : cs.length = 8)
    (h : DataW.trod enc Try.prog W base (fun _ => true) held k 51 cs = some y) : ∃ q : EntD, inEnt q ∧ cs = enC q := by
  have hu : Try.prog.underlying 51 = some (.struct #[⟨"Key", 48, 0, false, "", "", 0⟩, ⟨"End", 2, 2, false, "", "", 16⟩, ⟨"Addr", 3, 3, false, "", "", 24⟩, ⟨"Len", 3, 4, false, "", "", 32⟩, ⟨"Count", 3, 5, false, "", "", 40⟩, ⟨"Codec", 3, 6, false, "", "", 48⟩, ⟨"Crc", 49, 7, false, "", "", 56⟩]) := by kernel_rfl
  obtain ⟨xs, n, _, _, _, hxl, hf⟩ := DataW.trod_struct hu h
  obtain ⟨v0, v1, v2, v3, v4, v5, v6, v7, rfl⟩ := list8 hl
  have hxl7 : xs.length = 7 := hxl
  have c1 : Try.prog.cellsOf 3 = 1 := by kernel_rfl
  have c2 : Try.prog.cellsOf 2 = 1 := by kernel_rfl
  have c3 : Try.prog.cellsOf 49 = 1 := by kernel_rfl
  have c4 : Try.prog.cellsOf 48 = 2 := by kernel_rfl
  have g0 : DataW.trod enc Try.prog W base (fun _ => true) held n 48 (([v0, v1, v2, v3, v4, v5, v6, v7].drop 0).take (Try.prog.cellsOf 48)) = some (xs[0]'(by omega)) := (hf 0 _ rfl).trans (List.getElem?_eq_getElem (by omega))
  have g1 : DataW.trod enc Try.prog W base (fun _ => true) held n 2 (([v0, v1, v2, v3, v4, v5, v6, v7].drop 2).take (Try.prog.cellsOf 2)) = some (xs[1]'(by omega)) := (hf 1 _ rfl).trans (List.getElem?_eq_getElem (by omega))
  have g2 : DataW.trod enc Try.prog W base (fun _ => true) held n 3 (([v0, v1, v2, v3, v4, v5, v6, v7].drop 3).take (Try.prog.cellsOf 3)) = some (xs[2]'(by omega)) := (hf 2 _ rfl).trans (List.getElem?_eq_getElem (by omega))
  have g3 : DataW.trod enc Try.prog W base (fun _ => true) held n 3 (([v0, v1, v2, v3, v4, v5, v6, v7].drop 4).take (Try.prog.cellsOf 3)) = some (xs[3]'(by omega)) := (hf 3 _ rfl).trans (List.getElem?_eq_getElem (by omega))
  have g4 : DataW.trod enc Try.prog W base (fun _ => true) held n 3 (([v0, v1, v2, v3, v4, v5, v6, v7].drop 5).take (Try.prog.cellsOf 3)) = some (xs[4]'(by omega)) := (hf 4 _ rfl).trans (List.getElem?_eq_getElem (by omega))
  have g5 : DataW.trod enc Try.prog W base (fun _ => true) held n 3 (([v0, v1, v2, v3, v4, v5, v6, v7].drop 6).take (Try.prog.cellsOf 3)) = some (xs[5]'(by omega)) := (hf 5 _ rfl).trans (List.getElem?_eq_getElem (by omega))
  have g6 : DataW.trod enc Try.prog W base (fun _ => true) held n 49 (([v0, v1, v2, v3, v4, v5, v6, v7].drop 7).take (Try.prog.cellsOf 49)) = some (xs[6]'(by omega)) := (hf 6 _ rfl).trans (List.getElem?_eq_getElem (by omega))
  rw [c4] at g0
  rw [c2] at g1
  rw [c1] at g2 g3 g4 g5
  rw [c3] at g6
  obtain ⟨⟨se, st⟩, ⟨_, i2⟩, k0⟩ := key_trod rfl g0
  obtain ⟨z1, k1, _, w1⟩ := DataW.trod_int Try.underlying2 g1
  obtain ⟨z2, k2, _, w2⟩ := DataW.trod_int Try.underlying3 g2
  obtain ⟨z3, k3, _, w3⟩ := DataW.trod_int Try.underlying3 g3
  obtain ⟨z4, k4, _, w4⟩ := DataW.trod_int Try.underlying3 g4
  obtain ⟨z5, k5, _, w5⟩ := DataW.trod_int Try.underlying3 g5
  obtain ⟨z6, k6, _, w6⟩ := DataW.trod_int Try.underlying49 g6
  simp at k0 k1 k2 k3 k4 k5 k6
  obtain ⟨k0, k0'⟩ := k0
  subst k0 k0' k1 k2 k3 k4 k5 k6
  have b6 := bounds_u32 w6
  exact ⟨⟨se, st, z1, z2, z3, z4, z5, z6⟩, ⟨i2, bounds_i64 w1, b6.1, by show z6 < 4294967296; omega⟩, rfl⟩
/-- A slice that reads, in its shape. -/
theorem sliceShapeN {H : Type} {enc : TypeId × Value → H} {P : Program} {W : World} {base : Nat} {spare : Nat → Bool} {held : Bool} {t e : TypeId} {fuel : Nat} {v : Value} {x : DataW H × List MemPlace} (ht : P.underlying t = some (.slice e))
    (h : DataW.trod enc P W base spare held fuel t [v] = some x) : ∃ A l c, v = .slice A l c ∧ (A = none → c = 0) := by
  rcases open_slice ht h with ⟨hcs, _⟩ | ⟨ad, l, c, m, n, D, Pl, hcs, _⟩
  · simp at hcs
    subst hcs
    exact ⟨none, 0, 0, rfl, fun _ => rfl⟩
  · simp at hcs
    subst hcs
    exact ⟨some ad, l, c, rfl, fun h => by cases h⟩
/-- The reach pays a part's length. -/
theorem sized_arg {H : Type} {P : Program} {ts : List TypeId} {ds : List (DataW H)} (h : (DataW.weightsEach P ts ds).all (· ≤ reachBytes) = true) {j : Nat} {t : TypeId} {d : DataW H} (ht : ts[j]? = some t) (hd : ds[j]? = some d) : (d.weights P t).all (· ≤ reachBytes) = true :=
  List.all_eq_true.2 fun n hn => List.all_eq_true.1 h n (DataW.weights_mem_each ht hd n hn)
theorem sized_part {H : Type} {P : Program} {t : TypeId} {fs : Array Field} {parts : List (DataW H)} (hu : P.underlying t = some (.struct fs)) (h : ((DataW.agg parts).weights P t).all (· ≤ reachBytes) = true) : (DataW.weightsEach P (fs.toList.map (·.type)) parts).all (· ≤ reachBytes) = true := by
  simpa only [DataW.weights, hu] using h
theorem sized_len {H : Type} {P : Program} {ts : List TypeId} {ds : List (DataW H)} (h : (DataW.weightsEach P ts ds).all (· ≤ reachBytes) = true) {j : Nat} {t e : TypeId} {x : DataW H × List MemPlace} {len m : Nat} (ht : ts[j]? = some t) (hd : ds[j]? = some x.1) (hu : P.underlying t = some (.slice e)) (hm : P.bytesOf e = m)
    (hx : 0 < len → ∃ el sp, x.1 = .slice el sp ∧ el.length = len) : len * m ≤ 140737488355328 := by
  rcases Nat.eq_zero_or_pos len with h0 | h0
  · subst h0; omega
  · obtain ⟨el, sp, he, hl⟩ := hx h0
    rw [he] at hd
    have := sized_slice h ht hd hu
    rw [hm, hl, Nat.add_mul] at this
    unfold reachBytes at this
    omega
set_option maxRecDepth 100000 in
/-- A node that came in. -/
theorem open_node {H : Type} {enc : TypeId × Value → H} {W : World} {base b0 : Nat} {held : Bool} {r : Reach} {v : Value} {d : DataW H} {p : List MemPlace}
    (hv : Value.okWide Try.prog W r b0 26 v) (h : DataW.Trod enc Try.prog W base (fun _ => true) held 26 v d p) (hs : (d.weights Try.prog 26).all (· ≤ reachBytes) = true) :
    ∃ (n : NodeD) (l : NdL), v = .agg #[.bool n.leaf, .slice l.EA n.es.length l.ec, .slice l.KA n.ks.length l.kc, .slice l.DA n.ds.length l.dc] ∧ inNode n ∧ FitsN n ∧ NodeAt W n l := by
  obtain ⟨v0, v1, v2, v3, y0, y1, y2, y3, n, rfl, rfl, _, h0, h1, h2, h3⟩ := open_agg4 Try.underlying26 (by kernel_rfl) (by kernel_rfl) hv h
  have hz := sized_part Try.underlying26 hs
  obtain ⟨lf, e0, _⟩ := DataW.trod_bool Try.underlying4 h0
  obtain ⟨EA, el, ec, rfl, _⟩ := sliceShapeN Try.underlying22 h1
  obtain ⟨KA, kl, kc, rfl, _⟩ := sliceShapeN Try.underlying23 h2
  obtain ⟨DA, dl, dc, rfl, _⟩ := sliceShapeN Try.underlying24 h3
  obtain ⟨es, rfl, e2, e3, e4, e5, e6⟩ := row_any entAt inEnt Try.underlying22 (sz := 8) (by kernel_rfl) (by decide) (fun k cs y hl hy => by
    obtain ⟨q, hq, rfl⟩ := ent_trod hl hy
    exact ⟨q, hq, fun b o hc => ⟨hc 0 (by omega), hc 1 (by omega), hc 2 (by omega), hc 3 (by omega), hc 4 (by omega), hc 5 (by omega), hc 6 (by omega), hc 7 (by omega)⟩⟩) h1
  obtain ⟨ks, rfl, k2, k3, k4, k5, k6⟩ := row_any keyAt inKey Try.underlying23 (sz := 2) (by kernel_rfl) (by decide) (fun k cs y hl hy => by
    obtain ⟨q, hq, rfl⟩ := key_trod hl hy
    exact ⟨q, hq, fun b o hc => ⟨hc 0 (by omega), hc 1 (by omega)⟩⟩) h2
  obtain ⟨ds, rfl, d2, d3, d4, d5, d6⟩ := row_any (fun w b o z => w.cell? ⟨b, o, none⟩ = some (.int .i64 z)) inJ Try.underlying24 (sz := 1) (by kernel_rfl) (by decide) (fun k cs y hl hy => by
    obtain ⟨z, rfl, _, hw⟩ := DataW.trod_int Try.underlying3 hy
    exact ⟨z, bounds_i64 hw, fun b o hc => hc 0 (by omega)⟩) h3
  simp at e0
  subst e0
  refine ⟨⟨lf, es, ks, ds⟩, ⟨EA, ec, KA, kc, DA, dc⟩, rfl, ⟨e4, fun k hk => (k4 k hk).2⟩, ⟨?_, ?_, ?_⟩, ⟨e5, k5, fun hne => ?_, e2, k2, d2, e3, k3, d3⟩⟩
  · exact sized_len hz (j := 1) rfl rfl Try.underlying22 (by kernel_rfl) e6
  · exact sized_len hz (j := 2) rfl rfl Try.underlying23 (by kernel_rfl) k6
  · exact sized_len hz (j := 3) rfl rfl Try.underlying24 (by kernel_rfl) d6
  · obtain ⟨b, off, h1, h2⟩ := d5 hne
    exact ⟨b, off, h1, fun i z hi => by have := h2 i z hi; rwa [Nat.mul_one] at this⟩
theorem nodePuts_walk (n : NodeD) (l : NdL) (hi : inNode n) (hf : FitsN n) {w : World} (h : NodeAt w n l) :
    Calls Try.prog 3 #[.agg #[.bool n.leaf, .slice l.EA n.es.length l.ec, .slice l.KA n.ks.length l.kc, .slice l.DA n.ds.length l.dc]] w fun e w' => e = .returned (.bool true) ∧ Below w.heap.size w w' := by
  by_cases hn : okNode n
  · exact nodePuts_yes n l hn hi hf w h
  · exact nodePuts_no n l hn hf w h
end Go.Proofs.Ytgkddhncfaeidaa
