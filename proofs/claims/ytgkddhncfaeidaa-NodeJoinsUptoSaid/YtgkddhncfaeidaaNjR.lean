/- How a node of a bound bulk that came in is told to a walk. -/
import Derived.Test.YtgkddhncfaeidaaNpR
namespace Go.Proofs.Ytgkddhncfaeidaa
open Go.ChangeShapes Go.WideShapes Go.ChangeAt Go.RowKit Go.Deep Go.Joins CrcM PageM
set_option linter.unusedVariables false

theorem bulk_pos {H : Type} : ∀ d : DataW H, 1 ≤ Rows.uptoBulk d
  | .lit (.string b) => by simp [Rows.uptoBulk]
  | .lit (.bool b) => by simp [Rows.uptoBulk]
  | .lit (.int k n) => by simp [Rows.uptoBulk]
  | .lit _ => by rename_i l; cases l <;> simp [Rows.uptoBulk]
  | .nil => by simp [Rows.uptoBulk]
  | .ptr d => by simp [Rows.uptoBulk]
  | .slice a b => by simp [Rows.uptoBulk]
  | .agg a => by simp [Rows.uptoBulk]
  | .iface _ d => by simp [Rows.uptoBulk]
  | .map e => by simp [Rows.uptoBulk]
  | .held _ => by simp [Rows.uptoBulk]
theorem bulk_len {H : Type} : ∀ l : List (DataW H), l.length ≤ Rows.uptoBulkAll l
  | [] => by simp
  | d :: r => by
    have h1 := bulk_pos d
    have h2 := bulk_len r
    simp only [Rows.uptoBulkAll, List.length_cons]
    omega
theorem bulk_row {H : Type} {x : DataW H} {len : Nat} (hx : 0 < len → ∃ el sp, x = .slice el sp ∧ el.length = len) : len ≤ Rows.uptoBulk x := by
  rcases Nat.eq_zero_or_pos len with h | h
  · omega
  · obtain ⟨el, sp, rfl, rfl⟩ := hx h
    have := bulk_len el
    simp only [Rows.uptoBulk]
    omega
set_option maxRecDepth 100000 in
theorem open_node_small {H : Type} {enc : TypeId × Value → H} {W : World} {base b0 : Nat} {held : Bool} {r : Reach} {v : Value} {d : DataW H} {p : List MemPlace}
    (hv : Value.okWide Try.prog W r b0 26 v) (h : DataW.Trod enc Try.prog W base (fun _ => true) held 26 v d p) :
    ∃ (n : NodeD) (l : NdL), v = .agg #[.bool n.leaf, .slice l.EA n.es.length l.ec, .slice l.KA n.ks.length l.kc, .slice l.DA n.ds.length l.dc] ∧ (Rows.uptoBulk d ≤ 1048576 → n.es.length ≤ 2000000 ∧ n.ks.length ≤ 2000000 ∧ n.ds.length ≤ 2000000) ∧ NodeAt W n l := by
  obtain ⟨v0, v1, v2, v3, y0, y1, y2, y3, n, rfl, rfl, _, h0, h1, h2, h3⟩ := open_agg4 Try.underlying26 (by kernel_rfl) (by kernel_rfl) hv h
  obtain ⟨lf, e0, _⟩ := DataW.trod_bool Try.underlying4 h0
  obtain ⟨EA, el, ec, rfl, _⟩ := sliceShapeN Try.underlying22 h1
  obtain ⟨KA, kl, kc, rfl, _⟩ := sliceShapeN Try.underlying23 h2
  obtain ⟨DA, dl, dc, rfl, _⟩ := sliceShapeN Try.underlying24 h3
  obtain ⟨es, rfl, e2, e3, e4, e5, e6⟩ := row_any entAt inEnt Try.underlying22 (sz := 8) (by kernel_rfl) (by decide) (fun k cs y hl hy => by
    obtain ⟨q, hq, rfl⟩ := ent_trod hl hy
    exact ⟨q, hq, fun b o hc => ⟨hc 0 (by omega), hc 1 (by omega), hc 2 (by omega), hc 3 (by omega), hc 4 (by omega), hc 5 (by omega), hc 6 (by omega), hc 7 (by omega)⟩⟩) h1
  obtain ⟨ks, rfl, k2, k3, k4, k5, k6⟩ := row_any keyAt inKey Try.underlying23 (sz := 2) (by kernel_rfl) (by decide) (fun k cs y hl hy => by
    obtain ⟨q, hq, rfl⟩ := key_trod hl hy
    exact ⟨q, hq, fun b o hc => ⟨hc 0 (by omega), hc 1 (by omega)⟩⟩) h2
  obtain ⟨ds, rfl, d2, d3, d4, d5, d6⟩ := row_any (fun w b o z => w.cell? ⟨b, o, none⟩ = some (.int .i64 z)) inJ Try.underlying24 (sz := 1) (by kernel_rfl) (by decide) (fun k cs y hl hy => by
    obtain ⟨z, rfl, _, hw⟩ := DataW.trod_int Try.underlying3 hy
    exact ⟨z, bounds_i64 hw, fun b o hc => hc 0 (by omega)⟩) h3
  simp at e0
  subst e0
  refine ⟨⟨lf, es, ks, ds⟩, ⟨EA, ec, KA, kc, DA, dc⟩, rfl, fun hk => ?_, ⟨e5, k5, fun hne => ?_, e2, k2, d2, e3, k3, d3⟩⟩
  · have b1 := bulk_row e6
    have b2 := bulk_row k6
    have b3 := bulk_row d6
    simp only [Rows.uptoBulk, Rows.uptoBulkAll] at hk
    exact ⟨by dsimp only; omega, by dsimp only; omega, by dsimp only; omega⟩
  · obtain ⟨b, off, h1, h2⟩ := d5 hne
    exact ⟨b, off, h1, fun i z hi => by have := h2 i z hi; rwa [Nat.mul_one] at this⟩
end Go.Proofs.Ytgkddhncfaeidaa
