/- Least of a node that may be. -/
import Derived.Test.YtgkddhncfaeidaaNdT
namespace Go.Proofs.Ytgkddhncfaeidaa
open Go.ChangeShapes Go.WideShapes Go.ChangeAt Go.RowKit CrcM PageM
set_option linter.unusedVariables false

set_option maxRecDepth 100000 in
set_option maxHeartbeats 4000000 in
theorem least_any (n : NodeD) (l : NdL) (k : KeyD) (hk : if n.leaf = true then ∃ e, n.es[0]? = some e ∧ k = e.key else n.ks[0]? = some k) (w : World) (h : NodeAt w n l) :
    Calls Try.prog 18 #[.agg #[.bool n.leaf, .slice l.EA n.es.length l.ec, .slice l.KA n.ks.length l.kc, .slice l.DA n.ds.length l.dc]] w fun e w' => e = .returned (.agg #[.int .i64 k.se, .int .i64 k.st]) ∧ Below w.heap.size w w' := by
  obtain ⟨lf, es, ks, ds⟩ := n
  obtain ⟨EA, ec, KA, kc, DA, dc⟩ := l
  dsimp only at *
  obtain ⟨ne, hne⟩ : ∃ x, es.length = x := ⟨_, rfl⟩
  obtain ⟨nk, hnk⟩ : ∃ x, ks.length = x := ⟨_, rfl⟩
  obtain ⟨nd, hnd⟩ : ∃ x, ds.length = x := ⟨_, rfl⟩
  rw [hne, hnk, hnd]
  cases lf with
  | true =>
    simp only [if_true] at hk
    obtain ⟨e, he, rfl⟩ := hk
    have hpos : 0 < ne := by rw [← hne]; exact (List.getElem?_eq_some_iff.1 he).1
    have d1 : decide ((0 : Int) < (ne : Int)) = true := by simp; omega
    obtain ⟨b, off, rfl, hc⟩ := h.e (by intro e'; dsimp only at e'; rw [e'] at he; simp at he)
    obtain ⟨c0, c1, -⟩ := hc 0 e he
    simp only [Nat.zero_mul, Nat.add_zero] at c0 c1
    have b0 := World.block_lt_of_cell? _ _ c0
    clear hc h hne hnk hnd he
    go_enter Try.func18, Try.ntmps18
    go_wp2_with fail
    exact bodyPost_ret (v := .agg #[.int .i64 e.se, .int .i64 e.st]) (results_cell_row (p := 2) (ty := 46) rfl _ _ (w.heap.size + 1) 46 #[.int .i64 e.se, .int .i64 e.st] (0, 0) _ rfl (heap_alloc2_new _ _ _) Try.underlying46 rfl (by kernel_rfl)) rfl ⟨rfl, below_two (Below.refl _ _)⟩
  | false =>
    simp only [Bool.false_eq_true, if_false] at hk
    have hpos : 0 < nk := by rw [← hnk]; exact (List.getElem?_eq_some_iff.1 hk).1
    have d1 : decide ((0 : Int) < (nk : Int)) = true := by simp; omega
    obtain ⟨b, off, rfl, hc⟩ := h.k (by intro e'; dsimp only at e'; rw [e'] at hk; simp at hk)
    obtain ⟨c0, c1⟩ := hc 0 k hk
    simp only [Nat.zero_mul, Nat.add_zero] at c0 c1
    have b0 := World.block_lt_of_cell? _ _ c0
    clear hc h hne hnk hnd hk
    go_enter Try.func18, Try.ntmps18
    go_wp2_with fail
    exact bodyPost_ret (v := .agg #[.int .i64 k.se, .int .i64 k.st]) (results_cell_row (p := 2) (ty := 46) rfl _ _ (w.heap.size + 1) 46 #[.int .i64 k.se, .int .i64 k.st] (0, 0) _ rfl (heap_alloc2_new _ _ _) Try.underlying46 rfl (by kernel_rfl)) rfl ⟨rfl, below_two (Below.refl _ _)⟩
end Go.Proofs.Ytgkddhncfaeidaa
