/- How an array of two numbers that came in is told to a walk; the walk of PageGets for all pages. -/
import Derived.Test.YtnfbebfgllldgaaPageRow
import Derived.Test.YtnfbebfgllldgaaPageGets
namespace Go.Proofs.Ytnfbebfgllldgaa
open Go.ChangeShapes Go.WideShapes Go.ChangeAt Go.RowKit Go.Joins CrcM PageM

set_option linter.unusedVariables false
set_option maxRecDepth 100000 in
theorem open_pair {H : Type} {enc : TypeId × Value → H} {W : World} {base b0 : Nat} {spare : Nat → Bool} {held : Bool} {r : Reach} {v : Value} {d : DataW H} {p : List MemPlace}
    (hv : Value.okWide Try.prog W r b0 86 v) (h : DataW.Trod enc Try.prog W base spare held 86 v d p) :
    ∃ a b : Int, v = .agg #[.int .i64 a, .int .i64 b] := by
  have hC : Try.prog.cellsOf 86 = 2 := by kernel_rfl
  have hc1 : Try.prog.cellsOf 3 = 1 := by kernel_rfl
  obtain ⟨cs, rfl, hsz⟩ : ∃ cs, v = .agg cs ∧ cs.size = 2 := by
    simp only [Value.okWide, Try.underlying86] at hv
    obtain ⟨cs, h1, h2, _⟩ := hv
    exact ⟨cs, h1, h2.trans hC⟩
  obtain ⟨fuel, hf⟩ := h
  obtain ⟨xs, m, _, _, _, hlx, hx⟩ := DataW.trod_array Try.underlying86 hf
  obtain ⟨l⟩ := cs
  match l, hsz with
  | [c0, c1], _ =>
    have h0 := hx 0 (by omega)
    have h1 := hx 1 (by omega)
    rw [hc1] at h0 h1
    obtain ⟨z0, e0, _⟩ := DataW.trod_int Try.underlying3 (h0.trans (List.getElem?_eq_getElem (by omega)))
    obtain ⟨z1, e1, _⟩ := DataW.trod_int Try.underlying3 (h1.trans (List.getElem?_eq_getElem (by omega)))
    simp [Value.cells] at e0 e1
    subst e0 e1
    exact ⟨z0, z1, rfl⟩

theorem pageGets_walk (p : Pg) (hc : bodyC p) (A : Option Addr) (c : Nat) {w : World} (hx : BytesAt w A p.body) (hl : p.body.length ≤ c) (a b : Int) (B : Option Addr) (cap : Nat) (xs : List UInt8) (hy : BytesAt w B xs) (hlc : xs.length ≤ cap) (hcm : cap ≤ maxLen) :
    Calls Try.prog 12 #[.agg (cellsC p A c), .agg #[.int .i64 a, .int .i64 b], .slice B xs.length cap] w fun e w' => e = .returned (.bool true) ∧ Below w.heap.size w w' := by
  by_cases hp : okP p
  · obtain ⟨k, ad, g, bs⟩ := p
    obtain ⟨h1, h2, h3, h4⟩ := hp
    obtain ⟨m, rfl⟩ := Int.eq_ofNat_of_zero_le h2
    exact pageGets_ok w k m g bs h1 (by have : ((m : Int)) ≤ 511 := h3; omega) hc.1 h4 A c hx hl a b B cap xs hy hlc
  · exact pageGets_err p hp hc A c a b B cap xs w hy hlc
end Go.Proofs.Ytnfbebfgllldgaa
