/- A region that draws its order, where one block stays though it is newer than what may change. No program is named here. -/
import Derived.Test.YtgkddhncfaeidaaWays4
namespace Go.Proofs.Ytgkddhncfaeidaa
open Go.RowKit
/-- The worlds that are as one was below B, and hold a block. -/
structure BoxW (B : Nat) (g : Nat) (o : Obj) (w : World) where
  at_ : World
  ok_ : Below B w at_
  bx_ : at_.heap[g]? = some o
theorem region_box {P : Program} {ops : Array Oper} {id : Nat} {Q : Exit → Act → World → Prop} {a : Act} {w : World} (B : Nat) (hBw : B ≤ w.heap.size) (g : Nat) (o : Obj) (hg : w.heap[g]? = some o) (bl : List (List Nat × Nat)) (last : List Nat) (hm : P.follows .mixedOrders = true) (hB : blOK ops bl last = true)
    (h : ∀ w', Below w.heap.size w w' → wpBl P ops Q (fun w' => ∃ x : BoxW B g o w, w' = x.at_) bl last a w') : (Code.region id ops true).wp P Q a w :=
  region_bl' bl last _ hm hB (fun w' hw => ⟨⟨w', hw.mono hBw, (hw.block g (Array.getElem?_eq_some_iff.1 hg).1).trans hg⟩, rfl⟩) (fun w' hw _ => h w' hw)
theorem region_box4 {P : Program} {ops : Array Oper} {id : Nat} {Q : Exit → Act → World → Prop} {a : Act} {w : World} (B : Nat) (hBw : B ≤ w.heap.size) (g : Nat) (o : Obj) (hg : w.heap[g]? = some o) (t : Ways4) (hm : P.follows .mixedOrders = true) (hB : waysOK4 ops t = true)
    (h : ∀ w', Below w.heap.size w w' → wpWays4 P ops Q (fun w' => ∃ x : BoxW B g o w, w' = x.at_) t a w') : (Code.region id ops true).wp P Q a w := by
  simp only [waysOK4, Bool.and_eq_true] at hB
  obtain ⟨⟨h1, h2⟩, h3⟩ := hB
  have hb := below_drewN (Below.refl w.heap.size w) 1
  refine wp_region_noPanic (wp_region_held (S := fun w' => ∃ x : BoxW B g o w, w' = x.at_) hm ?_)
  exact wpAnyH_of_ways4 h1 t _ _ a _ ⟨⟨_, hb.mono hBw, (hb.block g (Array.getElem?_eq_some_iff.1 hg).1).trans hg⟩, rfl⟩ h2 h3 (h _ hb)
end Go.Proofs.Ytgkddhncfaeidaa
