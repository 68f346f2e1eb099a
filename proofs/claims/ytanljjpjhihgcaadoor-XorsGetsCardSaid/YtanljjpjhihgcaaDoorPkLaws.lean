/- ricklaw06.puts is true in every world. -/
import Derived.Test.YtanljjpjhihgcaaDoorPkBack
namespace BitM
theorem pk77 : pk [7, 7] = [0, 0, 0, 0, 0, 0, 0, 7, 0] := by decide +kernel
end BitM
namespace Go.Proofs.YtanljjpjhihgcaaDoor
open Go.RowKit BitM RunM
set_option linter.unusedVariables false

theorem nats_two (w : World) (a b : Nat) (x y : Int) (t : TypeId) (hx : x = (a : Int)) (hy : y = (b : Int)) : NatsAt (w.alloc (.cells #[.int .u64 x, .int .u64 y] t)) (some ⟨w.heap.size, 0, none⟩) [a, b] := fun _ => by
  subst hx hy
  refine ⟨w.heap.size, 0, rfl, fun k hk => ?_⟩
  have : k = 0 ∨ k = 1 := by simp at hk; omega
  rcases this with rfl | rfl
  · rw [World.cell?_alloc_new]; rfl
  · rw [World.cell?_alloc_new]; rfl

theorem packGet_z (A : Option Addr) (len c n : Nat) (z : Int) (ns : List Nat) (rest X : List UInt8) (q : Nat) (w : World) (hz : z = (n : Int)) (hX : BytesAt w A X) (hXe : X = pk ns ++ rest) (hlen : X.length = len) (hq : (pk ns).length = q) (hl : len ≤ 1000000) (hc : len ≤ c) (hcm : c ≤ maxLen) (hpos : 0 < n) (hn2 : n ≤ 200) (hns : ns.length = n) (hm64 : ∀ v ∈ ns, v < 18446744073709551616) :
    Calls Tryd.prog 75 #[.slice A len c, .int .i64 z] w fun e w' => ∃ A' c', e = .returned (.tuple #[.slice A' n c', .int .i64 (q : Int), .int .i64 0]) ∧ NatsAt w' A' ns ∧ Below w.heap.size w w' := by
  subst hz hq
  exact packGet_pk A len c n ns rest X w hX hXe hlen hl hc hcm hpos hn2 hns hm64

end Go.Proofs.YtanljjpjhihgcaaDoor
