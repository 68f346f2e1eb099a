/- The known text's sum, as the statements of layer 2 ask it: its contract. -/
import Derived.Test.YtnfbebfgllldgaaRefSum
import Derived.Lib.SlBytesConst
namespace Go.Proofs.Ytnfbebfgllldgaa
open Go.RowKit CrcM

def digits : List UInt8 := [49, 50, 51, 52, 53, 54, 55, 56, 57]
theorem digits_sum : sumN digits = 3808858755 := by decide +kernel

theorem bytesAt_block {w : World} {g : Nat} {t : TypeId} {fr : Nat × Nat} (xs : List UInt8) (h : w.heap[g]? = some (.cells (xs.map fun c => Value.int .u8 (c.toNat : Int)).toArray t fr)) : BytesAt w (some ⟨g, 0, none⟩) xs := fun _ =>
  ⟨g, 0, rfl, fun k hk => by rw [cell_of_row w g (0 + k) _ t fr h]; simp [hk]⟩

set_option maxRecDepth 100000 in
theorem sums_any (w : World) : Calls Try.prog 37 #[] w fun e w' => e = .returned (.bool true) ∧ Below w.heap.size w w' := by
  have kc := fun (w : World) (C : Array Value) (n c : Nat) => Lib.run_convert_bytes_const (P := Try.prog) w 27 5 C n c Try.underlying27 Try.underlying5
  go_enter Try.func37, Try.ntmps37
  go_wp2_with (first
    | (go_at_call 36; refine (new_any _).mono ?_; rintro e w1 ⟨rfl, hb1⟩)
    | (go_at_call 38; refine (sum_any _ _ digits _ (bytesAt_block digits (heap_alloc_new _ _)) (by decide)).mono ?_; rintro e w2 ⟨rfl, hb2⟩))
  rw [digits_sum]
  go_ret
  exact ⟨rfl, (hb1.alloc hb1.size _).trans (hb2.mono (by have := hb1.size; simp; omega))⟩

end Go.Proofs.Ytnfbebfgllldgaa
