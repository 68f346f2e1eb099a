/- The walk of RunsPuts. -/
import Derived.Test.YtanljjpjhihgcaaRunLaws
namespace Go.Proofs.Ytanljjpjhihgcaa
open Go.RowKit VarM RunM
set_option linter.unusedVariables false

theorem nats_of_row {w : World} {A : Option Addr} {zs : List Int} (h : NumRow .u64 w A zs) : NatsAt w A (zs.map Int.toNat) ∧ ∀ v ∈ zs.map Int.toNat, v < 18446744073709551616 := by
  have hz : ∀ n ∈ zs, 0 ≤ n ∧ n < 18446744073709551616 := fun n hn => by have := bounds_u64 (h.1 n hn); omega
  refine ⟨fun hne => ?_, fun v hv => ?_⟩
  · obtain ⟨b, off, ha, hc⟩ := h.2 (by intro h0; subst h0; exact hne rfl)
    refine ⟨b, off, ha, fun k hk => ?_⟩
    have hk' : k < zs.length := by simpa using hk
    rw [hc k hk']
    have := hz _ (List.getElem_mem hk')
    simp only [List.getElem_map, uv]
    congr 2
    omega
  · obtain ⟨z, hz1, rfl⟩ := List.mem_map.1 hv
    have := hz z hz1
    omega

end Go.Proofs.Ytanljjpjhihgcaa
