/- The walk of RunsPuts. -/
import Derived.Test.YtanljjpjhihgcaaDoorRunLaws
namespace Go.Proofs.YtanljjpjhihgcaaDoor
open Go.RowKit VarM RunM
set_option linter.unusedVariables false

theorem nats_of_row {w : World} {A : Option Addr} {zs : List Int} (h : NumRow .u64 w A zs) : NatsAt w A (zs.map Int.toNat) ∧ ∀ v ∈ zs.map Int.toNat, v < 18446744073709551616 := by
  have hz : ∀ n ∈ zs, 0 ≤ n ∧ n < 18446744073709551616 := fun n hn => by have := bounds_u64 (h.1 n hn); omega
  refine ⟨fun hne => ?_, fun v hv => ?_⟩
  · obtain ⟨b, off, ha, hc⟩ := h.2 (by intro h0; subst h0; exact hne rfl)
    refine ⟨b, off, ha, fun k hk => ?_⟩
    have hk' : k < zs.length := by simpa using hk
    rw [hc k hk']
    have := hz _ (List.getElem_mem hk')
    simp only [List.getElem_map, uv]
    congr 2
    omega
  · obtain ⟨z, hz1, rfl⟩ := List.mem_map.1 hv
    have := hz z hz1
    omega

theorem runPut_z (A : Option Addr) (n c : Nat) (ns : List Nat) (Z : List UInt8) (w : World) (hZ : rput ns = Z) (hn : ns.length = n) (hx : NatsAt w A ns) (hl : n ≤ 200) (hc : n ≤ c) (hcm : c ≤ maxLen) (hm : ∀ v ∈ ns, v < 18446744073709551616) :
    Calls Tryd.prog 62 #[.slice A n c] w fun e w' => ∃ A' c', e = .returned (.tuple #[.slice A' Z.length c', .int .i64 0]) ∧ BytesAt w' A' Z ∧ Z.length ≤ c' ∧ c' ≤ maxLen ∧ Below w.heap.size w w' := by
  subst hZ
  refine (runPut_any A n c ns w hn hx hl hc hcm hm).mono ?_
  rintro e w' ⟨A', c', rfl, h1, h2, h3, _, h4⟩
  exact ⟨A', c', rfl, h1, h2, h3, h4⟩
theorem runGet_z (A : Option Addr) (len c n : Nat) (X rest Z : List UInt8) (ns : List Nat) (w : World) (hZ : rput ns = Z) (hX : X = Z ++ rest) (hlen : X.length = len) (hx : BytesAt w A X) (hc : len ≤ c) (hcm : c ≤ maxLen) (hn : ns.length = n) (hl : n ≤ 200) (hm : ∀ v ∈ ns, v < 18446744073709551616) :
    Calls Tryd.prog 77 #[.slice A len c, .int .i64 (n : Int)] w fun e w' => ∃ A' c', e = .returned (.tuple #[.slice A' n c', .int .i64 (Z.length : Int), .int .i64 0]) ∧ NatsAt w' A' ns ∧ Below w.heap.size w w' := by
  subst hZ
  exact runGet_any A len c n X rest ns w hX hlen hx hc hcm hn hl hm

end Go.Proofs.YtanljjpjhihgcaaDoor
