/- Same of layer 6's reference, the statements' small test of layer 9: their contracts. -/
import Derived.Test.YtanljjpjhihgcaaDoorRunGet
namespace Go.Proofs.YtanljjpjhihgcaaDoor
open Go.RowKit VarM RunM
set_option linter.unusedVariables false

set_option maxRecDepth 100000 in
theorem same_nats (A B : Option Addr) (n c d : Nat) (ns : List Nat) (w : World) (hn : ns.length = n) (hx : NatsAt w A ns) (hy : NatsAt w B ns) (hl : n ≤ 100000000) :
    Calls Tryd.prog 20 #[.slice A n c, .slice B n d] w fun e w' => e = .returned (.bool true) ∧ Below w.heap.size w w' := by
  subst hn
  go_enter Tryd.func20, Tryd.ntmps20
  go_wp2_with fail
  go_loopw [5] (fun i wr => ∃ k : Nat, k ≤ ns.length ∧ i = .int .i64 k ∧ Below w.heap.size w wr) (fun i _ => ns.length - (intOf i).toNat)
  case atStart => exact ⟨0, by omega, rfl, Below.refl _ _⟩
  case round =>
    obtain ⟨k, hk, rfl, hb⟩ := hrel
    by_cases hlt : k < ns.length
    · have hne : ns ≠ [] := by intro h; subst h; simp at hlt
      obtain ⟨b, off, rfl⟩ := hx.addr hne
      obtain ⟨b2, off2, rfl⟩ := hy.addr hne
      have h1 := (hx.below hb).cell k hlt
      have h2 := (hy.below hb).cell k hlt
      clear hne
      go_wp2_with fail
      go_quiet (fail)
      go_wp2_with fail
      go_roundw
      case rel => exact ⟨k + 1, by omega, by go_num, below_drewN hb _⟩
      case measure => simp [intOf]; omega
    · go_wp2_with fail
      go_ret
      exact ⟨rfl, hb⟩

theorem natsAt_block {w : World} {g : Nat} {t : TypeId} {fr : Nat × Nat} (ns : List Nat) (h : w.heap[g]? = some (.cells (ns.map uv).toArray t fr)) : NatsAt w (some ⟨g, 0, none⟩) ns := cellsAt_block _ h

theorem rput771 : rput [7, 7, 1] = [2, 7, 1, 1] := by
  rw [rput_cons, show runLen [7, 7, 1] = 2 from rfl]
  simp only [List.drop_succ_cons, List.drop_zero]
  rw [rput_cons, show runLen [1] = 1 from rfl]
  simp only [List.drop_succ_cons, List.drop_zero]
  rw [rput_nil, vput_low (by omega), vput_low (by omega), vput_low (by omega)]
  rfl

theorem runPut_lit (g : Nat) (w : World) (h : w.heap[g]? = some (.cells #[.int .u64 7, .int .u64 7, .int .u64 1] 22 (0, 0))) :
    Calls Tryd.prog 62 #[.slice (some ⟨g, 0, none⟩) 3 3] w fun e w' => ∃ A' c', e = .returned (.tuple #[.slice A' 4 c', .int .i64 0]) ∧ BytesAt w' A' [2, 7, 1, 1] ∧ 4 ≤ c' ∧ c' ≤ maxLen ∧ Below w.heap.size w w' := by
  refine (runPut_any _ 3 3 [7, 7, 1] w rfl (natsAt_block [7, 7, 1] h) (by omega) (by omega) (by unfold maxLen; omega) (by decide)).mono ?_
  rintro e w' ⟨A', c', rfl, h1, h2, h3, _, h4⟩
  rw [rput771] at *
  exact ⟨A', c', rfl, h1, h2, h3, h4⟩

theorem runGet_lit (A : Option Addr) (c : Nat) (w : World) (hx : BytesAt w A [2, 7, 1, 1]) (hc : 4 ≤ c) (hcm : c ≤ maxLen) :
    Calls Tryd.prog 77 #[.slice A 4 c, .int .i64 3] w fun e w' => ∃ b off c', e = .returned (.tuple #[.slice (some ⟨b, off, none⟩) 3 c', .int .i64 4, .int .i64 0]) ∧ w'.cell? ⟨b, off + 2, none⟩ = some (.int .u64 1) ∧ Below w.heap.size w w' := by
  refine (runGet_any A 4 c 3 [2, 7, 1, 1] [] [7, 7, 1] w (by rw [rput771]; rfl) rfl hx hc hcm rfl (by omega) (by decide)).mono ?_
  rintro e w' ⟨A', c', rfl, h1, h4⟩
  obtain ⟨b, off, rfl⟩ := h1.addr (by simp)
  rw [rput771]
  exact ⟨b, off, c', rfl, h1.cell 2 (by simp), h4⟩

/-- More than may be. -/
theorem runPut_large (A : Option Addr) (n c : Nat) (w : World) (hl : 200 < n) (hl2 : n ≤ 100000) :
    Calls Tryd.prog 62 #[.slice A n c] w fun e w' => e = .returned (.tuple #[.slice none 0 0, .int .i64 1]) ∧ w = w' := by
  have hd : (200 : Int) < (n : Int) := by omega
  go_enter Tryd.func62, Tryd.ntmps62
  go_wp2_with fail
  go_ret2
  exact ⟨rfl, rfl⟩
end Go.Proofs.YtanljjpjhihgcaaDoor
