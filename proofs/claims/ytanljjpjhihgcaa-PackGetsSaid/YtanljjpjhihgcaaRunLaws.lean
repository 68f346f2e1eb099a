/- Same of layer 6's reference, the statements' small test of layer 9: their contracts. -/
import Derived.Test.YtanljjpjhihgcaaRunGet
namespace Go.Proofs.Ytanljjpjhihgcaa
open Go.RowKit VarM RunM
set_option linter.unusedVariables false

set_option maxRecDepth 100000 in
theorem same_nats (A B : Option Addr) (n c d : Nat) (ns : List Nat) (w : World) (hn : ns.length = n) (hx : NatsAt w A ns) (hy : NatsAt w B ns) (hl : n ≤ 100000000) :
    Calls Try.prog 7 #[.slice A n c, .slice B n d] w fun e w' => e = .returned (.bool true) ∧ Below w.heap.size w w' := by
  subst hn
  go_enter Try.func7, Try.ntmps7
  go_wp2_with fail
  go_loopw [5] (fun i wr => ∃ k : Nat, k ≤ ns.length ∧ i = .int .i64 k ∧ Below w.heap.size w wr) (fun i _ => ns.length - (intOf i).toNat)
  case atStart => exact ⟨0, by omega, rfl, Below.refl _ _⟩
  case round =>
    obtain ⟨k, hk, rfl, hb⟩ := hrel
    by_cases hlt : k < ns.length
    · have hne : ns ≠ [] := by intro h; subst h; simp at hlt
      obtain ⟨b, off, rfl⟩ := hx.addr hne
      obtain ⟨b2, off2, rfl⟩ := hy.addr hne
      have h1 := (hx.below hb).cell k hlt
      have h2 := (hy.below hb).cell k hlt
      clear hne
      go_wp2_with fail
      go_quiet (fail)
      go_wp2_with fail
      go_roundw
      case rel => exact ⟨k + 1, by omega, by go_num, below_drewN hb _⟩
      case measure => simp [intOf]; omega
    · go_wp2_with fail
      go_ret
      exact ⟨rfl, hb⟩

theorem natsAt_block {w : World} {g : Nat} {t : TypeId} {fr : Nat × Nat} (ns : List Nat) (h : w.heap[g]? = some (.cells (ns.map uv).toArray t fr)) : NatsAt w (some ⟨g, 0, none⟩) ns := cellsAt_block _ h

theorem rput771 : rput [7, 7, 1] = [2, 7, 1, 1] := by
  rw [rput_cons, show runLen [7, 7, 1] = 2 from rfl]
  simp only [List.drop_succ_cons, List.drop_zero]
  rw [rput_cons, show runLen [1] = 1 from rfl]
  simp only [List.drop_succ_cons, List.drop_zero]
  rw [rput_nil, vput_low (by omega), vput_low (by omega), vput_low (by omega)]
  rfl

end Go.Proofs.Ytanljjpjhihgcaa
