/- slices.Min and slices.Max of uint64s: their contracts; nothing is made. -/
import Derived.Test.YtanljjpjhihgcaaDoorPkM
import Derived.Test.YtanljjpjhihgcaaDoorRunPut
namespace Go.Proofs.YtanljjpjhihgcaaDoor
open Go.RowKit BitM
set_option linter.unusedVariables false

set_option maxRecDepth 100000 in
theorem min_any (A : Option Addr) (n c : Nat) (ns : List Nat) (w : World) (hn : ns.length = n) (hx : NatsAt w A ns) (hl : n ≤ 100000000) (h0 : 0 < n) :
    Calls Tryd.prog 68 #[.slice A n c] w fun e w' => e = .returned (.int .u64 (lmin ns : Int)) ∧ w = w' := by
  subst hn
  have hne : ns ≠ [] := by intro h; subst h; simp at h0
  obtain ⟨b, off, rfl⟩ := hx.addr hne
  have hc0 := hx.cell 0 h0
  have e0 : ns[0] = lmin (ns.take 1) := by
    cases ns with
    | nil => simp at h0
    | cons x r => rfl
  rw [e0, Nat.add_zero] at hc0
  clear e0
  go_enter Tryd.func68, Tryd.ntmps68
  go_wp2_with fail
  go_loopw [3, 4] (fun m i wr => ∃ k : Nat, 1 ≤ k ∧ k ≤ ns.length ∧ i = .int .i64 k ∧ m = .int .u64 (lmin (ns.take k) : Nat) ∧ w = wr) (fun _ i _ => ns.length - (intOf i).toNat)
  case atStart => exact ⟨1, by omega, by omega, rfl, rfl, rfl⟩
  case round =>
    obtain ⟨k, hk1, hk, rfl, rfl, rfl⟩ := hrel
    by_cases hlt : k < ns.length
    · have h1 := hx.cell k hlt
      have hm := lmin_take ns k hk1 hlt
      have HM := Lib.hid hm
      generalize lmin (ns.take k) = M at *
      generalize ns[k] = v at *
      clear hm hc0 hne
      go_wp2_with fail
      go_roundw
      case rel =>
        refine ⟨k + 1, by omega, by omega, by go_num, ?_, by first | rfl | trivial⟩
        rw [HM.out]
        go_num
      case measure => simp [intOf]; omega
    · obtain rfl : k = ns.length := by omega
      rw [List.take_length]
      go_wp2_with fail
      go_ret
      exact ⟨rfl, rfl⟩

set_option maxRecDepth 100000 in
theorem max_any (A : Option Addr) (n c : Nat) (ns : List Nat) (w : World) (hn : ns.length = n) (hx : NatsAt w A ns) (hl : n ≤ 100000000) (h0 : 0 < n) :
    Calls Tryd.prog 70 #[.slice A n c] w fun e w' => e = .returned (.int .u64 (lmax ns : Int)) ∧ w = w' := by
  subst hn
  have hne : ns ≠ [] := by intro h; subst h; simp at h0
  obtain ⟨b, off, rfl⟩ := hx.addr hne
  have hc0 := hx.cell 0 h0
  have e0 : ns[0] = lmax (ns.take 1) := by
    cases ns with
    | nil => simp at h0
    | cons x r => rfl
  rw [e0, Nat.add_zero] at hc0
  clear e0
  go_enter Tryd.func70, Tryd.ntmps70
  go_wp2_with fail
  go_loopw [3, 4] (fun m i wr => ∃ k : Nat, 1 ≤ k ∧ k ≤ ns.length ∧ i = .int .i64 k ∧ m = .int .u64 (lmax (ns.take k) : Nat) ∧ w = wr) (fun _ i _ => ns.length - (intOf i).toNat)
  case atStart => exact ⟨1, by omega, by omega, rfl, rfl, rfl⟩
  case round =>
    obtain ⟨k, hk1, hk, rfl, rfl, rfl⟩ := hrel
    by_cases hlt : k < ns.length
    · have h1 := hx.cell k hlt
      have hm := lmax_take ns k hk1 hlt
      have HM := Lib.hid hm
      generalize lmax (ns.take k) = M at *
      generalize ns[k] = v at *
      clear hm hc0 hne
      go_wp2_with fail
      go_roundw
      case rel =>
        refine ⟨k + 1, by omega, by omega, by go_num, ?_, by first | rfl | trivial⟩
        rw [HM.out]
        go_num
      case measure => simp [intOf]; omega
    · obtain rfl : k = ns.length := by omega
      rw [List.take_length]
      go_wp2_with fail
      go_ret
      exact ⟨rfl, rfl⟩
end Go.Proofs.YtanljjpjhihgcaaDoor
