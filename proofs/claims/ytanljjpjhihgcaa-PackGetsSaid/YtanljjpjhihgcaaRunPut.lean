/- first and Put of package runs, and the reference's Put: their contracts. -/
import Derived.Test.YtanljjpjhihgcaaVarRows
import Derived.Test.YtanljjpjhihgcaaOwnV
import Derived.Test.YtanljjpjhihgcaaRunM
import Derived.Test.YtanljjpjhihgcaaPi
namespace Go.Proofs.Ytanljjpjhihgcaa
open Go.RowKit VarM RunM
set_option linter.unusedVariables false

/-- A number as a value. -/
def uv (n : Nat) : Value := .int .u64 (n : Int)
theorem uv_one (ns : List Nat) : ∀ u ∈ ns.map uv, u.oneCell' = true := by
  intro u hu
  obtain ⟨c, _, rfl⟩ := List.mem_map.1 hu
  rfl
theorem infoU64 : (Try.prog.info? 34).map (fun i => (i.zero, i.size, i.bytes)) = some (some (.int .u64 0), 1, 8) := by kernel_rfl

/-- The slice over A reads as these numbers. -/
def NatsAt (w : World) (A : Option Addr) (ns : List Nat) : Prop := CellsAt w A (ns.map uv)
theorem NatsAt.cell {w : World} {b off : Nat} {ns : List Nat} (h : NatsAt w (some ⟨b, off, none⟩) ns) (k : Nat) (hk : k < ns.length) : w.cell? ⟨b, off + k, none⟩ = some (.int .u64 (ns[k] : Int)) := by
  obtain ⟨b', off', he, hc⟩ := h (by intro h0; have := congrArg List.length h0; simp at this; subst this; simp at hk)
  injection he with he
  injection he with h1 h2
  subst h1 h2
  have := hc k (by simpa using hk)
  rw [this]
  simp [uv]
theorem NatsAt.addr {w : World} {A : Option Addr} {ns : List Nat} (h : NatsAt w A ns) (hne : ns ≠ []) : ∃ b off, A = some ⟨b, off, none⟩ := by
  obtain ⟨b, off, he, _⟩ := h (by simpa using hne)
  exact ⟨b, off, he⟩
theorem NatsAt.below {w w' : World} {A : Option Addr} {ns : List Nat} (h : NatsAt w A ns) (hb : Below w.heap.size w w') : NatsAt w' A ns := CellsAt.below h hb
theorem NatsAt.take {w : World} {A : Option Addr} {ns : List Nat} (h : NatsAt w A ns) (n : Nat) : NatsAt w A (ns.take n) := by unfold NatsAt; rw [List.map_take]; exact CellsAt.take h n
theorem NatsAt.cut {w : World} {A : Option Addr} {ns : List Nat} (h : NatsAt w A ns) (k : Nat) (A' : Option Addr) (hA : k < ns.length → A' = A.map (·.add k)) : NatsAt w A' (ns.drop k) := by
  unfold NatsAt; rw [List.map_drop]; exact CellsAt.cut h k A' (by simpa using hA)

theorem wrap_small (k : Nat) (h : k < 18446744073709551616) : IntKind.u64.wrap (k : Int) = (k : Int) := by rw [IntKind.wrap_u64]; omega

end Go.Proofs.Ytanljjpjhihgcaa
