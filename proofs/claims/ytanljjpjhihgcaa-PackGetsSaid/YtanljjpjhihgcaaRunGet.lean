/- run, continues and Get of package runs: their contracts over what Put laid. -/
import Derived.Test.YtanljjpjhihgcaaRunRef
namespace Go.Proofs.Ytanljjpjhihgcaa
open Go.RowKit VarM RunM
set_option linter.unusedVariables false

/-- An own slice of numbers. -/
def OwnN (w : World) (base : Nat) (v : Value) (ns : List Nat) : Prop := OwnV w base v 34 (ns.map uv)
theorem OwnN.nats {w : World} {base : Nat} {A : Option Addr} {n c : Nat} {ns : List Nat} (h : OwnN w base (.slice A n c) ns) : NatsAt w A ns := h.bytes
theorem OwnN.caps {w : World} {base : Nat} {A : Option Addr} {n c : Nat} {ns : List Nat} (h : OwnN w base (.slice A n c) ns) : ns.length = n ∧ n ≤ c ∧ c ≤ maxLen ∧ (A = none → n = 0 ∧ c = 0) := by
  have := OwnV.caps h
  simpa using this

theorem results_tmp4 {fn : Func} {t u v x : Tmp} (h : fn.results = #[.tmp t, .tmp u, .tmp v, .tmp x]) (tmps : Array Value) (P : Program) (w : World) :
    (results fn tmps).run P w = .ok (.tuple #[tmps.getD t undef, tmps.getD u undef, tmps.getD v undef, tmps.getD x undef]) w := by
  simp [results, h]

theorem sub64 (n m : Nat) (h1 : m ≤ n) (h2 : n ≤ 200) : IntKind.u64.wrap ((n : Int) - (m : Int)) = ((n - m : Nat) : Int) := by rw [IntKind.wrap_u64]; omega

end Go.Proofs.Ytanljjpjhihgcaa
