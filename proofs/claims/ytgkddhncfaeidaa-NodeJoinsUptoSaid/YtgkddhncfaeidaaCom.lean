/- What all walks of this seat share: worlds that are as a world was below a block, a region whose order is drawn walked over these, bytes in memory. No program is named here. -/
import Derived.WalkKit
import Derived.BigQuiet
import Derived.Deep.QuietTactic
import Derived.Deep.WholeRow
import Derived.Deep.OwnRows
import Derived.Laws.BitsAllLaws
import Derived.Below
import Derived.Lib.Hide
namespace Go.Proofs.Ytgkddhncfaeidaa
open Go.RowKit

/-- The worlds that are below block B as w was. -/
structure SubW (B : Nat) (w : World) where
  at_ : World
  ok_ : Below B w at_

instance (B : Nat) (w : World) : Nonempty (SubW B w) := ⟨⟨w, Below.refl _ _⟩⟩

theorem below_drewN {B : Nat} {a w : World} (h : Below B a w) (n : Nat) : Below B a (w.drewN n) := ⟨h.os, h.tape, h.output, h.size, h.block⟩

/-- A region that draws its order, walked once in the text's order over all worlds that are below B as w0 was. -/
theorem region_below {P : Program} {id : Nat} {Q : Exit → Act → World → Prop} {a : Act} {w : World} {l : List Oper} (B : Nat) (w0 : World) (hb : Below B w0 w)
    (hm : P.follows .mixedOrders = true) (hB : Region.lexB .any l.toArray = true)
    (h : wpQuiet P l.toArray (fun w' => ∃ x : SubW B w0, w' = x.at_) (fun a' => ∀ w', (∃ x : SubW B w0, w' = x.at_) → Q .normal a' w') l a) : (Code.region id l.toArray true).wp P Q a w :=
  wp_region_quiet (C := fun w' => ∃ x : SubW B w0, w' = x.at_) hm hB ⟨⟨_, below_drewN hb 1⟩, rfl⟩ (by simpa using h)

/-- A callee's contract, met in such a world. -/
theorem calls_sub {P : Program} {f : FuncId} {args : Array Value} {B : Nat} {w0 : World} {x : SubW B w0} {v : Value} (hB : B ≤ w0.heap.size)
    (h : Calls P f args x.at_ fun e w' => e = .returned v ∧ Below x.at_.heap.size x.at_ w') : Calls P f args x.at_ fun e w'' => e = .returned v ∧ ∃ y : SubW B w0, w'' = y.at_ :=
  h.mono fun _ _ ⟨he, hb⟩ => ⟨he, ⟨_, x.ok_.trans (hb.mono (Nat.le_trans hB x.ok_.size))⟩, rfl⟩

/-- A whole array is read in a region that draws. -/
theorem quiet_load_row {P : Program} {o : Oper} {a : Act} {B : Nat} {w0 : World} {K : Act → Prop} (ty : TypeId) (x : Operand) (ho : o.op = .load ty x)
    (g : Nat) (hx : a.eval x = .pointer (some ⟨g, 0, none⟩)) (t : TypeId) (cs : Array Value) (fr : Nat × Nat) (d : TypeDesc) (hg : ∀ y : SubW B w0, y.at_.heap[g]? = some (.cells cs t fr))
    (hu : P.underlying ty = some d) (hd : (match d with | .struct _ | .array _ _ => true | _ => false) = true) (hi : (P.info? ty).map (·.size) = some cs.size)
    (h : K (a.put o.dst (.agg cs))) : o.quiet P a (fun w' => ∃ x : SubW B w0, w' = x.at_) K := by
  refine ⟨.agg cs, ?_, h⟩
  rintro w ⟨y, rfl⟩
  unfold Oper.quietAt execOp
  simp only [ho, hx, Instr.loadAt, Instr.sureAddr, Sem.run_bind, Sem.run_pure, Result.andThen_ok, run_loadVar_row y.at_ g t ty cs fr d (hg y) hu hd hi]
  exact ⟨rfl, rfl⟩

/-- The slice value over A reads as these bytes. -/
def BytesAt (w : World) (A : Option Addr) (xs : List UInt8) : Prop :=
  xs ≠ [] → ∃ b off, A = some ⟨b, off, none⟩ ∧ ∀ k (h : k < xs.length), w.cell? ⟨b, off + k, none⟩ = some (.int .u8 (xs[k].toNat : Int))

theorem BytesAt.nil (w : World) (A : Option Addr) : BytesAt w A [] := fun h => absurd rfl h

theorem BytesAt.below {w w' : World} {A : Option Addr} {xs : List UInt8} (h : BytesAt w A xs) (hb : Below w.heap.size w w') : BytesAt w' A xs := fun hx => by
  obtain ⟨b, off, ha, hc⟩ := h hx
  exact ⟨b, off, ha, fun k hk => (hb.cell (p := ⟨b, off + k, none⟩) (World.block_lt_of_cell? w _ (hc k hk))).trans (hc k hk)⟩

theorem u8_lt (x : UInt8) : (x.toNat : Int) < 256 := by have := x.toNat_lt; omega
theorem u8_nn (x : UInt8) : (0 : Int) ≤ (x.toNat : Int) := Int.natCast_nonneg _

end Go.Proofs.Ytgkddhncfaeidaa
