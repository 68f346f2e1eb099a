/- The walk of the statement PagePuts. -/
import Derived.Test.YtmmkmpjhmbocfaaPuts
import Derived.Test.YtmmkmpjhmbocfaaMid
namespace Go.Proofs.Ytmmkmpjhmbocfaa
open Go.RowKit CrcM PageM
set_option linter.unusedVariables false

/-- The cells of a page. -/
def cellsC (p : Pg) (A : Option Addr) (c : Nat) : Array Value := #[.int .u8 (p.kind.toNat : Int), .int .i64 p.addr, .int .u64 (p.gen : Int), .slice A p.body.length c]

theorem put_errV (p : Pg) (hp : ¬ okP p) (hc : bodyC p) (A : Option Addr) (c : Nat) (w : World) :
    Calls Try.prog 61 #[.agg tab, .agg (cellsC p A c)] w fun e w' => e = .returned (.tuple #[.slice none 0 0, .int .i64 1]) ∧ Below w.heap.size w w' := put_err p hp hc A c w
theorem refPut_errV (p : Pg) (hp : ¬ okP p) (hc : bodyC p) (A : Option Addr) (c : Nat) (w : World) :
    Calls Try.prog 30 #[.agg (cellsC p A c)] w fun e w' => e = .returned (.tuple #[.slice none 0 0, .bool false]) ∧ Below w.heap.size w w' := refPut_err p hp hc A c w
theorem to_V (p : Pg) (A : Option Addr) (c : Nat) (w : World) :
    Calls Try.prog 32 #[.agg (cellsC p A c)] w fun e w' => e = .returned (.agg (cellsC p A c)) ∧ Below w.heap.size w w' := to_any _ _ _ _ _ _ w

theorem put_okV (k : UInt8) (m g : Nat) (b : List UInt8) (hk : isK k = true) (hm : m < 512) (hg : g < 18446744073709551616) (hb : b.length ≤ 238) (A : Option Addr) (c : Nat) (w : World) (hx : BytesAt w A b) (hbc : b.length ≤ c) :
    Calls Try.prog 61 #[.agg tab, .agg (cellsC ⟨k, (m : Int), g, b⟩ A c)] w fun e w' => e = .returned (.tuple #[.slice (some ⟨w.heap.size + 1 + 1, 0, none⟩) 256 256, .int .i64 0]) ∧ OwnB w' w.heap.size (w.heap.size + 1 + 1) 256 5 (putP ⟨k, (m : Int), g, b⟩) ∧ Below w.heap.size w w' :=
  put_ok k m g b hk hm hg hb A c w hx hbc
theorem refPut_okV (k : UInt8) (m g : Nat) (b : List UInt8) (hk : isK k = true) (hm : m < 512) (hg : g < 18446744073709551616) (hb : b.length ≤ 238) (A : Option Addr) (c : Nat) (w : World) (hx : BytesAt w A b) (hbc : b.length ≤ c) :
    Calls Try.prog 30 #[.agg (cellsC ⟨k, (m : Int), g, b⟩ A c)] w fun e w' => e = .returned (.tuple #[.slice (some ⟨w.heap.size + 1, 0, none⟩) 256 256, .bool true]) ∧ OwnB w' w.heap.size (w.heap.size + 1) 256 5 (putP ⟨k, (m : Int), g, b⟩) ∧ Below w.heap.size w w' :=
  refPut_ok k m g b hk hm hg hb A c w hx hbc
theorem get_putV (gB : Nat) (k : UInt8) (m g : Nat) (b PP : List UInt8) (e : PP = putP ⟨k, (m : Int), g, b⟩) (hk : isK k = true) (hm : m < 512) (hg : g < 18446744073709551616) (hb : b.length ≤ 238) (w : World)
    (hx : BytesAt w (some ⟨gB, 0, none⟩) PP) :
    Calls Try.prog 62 #[.agg tab, .slice (some ⟨gB, 0, none⟩) 256 256] w fun e w' => ∃ A' c', e = .returned (.tuple #[.agg (cellsC ⟨k, (m : Int), g, b⟩ A' c'), .int .i64 0]) ∧
      BytesAt w' A' b ∧ b.length ≤ c' ∧ Below w.heap.size w w' := by
  rw [e] at hx
  exact get_put (some ⟨gB, 0, none⟩) 256 k m g b hk hm hg hb w hx (Nat.le_refl _)

theorem from_V (p : Pg) (A : Option Addr) (c : Nat) (w : World) :
    Calls Try.prog 38 #[.agg (cellsC p A c)] w fun e w' => e = .returned (.agg (cellsC p A c)) ∧ Below w.heap.size w w' := from_any _ _ _ _ _ _ w
theorem same_V (p : Pg) (A B : Option Addr) (c d : Nat) (w : World) (hx : BytesAt w A p.body) (hy : BytesAt w B p.body) :
    Calls Try.prog 37 #[.agg (cellsC p A c), .agg (cellsC p B d)] w fun e w' => e = .returned (.bool true) ∧ Below w.heap.size w w' :=
  same_any _ _ _ A B _ _ c d p.body w rfl rfl hx hy
theorem _root_.Go.Proofs.Ytmmkmpjhmbocfaa.BytesAt.sub_ {w : World} {A : Option Addr} {xs : List UInt8} (h : BytesAt w A xs) (y : SubW w.heap.size w) : BytesAt y.at_ A xs := h.below y.ok_

end Go.Proofs.Ytmmkmpjhmbocfaa
