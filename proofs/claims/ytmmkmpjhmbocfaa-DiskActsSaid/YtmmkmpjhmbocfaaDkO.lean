/- What is left alone by a call that works on a disk. No program is named here. -/
import Derived.Test.YtmmkmpjhmbocfaaGrow
import Derived.Laws.CopyOwn
namespace Go.Proofs.Ytmmkmpjhmbocfaa
open Go.RowKit

/-- Blocks below B, and those from N on, are as they were. -/
structure Outer (B N : Nat) (w w' : World) : Prop where
  os : w'.os = w.os
  tape : w'.tape = w.tape
  output : w'.output = w.output
  size : w.heap.size ≤ w'.heap.size
  block : ∀ k, k < w.heap.size → k < B ∨ N ≤ k → w'.heap[k]? = w.heap[k]?

theorem Outer.refl (B N : Nat) (w : World) : Outer B N w w := ⟨rfl, rfl, rfl, Nat.le_refl _, fun _ _ _ => rfl⟩
theorem Outer.grown {B N : Nat} {w w1 w2 : World} {r : Option Nat} (h : Outer B N w w1) (hg : w1.grownBy w2 r) (hr : ∀ k, r = some k → (B ≤ k ∧ k < N) ∨ w.heap.size ≤ k) : Outer B N w w2 := by
  refine ⟨hg.os.trans h.os, hg.tape.trans h.tape, hg.output.trans h.output, Nat.le_trans h.size hg.size, fun k hk hko => ?_⟩
  refine (hg.block k (Nat.lt_of_lt_of_le hk h.size) (fun e => ?_)).trans (h.block k hk hko)
  rcases hr k e.symm with h1 | h1 <;> omega
theorem Outer.alloc {B N : Nat} {w w1 : World} (h : Outer B N w w1) (o : Obj) : Outer B N w (w1.alloc o) :=
  h.grown (grown_alloc w1 o none) (fun k e => by cases e)
theorem Outer.below {B N : Nat} {w w' : World} (h : Outer B N w w') (hB : B ≤ w.heap.size) : Below B w w' :=
  ⟨h.os, h.tape, h.output, h.size, fun k hk => h.block k (by omega) (.inl hk)⟩
theorem Outer.then {B N B' : Nat} {w w1 w2 : World} (h : Outer B N w w1) (hb : Below B' w1 w2) (hB : w.heap.size ≤ B') : Outer B N w w2 :=
  ⟨hb.os.trans h.os, hb.tape.trans h.tape, hb.output.trans h.output, Nat.le_trans h.size hb.size, fun k hk hko => (hb.block k (by omega)).trans (h.block k hk hko)⟩
theorem below_grown_one {w w' : World} {q : Nat} (hb : Below q w w') (hs : w.heap.size ≤ q + 1) : w.grownBy w' (some q) :=
  ⟨hb.os, hb.tape, hb.output, hb.size, fun k hk hne => hb.block k (by
    have : k ≠ q := fun e => hne (by rw [e])
    omega)⟩
theorem bytes_grownA {w w' : World} {A : Option Addr} {r : Nat} {xs : List UInt8} (h : BytesAt w A xs) (hg : w.grownBy w' (some r)) (hne : ∀ a, A = some a → a.block ≠ r) : BytesAt w' A xs := fun hx => by
  obtain ⟨b, off, rfl, hc⟩ := h hx
  exact ⟨b, off, rfl, fun k hk => (World.cell?_of_block (a := ⟨b, off + k, none⟩) (hg.block b (World.block_lt_of_cell? _ _ (hc k hk)) (fun e => hne _ rfl (by injection e)))).trans (hc k hk)⟩
theorem bytes_outer {B N : Nat} {w w' : World} {A : Option Addr} {xs : List UInt8} (h : BytesAt w A xs) (hg : Outer B N w w') (hne : ∀ a, A = some a → a.block < B ∨ N ≤ a.block) : BytesAt w' A xs := fun hx => by
  obtain ⟨b, off, rfl, hc⟩ := h hx
  exact ⟨b, off, rfl, fun k hk => (World.cell?_of_block (a := ⟨b, off + k, none⟩) (hg.block b (World.block_lt_of_cell? _ _ (hc k hk)) (hne _ rfl))).trans (hc k hk)⟩
end Go.Proofs.Ytmmkmpjhmbocfaa
