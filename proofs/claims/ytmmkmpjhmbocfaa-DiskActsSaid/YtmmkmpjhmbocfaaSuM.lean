/- The plain arithmetic of layer 15: a superblock as bytes. No program is named here. -/
import Derived.Test.YtmmkmpjhmbocfaaPageM
namespace Go.Proofs.Ytmmkmpjhmbocfaa
namespace SupM
open PageM

structure Sup where
  gen : Nat
  addr : Int
  height : Int
  bitmap : Int
  pages : Int
deriving DecidableEq

def rootOk (a h p : Int) : Prop := (h = 0 ∧ a = 0) ∨ (0 < h ∧ h ≤ 5 ∧ 2 ≤ a ∧ a < p)
def okS (s : Sup) : Prop := 1 ≤ s.gen ∧ 8 ≤ s.pages ∧ s.pages ≤ 512 ∧ rootOk s.addr s.height s.pages ∧ 2 ≤ s.bitmap ∧ s.bitmap < s.pages ∧ s.bitmap ≠ s.addr
instance (a h p : Int) : Decidable (rootOk a h p) := by unfold rootOk; infer_instance
instance (s : Sup) : Decidable (okS s) := by unfold okS; infer_instance

def supB (s : Sup) : List UInt8 := be s.gen 8 ++ be s.addr.toNat 2 ++ be s.height.toNat 1 ++ be s.bitmap.toNat 2 ++ be s.pages.toNat 2
theorem length_supB (s : Sup) : (supB s).length = 15 := by simp [supB, length_be]

def parseS (b : List UInt8) : Sup := ⟨val (b.take 8), val ((b.drop 8).take 2), val ((b.drop 10).take 1), val ((b.drop 11).take 2), val ((b.drop 13).take 2)⟩
theorem range_ok {s : Sup} (h : okS s) : 0 ≤ s.addr ∧ s.addr < 512 ∧ 0 ≤ s.height ∧ s.height ≤ 5 ∧ 2 ≤ s.bitmap ∧ s.bitmap < 512 ∧ 8 ≤ s.pages ∧ s.pages ≤ 512 := by
  obtain ⟨h1, h2, h3, h4, h5, h6, h7⟩ := h
  rcases h4 with ⟨h8, h9⟩ | ⟨h8, h9, h10, h11⟩ <;> omega
theorem parts5 (A B C D E : List UInt8) (hA : A.length = 8) (hB : B.length = 2) (hC : C.length = 1) (hD : D.length = 2) (hE : E.length = 2) :
    (A ++ B ++ C ++ D ++ E).take 8 = A ∧ ((A ++ B ++ C ++ D ++ E).drop 8).take 2 = B ∧ ((A ++ B ++ C ++ D ++ E).drop 10).take 1 = C ∧ ((A ++ B ++ C ++ D ++ E).drop 11).take 2 = D ∧ ((A ++ B ++ C ++ D ++ E).drop 13).take 2 = E := by
  refine ⟨?_, ?_, ?_, ?_, ?_⟩
  · rw [List.append_assoc, List.append_assoc, List.append_assoc]; exact List.take_left' hA
  · rw [List.append_assoc, List.append_assoc, List.append_assoc, List.drop_left' hA]; exact List.take_left' hB
  · rw [List.append_assoc, List.append_assoc, List.drop_left' (show (A ++ B).length = 10 by simp; omega)]; exact List.take_left' hC
  · rw [List.append_assoc, List.drop_left' (show (A ++ B ++ C).length = 11 by simp; omega)]; exact List.take_left' hD
  · rw [List.drop_left' (show (A ++ B ++ C ++ D).length = 13 by simp; omega)]; exact List.take_of_length_le (by omega)
theorem parse_sup {s : Sup} (h : okS s) (hg : s.gen < 18446744073709551616) : parseS (supB s) = s := by
  have hr := range_ok h
  obtain ⟨g, a, ht, b, p⟩ := s
  obtain ⟨e1, e2, e3, e4, e5⟩ := parts5 (be g 8) (be a.toNat 2) (be ht.toNat 1) (be b.toNat 2) (be p.toNat 2) (length_be _ _) (length_be _ _) (length_be _ _) (length_be _ _) (length_be _ _)
  simp only at hr hg
  unfold parseS supB
  simp only [e1, e2, e3, e4, e5]
  rw [val_be 8 _ (by omega), val_be 2 _ (by omega), val_be 1 _ (by omega), val_be 2 _ (by omega), val_be 2 _ (by omega)]
  simp only [Sup.mk.injEq, true_and]
  omega
theorem sup_parse {b : List UInt8} (h : b.length = 15) : supB (parseS b) = b := by
  unfold supB parseS
  simp only [Int.toNat_natCast]
  have l1 : (b.take 8).length = 8 := by simp; omega
  have l2 : ((b.drop 8).take 2).length = 2 := by simp; omega
  have l3 : ((b.drop 10).take 1).length = 1 := by simp; omega
  have l4 : ((b.drop 11).take 2).length = 2 := by simp; omega
  have l5 : ((b.drop 13).take 2).length = 2 := by simp; omega
  have f1 := be_val (b.take 8)
  have f2 := be_val ((b.drop 8).take 2)
  have f3 := be_val ((b.drop 10).take 1)
  have f4 := be_val ((b.drop 11).take 2)
  have f5 := be_val ((b.drop 13).take 2)
  rw [l1] at f1; rw [l2] at f2; rw [l3] at f3; rw [l4] at f4; rw [l5] at f5
  rw [f1, f2, f3, f4, f5]
  have t5 : (b.drop 13).take 2 = b.drop 13 := List.take_of_length_le (by simp; omega)
  rw [t5, ← List.take_add, ← List.take_add, ← List.take_add, List.take_append_drop]
theorem parse_lt (b : List UInt8) (h : b.length = 15) : (parseS b).gen < 18446744073709551616 ∧ 0 ≤ (parseS b).addr ∧ (parseS b).addr < 65536 ∧ 0 ≤ (parseS b).height ∧ (parseS b).height < 256 ∧ 0 ≤ (parseS b).bitmap ∧ (parseS b).bitmap < 65536 ∧ 0 ≤ (parseS b).pages ∧ (parseS b).pages < 65536 := by
  have l1 : (b.take 8).length = 8 := by simp; omega
  have l2 : ((b.drop 8).take 2).length = 2 := by simp; omega
  have l3 : ((b.drop 10).take 1).length = 1 := by simp; omega
  have l4 : ((b.drop 11).take 2).length = 2 := by simp; omega
  have l5 : ((b.drop 13).take 2).length = 2 := by simp; omega
  have f1 := val_lt (b.take 8)
  have f2 := val_lt ((b.drop 8).take 2)
  have f3 := val_lt ((b.drop 10).take 1)
  have f4 := val_lt ((b.drop 11).take 2)
  have f5 := val_lt ((b.drop 13).take 2)
  rw [l1] at f1; rw [l2] at f2; rw [l3] at f3; rw [l4] at f4; rw [l5] at f5
  unfold parseS
  dsimp only
  omega
end SupM
end Go.Proofs.Ytmmkmpjhmbocfaa
