/- ricklaw06.puts is true in every world. -/
import Derived.Test.YtanljjpjhihgcaaPkBack
namespace BitM
theorem pk77 : pk [7, 7] = [0, 0, 0, 0, 0, 0, 0, 7, 0] := by decide +kernel
end BitM
namespace Go.Proofs.Ytanljjpjhihgcaa
open Go.RowKit BitM RunM
set_option linter.unusedVariables false

theorem nats_two (w : World) (a b : Nat) (x y : Int) (t : TypeId) (hx : x = (a : Int)) (hy : y = (b : Int)) : NatsAt (w.alloc (.cells #[.int .u64 x, .int .u64 y] t)) (some ⟨w.heap.size, 0, none⟩) [a, b] := fun _ => by
  subst hx hy
  refine ⟨w.heap.size, 0, rfl, fun k hk => ?_⟩
  have : k = 0 ∨ k = 1 := by simp at hk; omega
  rcases this with rfl | rfl
  · rw [World.cell?_alloc_new]; rfl
  · rw [World.cell?_alloc_new]; rfl

theorem packGet_z (A : Option Addr) (len c n : Nat) (z : Int) (ns : List Nat) (rest X : List UInt8) (q : Nat) (w : World) (hz : z = (n : Int)) (hX : BytesAt w A X) (hXe : X = pk ns ++ rest) (hlen : X.length = len) (hq : (pk ns).length = q) (hl : len ≤ 1000000) (hc : len ≤ c) (hcm : c ≤ maxLen) (hpos : 0 < n) (hn2 : n ≤ 200) (hns : ns.length = n) (hm64 : ∀ v ∈ ns, v < 18446744073709551616) :
    Calls Try.prog 4 #[.slice A len c, .int .i64 z] w fun e w' => ∃ A' c', e = .returned (.tuple #[.slice A' n c', .int .i64 (q : Int), .int .i64 0]) ∧ NatsAt w' A' ns ∧ Below w.heap.size w w' := by
  subst hz hq
  exact packGet_pk A len c n ns rest X w hX hXe hlen hl hc hcm hpos hn2 hns hm64

set_option maxRecDepth 100000 in
theorem pkputs_any (w : World) : Calls Try.prog 5 #[] w fun e w' => e = .returned (.bool true) ∧ Below w.heap.size w w' := by
  have hm : ∀ v ∈ [7, 7], v < 18446744073709551616 := by decide
  have HM := Lib.hid hm
  clear hm
  go_enter Try.func5, Try.ntmps5
  have hb0 : Below w.heap.size w (w.alloc (.cells #[.int .u64 7, .int .u64 7] 34)) := (Below.refl _ _).alloc (Nat.le_refl _) _
  have hx0 := nats_two w 7 7 7 7 34 rfl rfl
  have hpl : (pk [7, 7]).length = 9 := by rw [pk77]; rfl
  have HPL := Lib.hid hpl
  clear hpl
  go_wp2_with (first
    | (go_at_call 10; with_reducible refine (packPut_any (some ⟨w.heap.size, 0, none⟩) 2 2 [7, 7] _ rfl hx0 (by omega) HM.out).mono ?_; rw [HPL.out]; rintro e w1 ⟨A1, c1, rfl, hx1, hb1, hc1, hm1⟩))
  go_loud (with_reducible refine (packGet_z A1 9 c1 2 2 [7, 7] [] (pk [7, 7]) 9 _ rfl hx1 (List.append_nil _).symm HPL.out HPL.out (by omega) hc1 hm1 (by omega) (by omega) rfl HM.out).mono ?_)
  rintro e w2 ⟨A2, c2, rfl, hx2, hb2⟩
  rw [pk77] at hx1
  obtain ⟨b1, o1, rfl, hcell⟩ := hx1 (by simp)
  obtain ⟨b2, o2, rfl⟩ := hx2.addr (by simp)
  have l1 := hx2.cell 1 (by decide)
  have hb01 := hb0.trans (hb1.mono hb0.size)
  have hbb : Below w.heap.size w w2 := hb01.trans (hb2.mono hb01.size)
  have m7 := (hb2.cell (p := ⟨b1, o1 + 7, none⟩) (World.block_lt_of_cell? _ _ (hcell 7 (by decide)))).trans (hcell 7 (by decide))
  have m8 := (hb2.cell (p := ⟨b1, o1 + 8, none⟩) (World.block_lt_of_cell? _ _ (hcell 8 (by decide)))).trans (hcell 8 (by decide))
  clear hcell hx1
  go_wp2_with fail

  go_ret
  exact ⟨rfl, hbb⟩
end Go.Proofs.Ytanljjpjhihgcaa
