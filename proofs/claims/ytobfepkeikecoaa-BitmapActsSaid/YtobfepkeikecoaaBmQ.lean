/- Get of whatever bytes; how a map that came in is told to a walk. -/
import Derived.Test.YtobfepkeikecoaaBmO
import Derived.Test.YtobfepkeikecoaaBmW
import Derived.Test.YtobfepkeikecoaaRowKit
import Derived.Lib.SmallJoins
namespace Go.Proofs.Ytobfepkeikecoaa
open Go.ChangeShapes Go.WideShapes Go.ChangeAt Go.RowKit Go.Joins PageM
set_option linter.unusedVariables false

/-- Are some bytes those of a map? -/
def goodM (xs : List UInt8) : Prop := 2 ≤ xs.length ∧ bmPut (gotP xs : Int) (gotU xs) = xs
instance (xs : List UInt8) : Decidable (goodM xs) := by unfold goodM; infer_instance
def toldMC (xs : List UInt8) : Array Value := if goodM xs then mapC (gotP xs : Int) (gotU xs) else mapC 0 (List.replicate 512 false)
def numM (xs : List UInt8) : Nat := if goodM xs then 0 else 3

set_option maxHeartbeats 1000000 in
set_option maxRecDepth 100000 in
theorem get_few (A : Option Addr) (cap n : Nat) (w : World) (h : n < 2) (C : Array Value) (eC : C = mapC 0 (List.replicate 512 false)) :
    Calls Try.prog 17 #[.slice A n cap] w fun e w' => e = .returned (.tuple #[.agg C, .int .i64 3]) ∧ Below w.heap.size w w' := by
  have hz : Hid ((w.alloc (.cells Try.zeroCells25 25)).heap[w.heap.size]? = some (.cells Try.zeroCells25 25 (0, 0))) := Lib.hid (heap_alloc_new _ _)
  have h2i : decide ((n : Int) < 2) = true := by simp; omega
  have EC := Lib.hid eC
  clear eC
  go_enter Try.func17, Try.ntmps17
  go_wp2_with (refine wpList_store_row rfl 25 (.tmp 2) (.tmp 9) rfl w.heap.size Try.zeroCells25 rfl rfl 25 Try.zeroCells25 hz.out infoZero rfl one_zeroMap ?_)
  refine bodyPost_ret (v := .tuple #[.agg Try.zeroCells25, .int .i64 3]) (results_cell_tmpB (p := 2) (u := 3) (ty := 25) rfl _ _ w.heap.size 25 Try.zeroCells25 (0, 0) _ rfl (setRow_heap _ _ _ _ _ _ hz.out) Try.underlying25 rfl infoZero) rfl ⟨?_, below_setRow ((Below.refl _ _).alloc (Nat.le_refl _) _) (Nat.le_refl _) _⟩
  rw [EC.out, zeroMap]

theorem get_all (A : Option Addr) (cap n : Nat) (xs : List UInt8) (w : World) (hn : xs.length = n) (hm : n ≤ 100000) (hx : BytesAt w A xs) (hc : n ≤ cap) (C : Array Value) (eC : C = toldMC xs) (rn : Nat) (ern : rn = numM xs) :
    Calls Try.prog 17 #[.slice A n cap] w fun e w' => e = .returned (.tuple #[.agg C, .int .i64 (rn : Int)]) ∧ Below w.heap.size w w' := by
  by_cases h2 : 2 ≤ n
  · refine get_bm A cap n xs w hn h2 hm hx hc C rn ?_ ?_
    · rw [eC]
      by_cases hg : bmPut (gotP xs : Int) (gotU xs) = xs
      · rw [if_pos hg]; exact if_pos ⟨by omega, hg⟩
      · rw [if_neg hg]; exact if_neg (fun h => hg h.2)
    · rw [ern]
      by_cases hg : bmPut (gotP xs : Int) (gotU xs) = xs
      · rw [if_pos hg]; exact if_pos ⟨by omega, hg⟩
      · rw [if_neg hg]; exact if_neg (fun h => hg h.2)
  · have hg : ¬ goodM xs := fun h => by have := h.1; omega
    have e1 : numM xs = 3 := if_neg hg
    have e2 : toldMC xs = mapC 0 (List.replicate 512 false) := if_neg hg
    rw [ern, e1]
    exact get_few A cap n w (by omega) C (by rw [eC, e2])

theorem good_ok {xs : List UInt8} (h : goodM xs) : okM (gotP xs : Int) (gotU xs) ∧ bmN (gotP xs) (gotU xs) (gotP xs) = xs := by
  obtain ⟨h1, h2⟩ := h
  unfold bmPut at h2
  by_cases hok : okM (gotP xs : Int) (gotU xs)
  · rw [if_pos hok, Int.toNat_natCast] at h2
    exact ⟨hok, h2⟩
  · rw [if_neg hok] at h2
    rw [← h2] at h1
    simp at h1
theorem length_gotU (xs : List UInt8) : (gotU xs).length = 512 := length_getN _ _

/-- Put of whatever map. -/
theorem put_all (p : Int) (U : List Bool) (hU : U.length = 512) (w : World) (C : Array Value) (eC : C = mapC p U) (X : List UInt8) (hX : X = bmPut p U) :
    Calls Try.prog 16 #[.agg C] w fun e w' => (∃ A n c, e = .returned (.slice A n c) ∧ X.length = n ∧ n ≤ c ∧ BytesAt w' A X) ∧ Below w.heap.size w w' := by
  by_cases hok : okM p U
  · obtain ⟨q, rfl⟩ := Int.eq_ofNat_of_zero_le (show 0 ≤ p by have := hok.1; omega)
    have e1 : bmPut (q : Int) U = bmN q U q := by unfold bmPut; rw [if_pos hok, Int.toNat_natCast]
    refine (put_bm q U hU hok w C eC _ rfl).mono fun e w' ⟨g, h1, h2, h3⟩ => ⟨⟨_, _, _, h1, ?_, Nat.le_refl _, ?_⟩, h3⟩
    · rw [hX, e1, length_bmN]
    · rw [hX, e1]; exact h2.bytes
  · have e1 : bmPut p U = [] := if_neg hok
    refine (put_no p U hU hok w C eC).mono fun e w' ⟨h1, h3⟩ => ⟨⟨none, 0, 0, h1, ?_, Nat.le_refl _, ?_⟩, h3⟩
    · rw [hX, e1]; rfl
    · rw [hX, e1]; exact fun h => absurd rfl h
theorem put_rf_all (p : Int) (U : List Bool) (hU : U.length = 512) (w : World) (C : Array Value) (eC : C = mapC p U) (X : List UInt8) (hX : X = bmPut p U) :
    Calls Try.prog 18 #[.agg C] w fun e w' => (∃ A n c, e = .returned (.slice A n c) ∧ X.length = n ∧ n ≤ c ∧ BytesAt w' A X) ∧ Below w.heap.size w w' := by
  by_cases hok : okM p U
  · obtain ⟨q, rfl⟩ := Int.eq_ofNat_of_zero_le (show 0 ≤ p by have := hok.1; omega)
    have e1 : bmPut (q : Int) U = bmN q U q := by unfold bmPut; rw [if_pos hok, Int.toNat_natCast]
    refine (put_rf q U hU hok w C eC _ rfl).mono fun e w' ⟨g, h1, h2, h3⟩ => ⟨⟨_, _, _, h1, ?_, Nat.le_refl _, ?_⟩, h3⟩
    · rw [hX, e1, length_bmN]
    · rw [hX, e1]; exact h2.bytes
  · have e1 : bmPut p U = [] := if_neg hok
    refine (put_rf_no p U hU hok w C eC).mono fun e w' ⟨h1, h3⟩ => ⟨⟨none, 0, 0, h1, ?_, Nat.le_refl _, ?_⟩, h3⟩
    · rw [hX, e1]; rfl
    · rw [hX, e1]; exact fun h => absurd rfl h

set_option maxRecDepth 100000 in
theorem open_map {H : Type} {enc : TypeId × Value → H} {W : World} {base b0 : Nat} {spare : Nat → Bool} {held : Bool} {r : Reach} {v : Value} {d : DataW H} {p : List MemPlace}
    (hv : Value.okWide Try.prog W r b0 27 v) (h : DataW.Trod enc Try.prog W base spare held 27 v d p) :
    ∃ (z : Int) (U : List Bool), U.length = 512 ∧ v = .agg (mapC z U) := by
  obtain ⟨cs, rfl, hsz⟩ := okWide_struct Try.underlying27 hv
  have hsz' : cs.size = 513 := hsz.trans (by kernel_rfl)
  obtain ⟨fuel, hf⟩ := h
  obtain ⟨xs, n, _, _, hl, hlen, hx⟩ := DataW.trod_struct Try.underlying27 hf
  have ki : Try.prog.cellsOf 3 = 1 := by kernel_rfl
  have ka : Try.prog.cellsOf 23 = 512 := by kernel_rfl
  have kb : Try.prog.cellsOf 4 = 1 := by kernel_rfl
  have hs2 : xs.length = 2 := hlen
  have h0 : DataW.trod enc Try.prog W base spare held n 3 ((cs.toList.drop 0).take (Try.prog.cellsOf 3)) = some (xs[0]'(by omega)) := (hx 0 _ rfl).trans (List.getElem?_eq_getElem (by omega))
  have h1 : DataW.trod enc Try.prog W base spare held n 23 ((cs.toList.drop 1).take (Try.prog.cellsOf 23)) = some (xs[1]'(by omega)) := (hx 1 _ rfl).trans (List.getElem?_eq_getElem (by omega))
  rw [ki] at h0
  rw [ka] at h1
  obtain ⟨z, e0, _⟩ := DataW.trod_int Try.underlying3 h0
  obtain ⟨ys, m, _, _, _, hly, hy⟩ := DataW.trod_array (by kernel_rfl : Try.prog.underlying 23 = some (.array 512 4)) h1
  rw [kb] at hy
  have c0 : cs[0]? = some (.int .i64 z) := by
    have := congrArg (fun l : List Value => l[0]?) e0
    simpa using this
  have hb : ∀ i, i < 512 → ∃ b, cs[1 + i]? = some (.bool b) := fun i hi => by
    have h2 := (hy i hi).trans (List.getElem?_eq_getElem (by omega))
    obtain ⟨b, e2, _⟩ := DataW.trod_bool Try.underlying4 h2
    have := congrArg (fun l : List Value => l[0]?) e2
    refine ⟨b, ?_⟩
    simp only [Nat.mul_one] at this
    rw [List.getElem?_take, if_pos (by omega), List.getElem?_drop, List.getElem?_take, if_pos (by omega), List.getElem?_drop] at this
    simpa using this
  refine ⟨z, (List.range 512).map (fun i => match cs[1 + i]? with | some (Value.bool b) => b | _ => false), by simp, ?_⟩
  congr 1
  apply Array.ext_getElem?
  intro k
  have hgl : ∀ (l : List Value) (k : Nat), (l.toArray)[k]? = l[k]? := fun l k => by simp
  unfold mapC
  rw [hgl (_ :: _) k]
  rcases Nat.eq_zero_or_pos k with rfl | hk
  · rw [c0]; rfl
  · obtain ⟨j, rfl⟩ : ∃ j, k = j + 1 := ⟨k - 1, by omega⟩
    rw [List.getElem?_cons_succ]
    by_cases hj : j < 512
    · obtain ⟨b, hb1⟩ := hb j hj
      rw [Nat.add_comm] at hb1
      rw [hb1, List.getElem?_map, List.getElem?_map, List.getElem?_range hj]
      simp only [Option.map_some]
      rw [Nat.add_comm 1 j, hb1]
    · rw [Array.getElem?_eq_none (by omega), List.getElem?_eq_none (by simp; omega)]
end Go.Proofs.Ytobfepkeikecoaa
