/- The walk of VarintRows. -/
import Derived.Test.YtanljjpjhihgcaaDoorVarLaws
import Derived.Test.YtanljjpjhihgcaaDoorRowKit
namespace Go.Proofs.YtanljjpjhihgcaaDoor
open Go.RowKit VarM
set_option linter.unusedVariables false

/-- Numbers side by side. -/
def vall (l : List Nat) : List UInt8 := l.flatMap vput
theorem vall_snoc (l : List Nat) (n : Nat) : vall (l ++ [n]) = vall l ++ vput n := by simp [vall]
theorem vall_len (l : List Nat) (h : ∀ n ∈ l, n < 18446744073709551616) : (vall l).length ≤ 10 * l.length := by
  induction l with
  | nil => simp [vall]
  | cons a l ih =>
    have h1 := ih (fun n hn => h n (by simp [hn]))
    have h2 := vput_len10 (h a (by simp))
    simp only [vall, List.flatMap_cons, List.length_append, List.length_cons] at *
    omega

theorem put_more (A : Option Addr) (n c : Nat) (xs : List UInt8) (w : World) (hn : xs.length = n) (hx : BytesAt w A xs) (hl : n ≤ 100000000) (h0 : A = none → n = 0 ∧ c = 0) (v : Nat) (hv : v < 18446744073709551616) :
    Calls Tryd.prog 49 #[.slice A n c, .int .u64 v] w fun e w' => ∃ A' c', e = .returned (.slice A' (xs ++ vput v).length c') ∧ BytesAt w' A' (xs ++ vput v) ∧ (xs ++ vput v).length ≤ c' ∧ c' ≤ maxLen ∧ (A' = none → (xs ++ vput v).length = 0 ∧ c' = 0) ∧ Below w.heap.size w w' := by
  refine (put_any A n c xs w hn hx hl h0 v hv).mono ?_
  rintro e w' ⟨A', c', rfl, ho, hb⟩
  obtain ⟨A2, c2, he, hby, hl, hm, _⟩ := ho.slice
  injection he with h1 h2 h3
  subst h1
  subst h3
  refine ⟨A', c', rfl, hby, hl, hm, ?_, hb⟩
  rintro rfl
  rcases ho.cases with ⟨h4, h5⟩ | ⟨g, cap, h4, _⟩
  · injection h4 with _ h6 h7
    exact ⟨h6, h7⟩
  · injection h4 with h6
    cases h6

theorem get_more (A : Option Addr) (n c : Nat) (X rest : List UInt8) (w : World) (v : Nat) (q : Nat) (hq : q = (vput v).length) (hX : X = vput v ++ rest) (hn : X.length = n) (hx : BytesAt w A X) (hv : v < 18446744073709551616) :
    Calls Tryd.prog 72 #[.slice A n c] w fun e w' => e = .returned (.tuple #[.int .u64 (v : Int), .int .i64 (q : Int), .int .i64 0]) ∧ w = w' := by
  subst hq
  have h := get_any A n c X w hn hx
  have e := vget_put rest v 0 0 (by omega) (by simpa using hv) (fun h => absurd h (by omega))
  rw [hX, e] at h
  simpa using h

/-- The first m of the numbers that came in. -/
def natsOf (zs : List Int) (m : Nat) : List Nat := (zs.take m).map Int.toNat
theorem natsOf_succ (zs : List Int) (m : Nat) (h : m < zs.length) : natsOf zs (m + 1) = natsOf zs m ++ [zs[m].toNat] := by
  unfold natsOf
  rw [List.take_succ_eq_append_getElem h, List.map_append]
  rfl

end Go.Proofs.YtanljjpjhihgcaaDoor
