/- What pack.Put lays is got back. -/
import Derived.Test.YtanljjpjhihgcaaDoorPkGet
namespace BitM
open Go.Proofs.YtanljjpjhihgcaaDoor (wi)
def fl (l : List Nat) : List (Nat × Int) := (lmin l, 64) :: (wid l, 8) :: pks l
theorem length_fl (l : List Nat) : (fl l).length = l.length + 2 := by simp [fl, length_pks]
theorem wi_64 : wi (64 : Int) = 64 := by decide
theorem wi_8 : wi (8 : Int) = 8 := by decide
theorem tot_pks1 (l : List Nat) (hw : wid l ≤ 64) : ∀ k, k ≤ l.length → (tot ((pks l).take k)).1 = k * wid l
  | 0, _ => by simp [tot]
  | k + 1, h => by
    rw [pks_succ l k (by omega) hw]
    simp only
    rw [tot_pks1 l hw k (by omega), Nat.add_mul, Nat.one_mul]
theorem lmin_lt {l : List Nat} (hne : l ≠ []) (hm : ∀ v ∈ l, v < 18446744073709551616) : lmin l < 18446744073709551616 := by
  cases l with
  | nil => exact absurd rfl hne
  | cons x r =>
    have h1 := lmin_le (l := x :: r) (y := x) (by simp)
    have h2 := hm x (by simp)
    omega
theorem tot_two (l : List Nat) (h64 : lmin l < 18446744073709551616) (hw : wid l ≤ 64) : tot ((fl l).take 2) = (72, lmin l * 256 + wid l) := by
  simp only [fl, List.take_succ_cons, List.take_zero, tot, List.foldl_cons, List.foldl_nil, wi_64, wi_8]
  rw [Nat.mod_eq_of_lt (show lmin l < 2 ^ 64 by simpa using h64), Nat.mod_eq_of_lt (show wid l < 2 ^ 8 by omega)]
  simp
theorem tot_fl (l : List Nat) (h64 : lmin l < 18446744073709551616) (hw : wid l ≤ 64) : ∀ k, k ≤ l.length →
    tot ((fl l).take (k + 2)) = (72 + (tot ((pks l).take k)).1, (lmin l * 256 + wid l) * 2 ^ (tot ((pks l).take k)).1 + (tot ((pks l).take k)).2)
  | 0, _ => by
    rw [tot_two l h64 hw]
    simp [tot]
  | k + 1, h => by
    have ih := tot_fl l h64 hw k (by omega)
    have hk : k + 2 < (fl l).length := by rw [length_fl]; omega
    have e := tot_succ (fl l) (k + 2) hk
    have hq : (fl l)[k + 2] = (l[k]'(by omega) - lmin l, (wid l : Int)) := by simp [fl, pks]
    have hwi : wi (wid l : Int) = wid l := by unfold wi; omega
    rw [hq, ih] at e
    simp only [hwi] at e
    rw [show k + 1 + 2 = k + 2 + 1 by omega, e, pks_succ l k (by omega) hw]
    simp only
    rw [pks_step, Nat.add_assoc]
theorem pk_tot {l : List Nat} (hne : l ≠ []) (hm : ∀ v ∈ l, v < 18446744073709551616) : pk l = bytesW (tot (fl l)).1 (tot (fl l)).2 := by
  have e := tot_fl l (lmin_lt hne hm) (wid_le l hm) l.length (Nat.le_refl _)
  rw [← length_fl, List.take_length, ← length_pks, List.take_length] at e
  rw [e]
  exact pk_cons hne hm
theorem pk_mid {l : List Nat} (hne : l ≠ []) (hm : ∀ v ∈ l, v < 18446744073709551616) (i : Nat) (hi : i < (fl l).length) :
    mid (valB (pk l)) (8 * (pk l).length) (tot ((fl l).take i)).1 ((tot ((fl l).take i)).1 + wi (fl l)[i].2) = (fl l)[i].1 % 2 ^ wi (fl l)[i].2 ∧ (tot ((fl l).take i)).1 + wi (fl l)[i].2 ≤ 8 * (pk l).length := by
  have hV := tot_lt (fl l) (fl l).length (Nat.le_refl _)
  have hmid := tot_mid (fl l) i (fl l).length hi (Nat.le_refl _)
  have hle := (tot_mono (fl l) (i + 1) ((fl l).length - (i + 1)) (by omega)).1
  rw [show i + 1 + ((fl l).length - (i + 1)) = (fl l).length by omega, tot_succ (fl l) i hi] at hle
  rw [List.take_length] at hV hmid hle
  simp only at hle
  have hl : (pk l).length = ((tot (fl l)).1 + 7) / 8 := by rw [pk_tot hne hm, length_bytesW]
  refine ⟨?_, by rw [hl]; omega⟩
  rw [hl, pk_tot hne hm, mid_bytesW _ _ _ _ hV hle]
  exact hmid
theorem pk_len {l : List Nat} (hne : l ≠ []) (hm : ∀ v ∈ l, v < 18446744073709551616) : (pk l).length = 9 + (l.length * wid l + 7) / 8 := by
  rw [pk_cons hne hm, length_bytesW]
  have e := tot_pks1 l (wid_le l hm) l.length (Nat.le_refl _)
  rw [← length_pks, List.take_length, length_pks] at e
  rw [e]
  omega
theorem pk_back {l : List Nat} (hne : l ≠ []) (hm : ∀ v ∈ l, v < 18446744073709551616) :
    mid (valB (pk l)) (8 * (pk l).length) 0 64 = lmin l ∧ mid (valB (pk l)) (8 * (pk l).length) 64 72 = wid l ∧
    ∀ k (h : k < l.length), (lmin l + mid (valB (pk l)) (8 * (pk l).length) (72 + k * wid l) (72 + k * wid l + wid l)) % 18446744073709551616 = l[k] ∧ 72 + k * wid l + wid l ≤ 8 * (pk l).length := by
  have h64 := lmin_lt hne hm
  have hw := wid_le l hm
  refine ⟨?_, ?_, fun k h => ?_⟩
  · have e := (pk_mid hne hm 0 (by rw [length_fl]; omega)).1
    have e0 : (fl l)[0]'(by rw [length_fl]; omega) = (lmin l, 64) := rfl
    simp only [e0, wi_64, List.take_zero] at e
    rw [show (tot []).1 = 0 from rfl] at e
    rw [e, Nat.mod_eq_of_lt (show lmin l < 2 ^ 64 by simpa using h64)]
  · have e := (pk_mid hne hm 1 (by rw [length_fl]; omega)).1
    have e0 : (fl l)[1]'(by rw [length_fl]; omega) = (wid l, 8) := rfl
    have e1 : (tot ((fl l).take 1)).1 = 64 := by simp [fl, tot, wi_64]
    simp only [e0, wi_8, e1] at e
    rw [e, Nat.mod_eq_of_lt (show wid l < 2 ^ 8 by omega)]
  · obtain ⟨e, e'⟩ := pk_mid hne hm (k + 2) (by rw [length_fl]; omega)
    have e0 : (fl l)[k + 2]'(by rw [length_fl]; omega) = (l[k] - lmin l, (wid l : Int)) := by simp [fl, pks]
    have hwi : wi (wid l : Int) = wid l := by unfold wi; omega
    have e1 : (tot ((fl l).take (k + 2))).1 = 72 + k * wid l := by
      rw [tot_fl l h64 hw k (by omega)]
      simp only
      rw [tot_pks1 l hw k (by omega)]
    simp only [e0, hwi, e1] at e e'
    refine ⟨?_, e'⟩
    have h1 := lmin_le (List.getElem_mem h)
    have h2 := le_lmax (List.getElem_mem h)
    have h3 : l[k] - lmin l < 2 ^ wid l := Nat.lt_of_le_of_lt (by omega) (lenB_lt (lmax l - lmin l))
    have h4 := hm _ (List.getElem_mem h)
    rw [e, Nat.mod_eq_of_lt h3]
    omega
end BitM
namespace Go.Proofs.YtanljjpjhihgcaaDoor
open Go.RowKit BitM RunM
set_option linter.unusedVariables false

/-- Get of what Put laid, whatever stands behind. -/
theorem packGet_pk (A : Option Addr) (len c n : Nat) (ns : List Nat) (rest X : List UInt8) (w : World) (hX : BytesAt w A X) (hXe : X = pk ns ++ rest) (hlen : X.length = len) (hl : len ≤ 1000000) (hc : len ≤ c) (hcm : c ≤ maxLen) (hpos : 0 < n) (hn2 : n ≤ 200) (hns : ns.length = n) (hm64 : ∀ v ∈ ns, v < 18446744073709551616) :
    Calls Tryd.prog 75 #[.slice A len c, .int .i64 (n : Int)] w fun e w' => ∃ A' c', e = .returned (.tuple #[.slice A' n c', .int .i64 ((pk ns).length : Int), .int .i64 0]) ∧ NatsAt w' A' ns ∧ Below w.heap.size w w' := by
  have hne : ns ≠ [] := by intro h; subst h; simp at hns; omega
  obtain ⟨b1, b2, b3⟩ := pk_back hne hm64
  have hpl := pk_len hne hm64
  have hw := wid_le ns hm64
  have hlen2 : len = (pk ns).length + rest.length := by rw [← hlen, hXe, List.length_append]
  have hfr : ∀ p q, q ≤ 8 * (pk ns).length → mid (valB X) (8 * len) p q = mid (valB (pk ns)) (8 * (pk ns).length) p q := fun p q hq => by
    rw [hXe, hlen2]
    exact mid_front _ _ _ _ hq
  rw [hns] at hpl
  have h72 : 72 ≤ 8 * (pk ns).length := by omega
  refine packGet_good A len c n X ns (lmin ns) (wid ns) (pk ns).length w hX hlen hl hc hcm hpos hn2 ((hfr _ _ (by omega)).trans b1) ((hfr _ _ h72).trans b2) hw hpl (by omega) hns hm64 (fun k h => ?_) ?_
  · obtain ⟨c1, c2⟩ := b3 k h
    rw [hfr _ _ c2]
    exact c1
  · rw [hXe, List.take_left]
end Go.Proofs.YtanljjpjhihgcaaDoor
