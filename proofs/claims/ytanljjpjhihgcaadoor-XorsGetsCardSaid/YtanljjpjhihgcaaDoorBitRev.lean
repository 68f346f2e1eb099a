/- slices.Reverse of numbers in a row that a call owns: its contract. -/
import Derived.Test.YtanljjpjhihgcaaDoorRunPut
import Derived.Test.YtanljjpjhihgcaaDoorRunGet
import Derived.BigRegion
import Derived.RegionTactic
namespace Go.Proofs.YtanljjpjhihgcaaDoor
open Go.RowKit
set_option linter.unusedVariables false

/-- The first t and the last t places are changed over. -/
def turned (ns : List Nat) (t : Nat) : List Nat := (List.range ns.length).map fun i => if i < t ∨ ns.length - t ≤ i then ns.getD (ns.length - 1 - i) 0 else ns.getD i 0
theorem turned_len (ns : List Nat) (t : Nat) : (turned ns t).length = ns.length := by simp [turned]
theorem turned_get (ns : List Nat) (t i : Nat) (h : i < (turned ns t).length) : (turned ns t)[i] = if i < t ∨ ns.length - t ≤ i then ns.getD (ns.length - 1 - i) 0 else ns.getD i 0 := by simp [turned]
theorem turned_zero (ns : List Nat) : turned ns 0 = ns := by
  apply List.ext_getElem
  · exact turned_len ns 0
  · intro i h1 h2
    rw [turned_get, if_neg (by omega)]
    simp [h2]
theorem turned_all (ns : List Nat) (t : Nat) (h : ns.length ≤ 2 * t + 1) : turned ns t = ns.reverse := by
  apply List.ext_getElem
  · rw [turned_len, List.length_reverse]
  · intro i h1 h2
    rw [turned_len] at h1
    rw [turned_get, List.getElem_reverse]
    by_cases h3 : i < t ∨ ns.length - t ≤ i
    · rw [if_pos h3, List.getD_eq_getElem?_getD, List.getElem?_eq_getElem (by omega), Option.getD_some]
    · rw [if_neg h3, List.getD_eq_getElem?_getD, List.getElem?_eq_getElem (by omega), Option.getD_some]
      congr 1
      omega
theorem turned_step (ns : List Nat) (t : Nat) (h : t < ns.length - 1 - t) (a b : Nat) (ha : a = ns.getD t 0) (hb : b = ns.getD (ns.length - 1 - t) 0) :
    ((turned ns t).set t b).set (ns.length - 1 - t) a = turned ns (t + 1) := by
  apply List.ext_getElem
  · simp [turned_len]
  · intro i h1 h2
    rw [turned_len] at h2
    rw [List.getElem_set, List.getElem_set, turned_get, turned_get]
    by_cases e1 : ns.length - 1 - t = i
    · rw [if_pos e1, if_pos (by omega), ha]
      congr 1
      omega
    · rw [if_neg e1]
      by_cases e2 : t = i
      · rw [if_pos e2, if_pos (by omega), hb, e2]
      · rw [if_neg e2]
        by_cases e3 : i < t ∨ ns.length - t ≤ i
        · rw [if_pos e3, if_pos (by omega)]
        · rw [if_neg e3, if_neg (by omega)]

set_option maxHeartbeats 1000000 in
set_option maxRecDepth 100000 in
theorem reverse_any (base g n c : Nat) (ns : List Nat) (w : World) (ho : OwnN w base (.slice (some ⟨g, 0, none⟩) n c) ns) (hl : n ≤ 100000000) :
    Calls Tryd.prog 61 #[.slice (some ⟨g, 0, none⟩) n c] w fun e w' => e = .returned (.tuple #[]) ∧ OwnN w' base (.slice (some ⟨g, 0, none⟩) n c) ns.reverse ∧ Below base w w' := by
  have hn := ho.caps.1
  have hn1 : IntKind.i64.wrap ((n : Int) - 1) = (n : Int) - 1 := IntWalk.i64_in _ (by omega)
  go_enter Tryd.func61, Tryd.ntmps61
  go_wp2_with fail
  go_loopw [2, 3] (fun i j wr => ∃ t : Nat, 2 * t ≤ n ∧ i = .int .i64 (t : Int) ∧ j = .int .i64 ((n : Int) - 1 - (t : Int)) ∧ OwnN wr base (.slice (some ⟨g, 0, none⟩) n c) (turned ns t) ∧ Below base w wr) (fun i _ _ => n - (intOf i).toNat)
  case atStart => exact ⟨0, by omega, rfl, by congr 1; omega, by rw [turned_zero]; exact ho, Below.refl _ _⟩
  case round =>
    obtain ⟨t, ht, rfl, rfl, hot, hb⟩ := hrel
    by_cases hlt : (t : Int) < (n : Int) - 1 - (t : Int)
    · obtain ⟨u, hu⟩ : ∃ u, u = n - 1 - t := ⟨_, rfl⟩
      have hui : (n : Int) - 1 - (t : Int) = (u : Int) := by omega
      rw [hui] at hlt ⊢
      obtain ⟨r1, r2, r3, r4, r5, r6, r7⟩ := OwnV.row hot
      have tl := turned_len ns t
      have ct := r6 t (by rw [r2]; omega)
      have cu := r6 u (by rw [r2]; omega)
      rw [List.getElem_map, turned_get, if_neg (by omega)] at ct cu
      have ft := r7 t
      have fu := r7 u
      obtain ⟨a, ha⟩ : ∃ a, a = ns.getD t 0 := ⟨_, rfl⟩
      obtain ⟨b, hbv⟩ : ∃ b, b = ns.getD u 0 := ⟨_, rfl⟩
      rw [← ha] at ct
      rw [← hbv] at cu
      unfold uv at ct cu
      have hst := turned_step ns t (by omega) a b ha (by rw [hbv, hu, hn])
      rw [hn, ← hu] at hst
      have hut : ¬ u = t := by omega
      have htu : ¬ t = u := by omega
      have htn : t < n := by omega
      have hun : u < n := by omega
      have HU := Lib.hid hu
      have HST := Lib.hid hst
      clear r6 r7 hui hst ha hbv hu
      go_wp2_with fail
      go_region
      go_wp2_with fail
      go_roundw
      case rel =>
        have h1 := OwnV.stored (OwnV.stored hot t (uv b)) u (uv a)
        have h2 : (((turned ns t).map uv).set t (uv b)).set u (uv a) = (turned ns (t + 1)).map uv := by rw [← HST.out, List.map_set, List.map_set]
        rw [h2] at h1
        have hu := HU.out
        refine ⟨t + 1, by omega, by go_num, ?_, h1, ?_⟩
        · congr 1
          omega
        · exact ((hb.setCell r1 _).setCell r1 _).drew
      case measure => simp [intOf]; omega
    · go_wp2_with fail
      refine bodyPost_end (results_none rfl _ _ _) rfl ?_
      have := turned_all ns t (by omega)
      rw [this] at hot
      exact ⟨rfl, hot, hb⟩
end Go.Proofs.YtanljjpjhihgcaaDoor
