/- What a load builds: a tree whose nodes are full but the last of each level; how many nodes are read for so many entries. No program is named here. -/
import Derived.Test.YtgkddhncfaeidaaPart27
import Derived.Test.YtgkddhncfaeidaaPart30
import Derived.Test.YtgkddhncfaeidaaPart02
set_option linter.unusedSimpArgs false
set_option linter.unusedVariables false
namespace Go.Proofs.Ytgkddhncfaeidaa
open Go.RowKit CrcM PageM
set_option linter.unusedVariables false

/-! ### Pages are taken one behind the other -/
theorem picks_from (p : Nat) (hp : p ≤ 512) : ∀ (n s : Nat) (U : List Bool), U.length = 512 → (∀ j, U.getD j false = decide (j < s)) → (∀ j, 2 ≤ j → map0.getD j false = false) → 2 ≤ s → s + n ≤ p → Picks p map0 U (List.range' s n)
  | 0, _, _, _, _, _, _, _ => trivial
  | n + 1, s, U, hU, hs, h0, h2, hn => by
    rw [List.range'_succ]
    refine ⟨⟨⟨by omega, fun j hj => ?_⟩, fun a' ha' hf => ?_⟩, picks_from p hp n (s + 1) (markN U s true 1) (by rw [length_markN]; exact hU) (fun j => ?_) h0 (by omega) (by omega)⟩
    · obtain rfl : j = 0 := by omega
      exact ⟨by rw [hs]; simp, h0 _ (by omega)⟩
    · have h1 := (hf.2 0 (by decide)).1
      rw [hs] at h1
      simp at h1
      omega
    · rw [getD_markN U s true j 1 (by omega), hs]
      by_cases h : s ≤ j ∧ j < s + 1
      · rw [if_pos h]
        exact (decide_eq_true h.2).symm
      · rw [if_neg h]
        exact decide_eq_decide.2 (by omega)
theorem orK_self {U : List Bool} (hU : U.length = 512) : orK U U 512 = U := by
  refine List.ext_getElem (length_orK U U 512) fun i h1 h2 => ?_
  have h := getD_orK U U i 512 (by rw [hU]; exact Nat.le_refl _)
  rw [if_pos (by omega), Bool.or_self] at h
  rw [List.getD_eq_getElem?_getD, List.getD_eq_getElem?_getD, List.getElem?_eq_getElem h1, List.getElem?_eq_getElem h2] at h
  exact h
theorem picks_new (p n : Nat) (hp : p ≤ 512) (hn : 2 + n ≤ p) : Picks p map0 map0 (List.range' 2 n) :=
  picks_from p hp n 2 map0 length_map0 get_map0 (fun j hj => by rw [get_map0]; exact decide_eq_false (by omega)) (Nat.le_refl _) hn

/-! ### The tree -/
def capH (h : Nat) : Nat := 7 * 16 ^ h
theorem capH_succ (h : Nat) : capH (h + 1) = 16 * capH h := by unfold capH; rw [Nat.pow_succ]; omega
theorem capH_pos (h : Nat) : 0 < capH h := Nat.mul_pos (by decide) (Nat.pow_pos (by decide))
/-- How many nodes are read for the first k entries beneath a node of this height. -/
def ND : Nat → Nat → Nat
  | 0, k => (k + 6) / 7
  | h + 1, k => ND h k + (k + capH (h + 1) - 1) / capH (h + 1)
/-- All parts but the last are full. -/
def fullB (c : Nat) (l : List Nat) : Prop := (∀ i, i + 1 < l.length → l[i]? = some c) ∧ ∀ x ∈ l, 1 ≤ x ∧ x ≤ c
/-- The entries beneath a node; which pages hold its children's nodes. -/
def Sub (rd : Nat → NodeD → Prop) : Nat → NodeD → List EntD → Prop
  | 0, n, es => n.leaf = true ∧ n.es = es ∧ n.ds = []
  | h + 1, n, es => n.leaf = false ∧ n.es = [] ∧ ∃ parts : List (Nat × (NodeD × List EntD)), n.ds = parts.map (fun x => kidI x.1) ∧ (∀ x ∈ parts, rd x.1 x.2.1 ∧ Sub rd h x.2.1 x.2.2) ∧ es = parts.flatMap (fun x => x.2.2) ∧ fullB (capH h) (parts.map fun x => x.2.2.length) ∧ parts.length ≤ 16 ∧ 1 ≤ parts.length
theorem ceil_add (i m c r : Nat) (hc : 0 < c) : (i * (m * c) + r + c - 1) / c = i * ((m * c + c - 1) / c) + (r + c - 1) / c := by
  have e1 : i * (m * c) + r + c - 1 = (r + c - 1) + (i * m) * c := by rw [Nat.mul_assoc]; omega
  have e2 : m * c + c - 1 = (c - 1) + m * c := by omega
  rw [e1, e2, Nat.add_mul_div_right _ _ hc, Nat.add_mul_div_right _ _ hc, Nat.div_eq_of_lt (by omega : c - 1 < c), Nat.zero_add, Nat.add_comm]
theorem ND_add (h i r : Nat) : ∀ j, j ≤ h → ND j (i * capH h + r) = i * ND j (capH h) + ND j r
  | 0, _ => by
    have h1 := ceil_add i (16 ^ h) 7 r (by decide)
    have e1 : capH h = 16 ^ h * 7 := Nat.mul_comm _ _
    rw [ND, ND, ND, e1]
    exact h1
  | j + 1, hj => by
    have e1 : capH h = 16 ^ (h - (j + 1)) * capH (j + 1) := by
      unfold capH
      rw [← Nat.mul_assoc, Nat.mul_comm (16 ^ (h - (j + 1))) 7, Nat.mul_assoc, ← Nat.pow_add]
      congr 2
      omega
    have h1 := ceil_add i (16 ^ (h - (j + 1))) (capH (j + 1)) r (capH_pos _)
    rw [← e1] at h1
    rw [ND, ND, ND, ND_add h i r j (by omega), h1, Nat.mul_add]
    omega
theorem ceil_one {k c : Nat} (h1 : 1 ≤ k) (h2 : k ≤ c) : (k + c - 1) / c = 1 := by
  refine Nat.div_eq_of_lt_le ?_ ?_ <;> omega
theorem ND_full (h i r : Nat) (h1 : 1 ≤ r) (h2 : r ≤ capH h) (hi : i < 16) : ND (h + 1) (i * capH h + r) = 1 + i * ND h (capH h) + ND h r := by
  have h3 : i * capH h ≤ 15 * capH h := Nat.mul_le_mul_right _ (by omega)
  rw [ND, ND_add h i r h (Nat.le_refl _), ceil_one (by omega) (by rw [capH_succ]; omega)]
  omega

theorem ND_pos : ∀ (h : Nat) {k : Nat}, 1 ≤ k → 1 ≤ ND h k
  | 0, k, hk => by rw [ND]; omega
  | h + 1, k, hk => by rw [ND]; exact Nat.le_trans (ND_pos h hk) (Nat.le_add_right _ _)

/-! ### Parts of lists -/
theorem fullB.part {c : Nat} {l : List Nat} (h : fullB c l) (a b : Nat) : fullB c ((l.drop a).take b) := by
  refine ⟨fun i hi => ?_, fun x hx => h.2 x (List.mem_of_mem_drop (List.mem_of_mem_take hx))⟩
  rw [List.length_take, List.length_drop] at hi
  rw [List.getElem?_take, if_pos (by omega), List.getElem?_drop]
  exact h.1 _ (by omega)
theorem chunk_flat {α : Type} (m : Nat) (l : List α) : ∀ k, ((chs 16 l.length k).map fun x => (l.drop x.1).take x.2).flatten = l.take (16 * k)
  | 0 => by simp [chs]
  | k + 1 => by
    rw [chs_succ, List.map_append, List.flatten_append, chunk_flat m l k, Nat.mul_succ, List.take_add]
    congr 1
    simp only [List.map_cons, List.map_nil, List.flatten_cons, List.flatten_nil, List.append_nil]
    rcases Nat.le_total 16 (l.length - 16 * k) with h | h
    · rw [Nat.min_eq_left h]
    · rw [Nat.min_eq_right h, List.take_of_length_le (by rw [List.length_drop]; exact Nat.le_refl _), List.take_of_length_le (by rw [List.length_drop]; exact h)]
theorem flat_flat {α β : Type} (f : α → List β) : ∀ L : List (List α), L.flatten.flatMap f = L.flatMap fun l => l.flatMap f
  | [] => rfl
  | l :: L => by rw [List.flatten_cons, List.flatMap_append, flat_flat f L, List.flatMap_cons]
theorem sum_le {c : Nat} : ∀ {l : List Nat}, (∀ x ∈ l, x ≤ c) → l.sum ≤ l.length * c
  | [], _ => by simp
  | x :: l, h => by
    rw [List.sum_cons, List.length_cons, Nat.succ_mul]
    have h1 := h x (by simp)
    have h2 := sum_le (fun y hy => h y (List.mem_cons_of_mem _ hy))
    omega
theorem sum_eq {c : Nat} : ∀ {l : List Nat}, (∀ x ∈ l, x = c) → l.sum = l.length * c
  | [], _ => by simp
  | x :: l, h => by
    rw [List.sum_cons, List.length_cons, Nat.succ_mul, h x (by simp), sum_eq (fun y hy => h y (List.mem_cons_of_mem _ hy))]
    omega
theorem sum_pos {l : List Nat} (h : ∀ x ∈ l, 1 ≤ x) (hl : 1 ≤ l.length) : 1 ≤ l.sum := by
  cases l with
  | nil => simp at hl
  | cons x l => rw [List.sum_cons]; have := h x (by simp); omega

/-! ### What stands above a level of full nodes -/
theorem tops_sub {rd : Nat → NodeD → Prop} {ps : List NodeD} {h : Nat} {L : List (Nat × NodeD)} {n : NodeD} {h' : Nat} (t : Tops ps h L n h') :
    ∀ (g : Nat) (ts : List (NodeD × List EntD)), h = g + 1 → ps = ts.map Prod.fst → (∀ x ∈ ts, Sub rd g x.1 x.2) → fullB (capH g) (ts.map fun x => x.2.length) → (∀ x ∈ L, rd x.1 x.2) →
    ∃ g', h' = g' + 1 ∧ Sub rd g' n (ts.flatMap fun x => x.2) ∧ 1 ≤ (ts.flatMap fun x => x.2).length ∧ (ts.flatMap fun x => x.2).length ≤ capH g' ∧ ∀ j, g ≤ j → j < g' → capH j < (ts.flatMap fun x => x.2).length := by
  induction t with
  | stop n h =>
    intro g ts hg hp hs hf hL
    obtain ⟨x, rfl⟩ : ∃ x, ts = [x] := by
      cases ts with
      | nil => cases hp
      | cons x ts =>
        cases ts with
        | nil => exact ⟨x, rfl⟩
        | cons y ts => simp at hp
    have e1 : [x].flatMap (fun x => x.2) = x.2 := by simp
    rw [e1]
    obtain rfl : n = x.1 := by simpa using hp
    have h1 := hf.2 x.2.length (by simp)
    exact ⟨g, hg, hs x (by simp), h1.1, h1.2, fun j h1 h2 => by omega⟩
  | step ps h qs L n h' h2 hq h5 t ih =>
    intro g ts hg hp hs hf hL
    have hlt : ts.length = ps.length := by rw [hp, List.length_map]
    obtain ⟨pt, hpt⟩ : ∃ pt, pt = qs.zip ts := ⟨_, rfl⟩
    have lpt : pt.length = qs.length := by rw [hpt, List.length_zip]; omega
    have m1 : pt.map Prod.fst = qs := by rw [hpt]; exact List.map_fst_zip (by omega)
    have m2 : pt.map Prod.snd = ts := by rw [hpt]; exact List.map_snd_zip (by omega)
    obtain ⟨F, hF⟩ : ∃ F : Nat × Nat → NodeD × List EntD, F = fun x => (⟨false, [], ((ps.map leastK).drop x.1).take x.2, ((qs.map kidI).drop x.1).take x.2⟩, ((pt.drop x.1).take x.2).flatMap fun y => y.2.2) := ⟨_, rfl⟩
    obtain ⟨k, hk⟩ : ∃ k, k = (qs.length + 15) / 16 := ⟨_, rfl⟩
    have efl : ((chs 16 qs.length k).map F).flatMap (fun x => x.2) = ts.flatMap fun x => x.2 := by
      rw [hF, List.flatMap_map]
      have e1 : (chs 16 qs.length k).flatMap (fun a => ((pt.drop a.1).take a.2).flatMap fun y => y.2.2) = (((chs 16 pt.length k).map fun x => (pt.drop x.1).take x.2).flatten).flatMap fun y => y.2.2 := by
        rw [lpt, flat_flat, List.flatMap_map]
      show (chs 16 qs.length k).flatMap (fun a => ((pt.drop a.1).take a.2).flatMap fun y => y.2.2) = _
      rw [e1, chunk_flat 0, List.take_of_length_le (by rw [lpt]; omega), ← m2, List.flatMap_map]
    have hfp : fullB (capH g) (pt.map fun y => y.2.2.length) := by
      rw [← m2, List.map_map] at hf
      exact hf
    have hch : ∀ i, i < k → (chs 16 qs.length k)[i]? = some (16 * i, min 16 (qs.length - 16 * i)) := fun i hi => by
      rw [chs, List.getElem?_map, List.getElem?_range hi]
      rfl
    have hlen : ∀ x ∈ chs 16 qs.length k, ∃ i, i < k ∧ x = (16 * i, min 16 (qs.length - 16 * i)) := fun x hx => by
      rw [chs] at hx
      obtain ⟨i, hi, rfl⟩ := List.mem_map.1 hx
      exact ⟨i, List.mem_range.1 hi, rfl⟩
    have hsz : ∀ i, i < k → 1 ≤ (F (16 * i, min 16 (qs.length - 16 * i))).2.length ∧ (F (16 * i, min 16 (qs.length - 16 * i))).2.length ≤ capH (g + 1) ∧ (i + 1 < k → (F (16 * i, min 16 (qs.length - 16 * i))).2.length = capH (g + 1)) := fun i hi => by
      have hfi := hfp.part (16 * i) (min 16 (qs.length - 16 * i))
      rw [hF]
      show 1 ≤ (((pt.drop (16 * i)).take (min 16 (qs.length - 16 * i))).flatMap fun y => y.2.2).length ∧ (((pt.drop (16 * i)).take (min 16 (qs.length - 16 * i))).flatMap fun y => y.2.2).length ≤ capH (g + 1) ∧ _
      have e2 : (((pt.drop (16 * i)).take (min 16 (qs.length - 16 * i))).flatMap fun y => y.2.2).length = (((pt.map fun y => y.2.2.length).drop (16 * i)).take (min 16 (qs.length - 16 * i))).sum := by
        rw [List.length_flatMap, ← List.map_drop, ← List.map_take]
      have e3 : (((pt.map fun y => y.2.2.length).drop (16 * i)).take (min 16 (qs.length - 16 * i))).length = min 16 (qs.length - 16 * i) := by
        rw [List.length_take, List.length_drop, List.length_map, lpt]; omega
      show _ ∧ _ ∧ (i + 1 < k → (((pt.drop (16 * i)).take (min 16 (qs.length - 16 * i))).flatMap fun y => y.2.2).length = capH (g + 1))
      rw [e2]
      refine ⟨sum_pos (fun x hx => (hfi.2 x hx).1) (by rw [e3]; omega), Nat.le_trans (sum_le fun x hx => (hfi.2 x hx).2) (by rw [e3, capH_succ]; exact Nat.mul_le_mul_right _ (Nat.min_le_left _ _)), fun hik => ?_⟩
      rw [sum_eq (c := capH g) ?_, e3, capH_succ]
      · congr 1
        omega
      · intro x hx
        obtain ⟨j, hj, rfl⟩ := List.getElem_of_mem hx
        rw [e3] at hj
        rw [List.getElem_take, List.getElem_drop]
        have h9 := hfp.1 (16 * i + j) (by rw [List.length_map, lpt]; omega)
        rw [List.getElem?_eq_some_iff] at h9
        obtain ⟨_, h9⟩ := h9
        exact h9
    have hx1 : ∀ x ∈ (chs 16 qs.length k).map F, Sub rd (g + 1) x.1 x.2 := by
      intro x hx
      obtain ⟨y, hy, rfl⟩ := List.mem_map.1 hx
      obtain ⟨i, hi, rfl⟩ := hlen y hy
      rw [hF]
      refine ⟨rfl, rfl, (pt.drop (16 * i)).take (min 16 (qs.length - 16 * i)), ?_, fun z hz => ?_, rfl, ?_, ?_, ?_⟩
      · show ((qs.map kidI).drop (16 * i)).take (min 16 (qs.length - 16 * i)) = _
        rw [← m1, List.map_map, List.map_take, List.map_drop]
        rfl
      · have hz2 : z ∈ pt := List.mem_of_mem_drop (List.mem_of_mem_take hz)
        rw [hpt] at hz2
        refine ⟨hL (z.1, z.2.1) (List.mem_append_left _ ?_), hs z.2 (List.of_mem_zip hz2).2⟩
        rw [hp, ← List.map_id qs, List.zip_map]
        exact List.mem_map.2 ⟨z, hz2, rfl⟩
      · have h1 := hfp.part (16 * i) (min 16 (qs.length - 16 * i))
        rw [← List.map_drop, ← List.map_take] at h1
        exact h1
      · rw [List.length_take]; omega
      · rw [List.length_take, List.length_drop, lpt]; omega
    have hx2 : ∀ i, i + 1 < (((chs 16 qs.length k).map F).map fun x => x.2.length).length → (((chs 16 qs.length k).map F).map fun x => x.2.length)[i]? = some (capH (g + 1)) := by
      intro i hi
      rw [List.length_map, List.length_map, chs_length] at hi
      rw [List.map_map, List.getElem?_map, hch i (by omega)]
      exact congrArg some ((hsz i (by omega)).2.2 hi)
    have hx3 : ∀ z ∈ ((chs 16 qs.length k).map F).map (fun x => x.2.length), 1 ≤ z ∧ z ≤ capH (g + 1) := by
      intro z hz
      rw [List.map_map] at hz
      obtain ⟨y, hy, rfl⟩ := List.mem_map.1 hz
      obtain ⟨i, hi, rfl⟩ := hlen y hy
      exact ⟨(hsz i hi).1, (hsz i hi).2.1⟩
    have hx0 : lvl ps qs = ((chs 16 qs.length k).map F).map Prod.fst := by rw [List.map_map, hF, lvl, ← hk]; rfl
    have hbig : capH g < (ts.flatMap fun x => x.2).length := by
      have h3 : 2 ≤ ts.length := by omega
      match ts, hf, h3 with
      | x :: y :: r, hf, _ =>
        have a1 := hf.1 0 (by simp)
        have a2 := (hf.2 y.2.length (by simp)).1
        simp only [List.map_cons, List.getElem?_cons_zero, Option.some.injEq] at a1
        rw [List.flatMap_cons, List.flatMap_cons, List.length_append, List.length_append]
        omega
    obtain ⟨g', e', s', l1, l2, l3⟩ := ih (g + 1) ((chs 16 qs.length k).map F) (by omega) hx0 hx1 ⟨hx2, hx3⟩ (fun x hx => hL x (List.mem_append_right _ hx))
    rw [efl] at s' l1 l2 l3
    exact ⟨g', e', s', l1, l2, fun j a1 a2 => by
      by_cases hj : j = g
      · subst hj; exact hbig
      · exact l3 j (by omega) a2⟩
end Go.Proofs.Ytgkddhncfaeidaa
