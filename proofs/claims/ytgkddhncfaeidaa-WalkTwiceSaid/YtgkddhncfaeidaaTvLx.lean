/- Every row of rising entries has a tree: which nodes, on which pages. No program is named here. -/
import Derived.Test.YtgkddhncfaeidaaTvLv
set_option linter.unusedSimpArgs false
set_option linter.unusedVariables false
namespace Go.Proofs.Ytgkddhncfaeidaa
open Go.RowKit CrcM PageM
set_option linter.unusedVariables false

theorem lessB_trans {a b c : KeyD} (h1 : lessB a b = true) (h2 : lessB b c = true) : lessB a c = true := by
  unfold lessB at *
  simp only [decide_eq_true_eq] at *
  omega
def IncK (l : List KeyD) : Prop := l.Pairwise fun a b => lessB a b = true
theorem IncK.ok {l : List KeyD} (h : IncK l) (hk : ∀ k ∈ l, okKey k.se) (h1 : 1 ≤ l.length) (h2 : l.length ≤ 16) : okKeys l := by
  refine ⟨h1, h2, fun i hi => ⟨l[i], List.getElem?_eq_getElem hi, hk _ (List.getElem_mem hi), ?_⟩⟩
  by_cases h0 : i = 0
  · exact .inl h0
  · refine .inr ⟨l[i - 1]'(by omega), List.getElem?_eq_getElem (by omega), ?_⟩
    exact List.pairwise_iff_getElem.1 h (i - 1) i (by omega) hi (by omega)
theorem sub_flat {α β : Type} (f : α → List β) {l l' : List α} (h : l.Sublist l') : (l.flatMap f).Sublist (l'.flatMap f) := by
  induction h with
  | slnil => exact List.Sublist.refl _
  | cons a _ ih => rw [List.flatMap_cons]; exact ih.trans (List.sublist_append_right _ _)
  | cons_cons a _ ih => rw [List.flatMap_cons, List.flatMap_cons]; exact (List.Sublist.refl _).append ih
/-- A level: each node's least key is that of the first entry beneath it. -/
structure Lev (ts : List (NodeD × List EntD)) : Prop where
  one : ∀ t ∈ ts, okNode t.1 ∧ inNode t.1 ∧ ∃ e r, t.2 = e :: r ∧ leastK t.1 = e.key
  inc : IncK ((ts.flatMap fun t => t.2).map EntD.key)
  ent : ∀ e ∈ ts.flatMap (fun t => t.2), okKey e.se ∧ inJ e.st
theorem Lev.least {ts : List (NodeD × List EntD)} (h : Lev ts) : IncK (ts.map fun t => leastK t.1) ∧ ∀ k ∈ ts.map (fun t => leastK t.1), okKey k.se ∧ inJ k.st := by
  have hsub : (ts.map fun t => leastK t.1).Sublist ((ts.flatMap fun t => t.2).map EntD.key) := by
    have h1 := h.one
    clear h
    induction ts with
    | nil => exact List.Sublist.refl _
    | cons t ts ih =>
      obtain ⟨_, _, e, r, he, hk⟩ := h1 t (by simp)
      rw [List.map_cons, List.flatMap_cons, he, hk, List.cons_append, List.map_cons]
      refine List.Sublist.cons_cons _ ?_
      rw [List.map_append]
      exact (ih (fun x hx => h1 x (List.mem_cons_of_mem _ hx))).trans (List.sublist_append_right _ _)
  refine ⟨List.Pairwise.sublist hsub h.inc, fun k hk => ?_⟩
  obtain ⟨e, he, rfl⟩ := List.mem_map.1 (hsub.subset hk)
  exact h.ent e he
theorem Lev.part {ts : List (NodeD × List EntD)} (h : Lev ts) (a b : Nat) : Lev ((ts.drop a).take b) where
  one := fun t ht => h.one t (List.mem_of_mem_drop (List.mem_of_mem_take ht))
  inc := by
    have hs : ((ts.drop a).take b).Sublist ts := (List.take_sublist _ _).trans (List.drop_sublist _ _)
    exact List.Pairwise.sublist ((sub_flat _ hs).map _) h.inc
  ent := fun e he => by
    obtain ⟨t, ht, hm⟩ := List.mem_flatMap.1 he
    exact h.ent e (List.mem_flatMap.2 ⟨t, List.mem_of_mem_drop (List.mem_of_mem_take ht), hm⟩)
theorem okKids_range (s n : Nat) (h2 : 2 ≤ s) (hn : s + n ≤ 512) : okKids ((List.range' s n).map kidI) := by
  intro i hi
  rw [List.length_map, List.length_range'] at hi
  refine ⟨((s + i : Nat) : Int), ?_, ⟨by omega, by omega⟩, fun hm => ?_⟩
  · rw [List.getElem?_map, List.getElem?_range' hi]
    simp [kidI]
  · rw [← List.map_take] at hm
    obtain ⟨q, hq, he⟩ := List.mem_map.1 hm
    obtain ⟨j, hj, rfl⟩ := List.getElem_of_mem hq
    rw [List.length_take, List.length_range'] at hj
    rw [List.getElem_take, List.getElem_range'] at he
    unfold kidI at he
    omega
theorem range_part (s m a b : Nat) (h : a + b ≤ m) : ((List.range' s m).drop a).take b = List.range' (s + a) b := by
  refine List.ext_getElem (by rw [List.length_take, List.length_drop, List.length_range', List.length_range']; omega) fun i h1 h2 => ?_
  rw [List.getElem_take, List.getElem_drop, List.getElem_range', List.getElem_range']
  omega
/-- The nodes above a level. -/
def upF (ts : List (NodeD × List EntD)) (s : Nat) (x : Nat × Nat) : NodeD × List EntD := (⟨false, [], ((ts.map fun t => leastK t.1).drop x.1).take x.2, (((List.range' s ts.length).map kidI).drop x.1).take x.2⟩, ((ts.drop x.1).take x.2).flatMap fun t => t.2)
def upL (ts : List (NodeD × List EntD)) (s : Nat) : List (NodeD × List EntD) := (chs 16 ts.length ((ts.length + 15) / 16)).map (upF ts s)
theorem upL_length (ts : List (NodeD × List EntD)) (s : Nat) : (upL ts s).length = (ts.length + 15) / 16 := by rw [upL, List.length_map, chs_length]
theorem upL_fst (ts : List (NodeD × List EntD)) (s : Nat) : (upL ts s).map Prod.fst = lvl (ts.map Prod.fst) (List.range' s ts.length) := by
  rw [upL, lvl, List.map_map, List.length_range', List.map_map]
  rfl
theorem upL_flat (ts : List (NodeD × List EntD)) (s : Nat) : ((upL ts s).flatMap fun t => t.2) = ts.flatMap fun t => t.2 := by
  rw [upL, List.flatMap_map]
  have e1 : (chs 16 ts.length ((ts.length + 15) / 16)).flatMap (fun a => ((ts.drop a.1).take a.2).flatMap fun y => y.2) = (((chs 16 ts.length ((ts.length + 15) / 16)).map fun x => (ts.drop x.1).take x.2).flatten).flatMap fun y => y.2 := by
    rw [flat_flat, List.flatMap_map]
  show (chs 16 ts.length ((ts.length + 15) / 16)).flatMap (fun a => ((ts.drop a.1).take a.2).flatMap fun y => y.2) = _
  rw [e1, chunk_flat 0, List.take_of_length_le (by omega)]
theorem Lev.up {ts : List (NodeD × List EntD)} (h : Lev ts) (s : Nat) (h2 : 2 ≤ s) (hs : s + ts.length ≤ 512) : Lev (upL ts s) where
  one := fun t ht => by
    rw [upL, chs, List.map_map] at ht
    obtain ⟨i, hi, rfl⟩ := List.mem_map.1 ht
    rw [List.mem_range] at hi
    obtain ⟨b, hb⟩ : ∃ b, b = min 16 (ts.length - 16 * i) := ⟨_, rfl⟩
    show okNode (upF ts s (16 * i, min 16 (ts.length - 16 * i))).1 ∧ inNode (upF ts s (16 * i, min 16 (ts.length - 16 * i))).1 ∧ ∃ e r, (upF ts s (16 * i, min 16 (ts.length - 16 * i))).2 = e :: r ∧ leastK (upF ts s (16 * i, min 16 (ts.length - 16 * i))).1 = e.key
    rw [← hb]
    have hp := h.part (16 * i) b
    have hl := hp.least
    have lp : ((ts.drop (16 * i)).take b).length = b := by rw [List.length_take, List.length_drop]; omega
    have ek : ((ts.map fun t => leastK t.1).drop (16 * i)).take b = ((ts.drop (16 * i)).take b).map fun t => leastK t.1 := by rw [List.map_take, List.map_drop]
    have ed : (((List.range' s ts.length).map kidI).drop (16 * i)).take b = (List.range' (s + 16 * i) b).map kidI := by rw [← List.map_drop, ← List.map_take, range_part _ _ _ _ (by omega)]
    unfold upF
    dsimp only
    rw [ek, ed]
    refine ⟨⟨rfl, by rw [List.length_map, List.length_map, lp, List.length_range'], hl.1.ok (fun k hk => (hl.2 k hk).1) (by rw [List.length_map, lp]; omega) (by rw [List.length_map, lp]; omega), okKids_range _ _ (by omega) (by omega)⟩, ⟨fun e he => (by cases he), fun k hk => (hl.2 k hk).2⟩, ?_⟩
    cases hc : (ts.drop (16 * i)).take b with
    | nil => rw [hc] at lp; simp at lp; omega
    | cons t r =>
      obtain ⟨_, _, e, r2, he, hk⟩ := hp.one t (by rw [hc]; simp)
      refine ⟨e, r2 ++ r.flatMap (fun t => t.2), by rw [List.flatMap_cons, he, List.cons_append], ?_⟩
      rw [List.map_cons]
      exact hk
  inc := by rw [upL_flat]; exact h.inc
  ent := fun e he => by rw [upL_flat] at he; exact h.ent e he
/-- **Every level of so many nodes has a node above all.** -/
theorem tops_ex : ∀ (d : Nat) (ts : List (NodeD × List EntD)) (h s : Nat), Lev ts → 1 ≤ ts.length → ts.length ≤ 16 ^ d → h + d ≤ 5 → 2 ≤ s → s + 2 * ts.length ≤ 513 → (ts.length = 1 → ∀ t ∈ ts, t.1.leaf = false → 2 ≤ t.1.ds.length) →
    ∃ (L : List (Nat × NodeD)) (n : NodeD) (h' : Nat), Tops (ts.map Prod.fst) h L n h' ∧ h' ≤ 5 ∧ L.map Prod.fst = List.range' s L.length ∧ L.length + 2 ≤ 2 * ts.length ∧ (∀ x ∈ L, okNode x.2 ∧ inNode x.2) ∧ okNode n ∧ inNode n ∧ (n.leaf = false → 2 ≤ n.ds.length) := by
  intro d
  induction d with
  | zero =>
    intro ts h s hv h1 hd h5 h2 hs hr
    obtain ⟨t, rfl⟩ : ∃ t, ts = [t] := List.length_eq_one_iff.1 (by simp at hd; omega)
    obtain ⟨o1, o2, _⟩ := hv.one t (by simp)
    exact ⟨[], t.1, h, Tops.stop _ _, by omega, rfl, by simp, fun x hx => (by cases hx), o1, o2, hr rfl t (by simp)⟩
  | succ d ih =>
    intro ts h s hv h1 hd h5 h2 hs hr
    by_cases h1m : ts.length = 1
    · obtain ⟨t, rfl⟩ : ∃ t, ts = [t] := List.length_eq_one_iff.1 h1m
      obtain ⟨o1, o2, _⟩ := hv.one t (by simp)
      exact ⟨[], t.1, h, Tops.stop _ _, by omega, rfl, by simp, fun x hx => (by cases hx), o1, o2, hr rfl t (by simp)⟩
    · have hu := hv.up s h2 (by omega)
      rw [Nat.pow_succ] at hd
      obtain ⟨L, n, h', t, b5, bl, bn, bo, o1, o2, o3⟩ := ih (upL ts s) (h + 1) (s + ts.length) hu (by rw [upL_length]; omega) (by rw [upL_length]; omega) (by omega) (by omega) (by rw [upL_length]; omega) (by
        rw [upL_length]
        intro e1 t ht _
        rw [upL, e1] at ht
        simp only [chs, List.range_one, List.map_cons, List.map_nil, List.mem_singleton] at ht
        subst ht
        unfold upF
        dsimp only
        rw [List.length_take, List.length_drop, List.length_map, List.length_range']
        omega)
      rw [upL_length] at bn
      rw [upL_fst] at t
      have hz : ((List.range' s ts.length).zip (ts.map Prod.fst)).map Prod.fst = List.range' s ts.length := List.map_fst_zip (by rw [List.length_map, List.length_range']; exact Nat.le_refl _)
      have lz : ((List.range' s ts.length).zip (ts.map Prod.fst)).length = ts.length := by rw [List.length_zip, List.length_map, List.length_range']; omega
      refine ⟨(List.range' s ts.length).zip (ts.map Prod.fst) ++ L, n, h', Tops.step _ _ _ _ _ _ (by rw [List.length_map]; omega) (by rw [List.length_map, List.length_range']) (by omega) t, b5, ?_, ?_, fun x hx => ?_, o1, o2, o3⟩
      · rw [List.map_append, hz, bl, List.length_append, lz, ← List.range'_append_1]
      · rw [List.length_append, lz]
        omega
      · rcases List.mem_append.1 hx with hx | hx
        · obtain ⟨t0, ht0, he⟩ := List.mem_map.1 (List.of_mem_zip hx).2
          obtain ⟨a1, a2, _⟩ := hv.one t0 ht0
          rw [← he]
          exact ⟨a1, a2⟩
        · exact bo x hx
theorem chunk_flatC {α : Type} (c : Nat) (l : List α) : ∀ k, ((chs c l.length k).map fun x => (l.drop x.1).take x.2).flatten = l.take (c * k)
  | 0 => by simp [chs]
  | k + 1 => by
    rw [chs_succ, List.map_append, List.flatten_append, chunk_flatC c l k, Nat.mul_succ, List.take_add]
    congr 1
    simp only [List.map_cons, List.map_nil, List.flatten_cons, List.flatten_nil, List.append_nil]
    rcases Nat.le_total c (l.length - c * k) with h | h
    · rw [Nat.min_eq_left h]
    · rw [Nat.min_eq_right h, List.take_of_length_le (by rw [List.length_drop]; exact Nat.le_refl _), List.take_of_length_le (by rw [List.length_drop]; exact h)]
/-- The leaves. -/
def baseL (es : List EntD) : List (NodeD × List EntD) := (chs 7 es.length ((es.length + 6) / 7)).map fun x => (⟨true, (es.drop x.1).take x.2, [], []⟩, (es.drop x.1).take x.2)
theorem baseL_fst (es : List EntD) : (baseL es).map Prod.fst = lvlE es := by rw [baseL, lvlE, List.map_map]; rfl
theorem baseL_length (es : List EntD) : (baseL es).length = (es.length + 6) / 7 := by rw [baseL, List.length_map, chs_length]
theorem baseL_flat (es : List EntD) : ((baseL es).flatMap fun t => t.2) = es := by
  rw [baseL, List.flatMap_map]
  have e1 : (chs 7 es.length ((es.length + 6) / 7)).flatMap (fun a => (es.drop a.1).take a.2) = ((chs 7 es.length ((es.length + 6) / 7)).map fun x => (es.drop x.1).take x.2).flatten := by rw [List.flatMap_def]
  show (chs 7 es.length ((es.length + 6) / 7)).flatMap (fun a => (es.drop a.1).take a.2) = es
  rw [e1, chunk_flatC 7, List.take_of_length_le (by omega)]
theorem inc_of {l : List KeyD} (h : ∀ i p e, l[i]? = some p → l[i + 1]? = some e → lessB p e = true) : IncK l := by
  refine List.pairwise_iff_getElem.2 fun i j hi hj hij => ?_
  obtain ⟨d, rfl⟩ : ∃ d, j = i + 1 + d := ⟨j - (i + 1), by omega⟩
  clear hij
  induction d with
  | zero => exact h i _ _ (List.getElem?_eq_getElem hi) (List.getElem?_eq_getElem hj)
  | succ d ih => exact lessB_trans (ih (by omega)) (h (i + 1 + d) _ _ (List.getElem?_eq_getElem (by omega)) (List.getElem?_eq_getElem hj))
theorem apart_less {p e : EntD} (h : apartB p e = true) : lessB p.key e.key = true := by
  unfold apartB at h
  simp only [Bool.and_eq_true] at h
  exact h.1
theorem RisingD.inc {es : List EntD} (h : RisingD es) : IncK (es.map EntD.key) := inc_of fun i p e hp he => by
  rw [List.getElem?_map, Option.map_eq_some_iff] at hp he
  obtain ⟨p', hp, rfl⟩ := hp
  obtain ⟨e', he, rfl⟩ := he
  exact apart_less (h.up i p' e' hp he)
theorem baseL_lev {es : List EntD} (h : RisingD es) (hi : ∀ e ∈ es, inEnt e) : Lev (baseL es) where
  one := fun t ht => by
    rw [baseL, chs, List.map_map] at ht
    obtain ⟨i, hlt, rfl⟩ := List.mem_map.1 ht
    rw [List.mem_range] at hlt
    obtain ⟨b, hb⟩ : ∃ b, b = min 7 (es.length - 7 * i) := ⟨_, rfl⟩
    obtain ⟨l, hl⟩ : ∃ l, l = (es.drop (7 * i)).take b := ⟨_, rfl⟩
    have ll : l.length = b := by rw [hl, List.length_take, List.length_drop]; omega
    have gl : ∀ j, j < b → l[j]? = es[7 * i + j]? := fun j hj => by rw [hl, List.getElem?_take, if_pos hj, List.getElem?_drop]
    show okNode ⟨true, (es.drop (7 * i)).take (min 7 (es.length - 7 * i)), [], []⟩ ∧ inNode ⟨true, (es.drop (7 * i)).take (min 7 (es.length - 7 * i)), [], []⟩ ∧ ∃ e r, (es.drop (7 * i)).take (min 7 (es.length - 7 * i)) = e :: r ∧ leastK ⟨true, (es.drop (7 * i)).take (min 7 (es.length - 7 * i)), [], []⟩ = e.key
    rw [← hb, ← hl]
    refine ⟨⟨rfl, rfl, by rw [ll]; omega, by rw [ll]; omega, fun j hj => ?_⟩, ⟨fun e he => ?_, fun k hk => (by cases hk)⟩, ?_⟩
    · rw [ll] at hj
      have hm : l[j]'(by omega) ∈ es := by
        refine List.mem_of_mem_drop (i := 7 * i) (List.mem_of_mem_take (i := b) ?_)
        rw [← hl]
        exact List.getElem_mem _
      refine ⟨l[j]'(by omega), List.getElem?_eq_getElem _, h.ok _ hm, ?_⟩
      by_cases h0 : j = 0
      · exact .inl h0
      · refine .inr ⟨l[j - 1]'(by omega), List.getElem?_eq_getElem _, h.up (7 * i + (j - 1)) _ _ ?_ ?_⟩
        · rw [← gl (j - 1) (by omega)]; exact List.getElem?_eq_getElem _
        · rw [show 7 * i + (j - 1) + 1 = 7 * i + j by omega, ← gl j hj]; exact List.getElem?_eq_getElem _
    · rw [hl] at he
      exact hi e (List.mem_of_mem_drop (List.mem_of_mem_take he))
    · cases hc : l with
      | nil => rw [hc] at ll; simp at ll; omega
      | cons e r => exact ⟨e, r, rfl, rfl⟩
  inc := by rw [baseL_flat]; exact h.inc
  ent := fun e he => by rw [baseL_flat] at he; exact ⟨(h.ok e he).1, (hi e he).1⟩
theorem baseL_full (es : List EntD) : fullB (capH 0) ((baseL es).map fun t => t.2.length) := by
  have e1 : (baseL es).map (fun t => t.2.length) = (List.range ((es.length + 6) / 7)).map fun i => min 7 (es.length - 7 * i) := by
    rw [baseL, chs, List.map_map, List.map_map]
    refine List.map_congr_left fun i hi => ?_
    show ((es.drop (7 * i)).take (min 7 (es.length - 7 * i))).length = _
    rw [List.length_take, List.length_drop]
    omega
  rw [e1]
  refine ⟨fun i hi => ?_, fun x hx => ?_⟩
  · rw [List.length_map, List.length_range] at hi
    rw [List.getElem?_map, List.getElem?_range (by omega)]
    show some (min 7 (es.length - 7 * i)) = some (7 * 16 ^ 0)
    congr 1
    omega
  · obtain ⟨i, hi, rfl⟩ := List.mem_map.1 hx
    rw [List.mem_range] at hi
    show 1 ≤ min 7 (es.length - 7 * i) ∧ min 7 (es.length - 7 * i) ≤ 7 * 16 ^ 0
    omega
/-- **What a load of so many entries builds.** -/
theorem load_plan (es : List EntD) (h1 : 1 ≤ es.length) (hn : es.length ≤ 1700) (hr : RisingD es) (hi : ∀ e ∈ es, inEnt e) :
    ∃ (Lr : List (Nat × NodeD)) (nr : NodeD) (g : Nat), Tops (lvlE es) 1 Lr nr (g + 1) ∧ g + 1 ≤ 5 ∧ (nr.leaf = false → 2 ≤ nr.ds.length) ∧ Lr.map Prod.fst ++ [2 + Lr.length] = List.range' 2 (Lr.length + 1) ∧ Lr.length + 2 ≤ 2 * ((es.length + 6) / 7) ∧ (∀ x ∈ Lr ++ [(2 + Lr.length, nr)], okNode x.2 ∧ inNode x.2) ∧
      es.length ≤ capH g ∧ (∀ j, j < g → capH j < es.length) ∧ ∀ rd : Nat → NodeD → Prop, (∀ x ∈ Lr, rd x.1 x.2) → Sub rd g nr es := by
  obtain ⟨L, n, h', t, b5, bl, bn, bo, o1, o2, o3⟩ := tops_ex 4 (baseL es) 1 2 (baseL_lev hr hi) (by rw [baseL_length]; omega) (by rw [baseL_length]; omega) (by omega) (by omega) (by rw [baseL_length]; omega) (by
    intro _ t ht hl
    rw [baseL] at ht
    obtain ⟨x, _, rfl⟩ := List.mem_map.1 ht
    cases hl)
  rw [baseL_length] at bn
  rw [baseL_fst] at t
  have hsub : ∀ rd : Nat → NodeD → Prop, (∀ x ∈ L, rd x.1 x.2) → ∃ g', h' = g' + 1 ∧ Sub rd g' n es ∧ es.length ≤ capH g' ∧ ∀ j, j < g' → capH j < es.length := fun rd hL => by
    obtain ⟨g', e', s', l1, l2, l3⟩ := tops_sub t 0 (baseL es) rfl (baseL_fst es).symm (fun x hx => by
      rw [baseL] at hx
      obtain ⟨y, _, rfl⟩ := List.mem_map.1 hx
      exact ⟨rfl, rfl, rfl⟩) (baseL_full es) hL
    rw [baseL_flat] at s' l2 l3
    exact ⟨g', e', s', l2, fun j hj => l3 j (Nat.zero_le _) hj⟩
  obtain ⟨g, rfl, _, hc, hmn⟩ := hsub (fun _ _ => True) (fun _ _ => trivial)
  refine ⟨L, n, g, t, b5, o3, ?_, bn, fun x hx => ?_, hc, hmn, fun rd hL => ?_⟩
  · rw [bl, ← List.range'_append_1 (s := 2) (m := L.length) (n := 1)]
    rfl
  · rcases List.mem_append.1 hx with hx | hx
    · exact bo x hx
    · obtain rfl : x = (2 + L.length, n) := by simpa using hx
      exact ⟨o1, o2⟩
  · obtain ⟨g', e', s', _⟩ := hsub rd hL
    obtain rfl : g = g' := by omega
    exact s'
end Go.Proofs.Ytgkddhncfaeidaa
