/- What is put is got: the bytes of a node that may be, read again, are the node. -/
import Derived.Test.YtgkddhncfaeidaaNgM
namespace Go.Proofs.Ytgkddhncfaeidaa
open Go.ChangeShapes Go.WideShapes Go.ChangeAt Go.RowKit CrcM PageM
set_option linter.unusedVariables false

/-- A number of 64 bits, with its sign. -/
def inJ (z : Int) : Prop := -9223372036854775808 ≤ z ∧ z ≤ 9223372036854775807
def inEnt (e : EntD) : Prop := inJ e.st ∧ inJ e.en ∧ 0 ≤ e.cr ∧ e.cr < 4294967296
/-- A node's numbers, as their types hold them. -/
def inNode (n : NodeD) : Prop := (∀ e ∈ n.es, inEnt e) ∧ ∀ k ∈ n.ks, inJ k.st

theorem wn_small {z : Int} {m : Nat} (h1 : 0 ≤ z) (h2 : z < (m : Int)) (hm : m ≤ 18446744073709551616) : wn z < m := by
  have e : (wn z : Int) = z := by rw [← wn_eq, IntKind.wrap_u64]; omega
  omega
theorem wn_le8 (z : Int) : wn z < 256 ^ 8 := by
  have := wn_lt z
  have e : (256 : Nat) ^ 8 = 18446744073709551616 := by decide
  omega
/-- A part of bytes that is a number's. -/
theorem part_be {p q r : List UInt8} {x : List UInt8} {o s m : Nat} (hx : x = p ++ (be m s ++ q) ++ r) (hp : p.length = o) (hm : m < 256 ^ s) : val ((x.drop o).take s) = m := by
  subst hx
  rw [List.append_assoc, List.drop_left' hp, List.append_assoc, List.take_left' (length_be _ _), val_be s _ hm]
theorem entP_enB (e : EntD) (r : List UInt8) (h : okEnt e) (hi : inEnt e) : entP (enB e ++ r) = e := by
  have hlk : (kyB e.key).length = 12 := length_kyB e.key
  have hk : keyP (enB e ++ r) = e.key := by
    have : enB e ++ r = kyB e.key ++ ((enB e).drop 12 ++ r) := by
      unfold enB
      simp only [List.append_assoc]
      rw [List.drop_left' hlk]
      simp only [List.append_assoc]
    rw [this]
    exact keyP_kyB e.key _ h.1 hi.1.1 hi.1.2
  obtain ⟨se, st, en, ad, le, cn, co, cr⟩ := e
  obtain ⟨h1, h2, h3, h4, h5, h6, h7, h8, h9, h10⟩ := h
  obtain ⟨i1, i2, i3, i4⟩ := hi
  dsimp only at h1 h2 h3 h4 h5 h6 h7 h8 h9 h10 i1 i2 i3 i4
  unfold okAddr at h5
  unfold inJ at i2
  generalize hX : enB ⟨se, st, en, ad, le, cn, co, cr⟩ ++ r = X at hk ⊢
  have e2 : (256 : Nat) ^ 2 = 65536 := by decide
  have e1 : (256 : Nat) ^ 1 = 256 := by decide
  have e4 : (256 : Nat) ^ 4 = 4294967296 := by decide
  have w2 : wn ad < 256 ^ 2 := wn_small (by omega) (by omega) (by decide)
  have w3 : wn le < 256 ^ 2 := wn_small (by omega) (by omega) (by decide)
  have w4 : wn cn < 256 ^ 1 := wn_small (by omega) (by omega) (by decide)
  have w5 : wn co < 256 ^ 1 := wn_small (by omega) (by omega) (by decide)
  have w6 : wn cr < 256 ^ 4 := wn_small (by omega) (by omega) (by decide)
  have v1 : val ((X.drop 12).take 8) = wn en := part_be (p := kyB ⟨se, st⟩) (q := be (wn ad) 2 ++ (be (wn le) 2 ++ (be (wn cn) 1 ++ (be (wn co) 1 ++ be (wn cr) 4)))) (r := r) (by rw [← hX]; unfold enB; simp only [List.append_assoc, EntD.key]) (by simp [length_kyB]) (wn_le8 en)
  have v2 : val ((X.drop 20).take 2) = wn ad := part_be (p := kyB ⟨se, st⟩ ++ be (wn en) 8) (q := be (wn le) 2 ++ (be (wn cn) 1 ++ (be (wn co) 1 ++ be (wn cr) 4))) (r := r) (by rw [← hX]; unfold enB; simp only [List.append_assoc, EntD.key]) (by simp [length_kyB, length_be]) w2
  have v3 : val ((X.drop 22).take 2) = wn le := part_be (p := kyB ⟨se, st⟩ ++ be (wn en) 8 ++ be (wn ad) 2) (q := be (wn cn) 1 ++ (be (wn co) 1 ++ be (wn cr) 4)) (r := r) (by rw [← hX]; unfold enB; simp only [List.append_assoc, EntD.key]) (by simp [length_kyB, length_be]) w3
  have v4 : val ((X.drop 24).take 1) = wn cn := part_be (p := kyB ⟨se, st⟩ ++ be (wn en) 8 ++ be (wn ad) 2 ++ be (wn le) 2) (q := be (wn co) 1 ++ be (wn cr) 4) (r := r) (by rw [← hX]; unfold enB; simp only [List.append_assoc, EntD.key]) (by simp [length_kyB, length_be]) w4
  have v5 : val ((X.drop 25).take 1) = wn co := part_be (p := kyB ⟨se, st⟩ ++ be (wn en) 8 ++ be (wn ad) 2 ++ be (wn le) 2 ++ be (wn cn) 1) (q := be (wn cr) 4) (r := r) (by rw [← hX]; unfold enB; simp only [List.append_assoc, EntD.key]) (by simp [length_kyB, length_be]) w5
  have v6 : val ((X.drop 26).take 4) = wn cr := part_be (p := kyB ⟨se, st⟩ ++ be (wn en) 8 ++ be (wn ad) 2 ++ be (wn le) 2 ++ be (wn cn) 1 ++ be (wn co) 1) (q := []) (r := r) (by rw [← hX]; unfold enB; simp only [List.append_assoc, EntD.key, List.append_nil]) (by simp [length_kyB, length_be]) w6
  unfold entP
  rw [hk, v1, v2, v3, v4, v5, v6, s64_wn (by omega) (by omega), s64_wn (by omega) (by omega), s64_wn (by omega) (by omega), s64_wn (by omega) (by omega), s64_wn (by omega) (by omega), u32n_wn (by omega) (by omega)]
  rfl
theorem kidP_kidB (p : KeyD × Int) (r : List UInt8) (h : okAddr p.2) : kidP (kidB p ++ r) = p.2 := by
  obtain ⟨k, d⟩ := p
  unfold okAddr at h
  dsimp only at h ⊢
  have e2 : (256 : Nat) ^ 2 = 65536 := by decide
  have w2 : wn d < 256 ^ 2 := wn_small (by omega) (by omega) (by decide)
  have v1 : val (((kidB (k, d) ++ r).drop 12).take 2) = wn d := part_be (p := kyB k) (q := []) (r := r) (by unfold kidB; simp only [List.append_assoc, List.append_nil]) (by simp [length_kyB]) w2
  unfold kidP
  rw [v1, s64_wn (by omega) (by omega)]
theorem keyP_kidB (p : KeyD × Int) (r : List UInt8) (h : okKey p.1.se) (hi : inJ p.1.st) : keyP (kidB p ++ r) = p.1 := by
  unfold kidB
  rw [List.append_assoc]
  exact keyP_kyB p.1 _ h hi.1 hi.2
/-- What rows of bytes tell, one by one. -/
theorem parts_flat {α β : Type} {f : α → List UInt8} {g : List UInt8 → β} {v : α → β} {m : Nat} (hf : ∀ x, (f x).length = m) (l : List α) (hg : ∀ x ∈ l, ∀ r, g (f x ++ r) = v x) :
    (List.range l.length).map (fun i => g ((l.flatMap f).drop (m * i))) = l.map v := by
  induction l with
  | nil => rfl
  | cons a t ih =>
    rw [List.length_cons, List.range_succ_eq_map, List.map_cons, List.map_map, List.map_cons]
    congr 1
    · rw [Nat.mul_zero, List.drop_zero, List.flatMap_cons]
      exact hg a (by simp) _
    · rw [← ih (fun x hx => hg x (by simp [hx]))]
      refine List.map_congr_left fun i _ => ?_
      rw [Function.comp, List.flatMap_cons, Nat.succ_eq_add_one, Nat.mul_add, Nat.mul_one, Nat.add_comm (m * i) m, ← List.drop_drop, List.drop_left' (hf a)]
theorem entsP_enB (es : List EntD) (h : ∀ e ∈ es, okEnt e ∧ inEnt e) : entsP es.length (es.flatMap enB) = es := by
  have := parts_flat (f := enB) (g := entP) (v := id) (m := 30) length_enB es (fun e he r => entP_enB e r (h e he).1 (h e he).2)
  rwa [List.map_id] at this
theorem keysP_kidB (ps : List (KeyD × Int)) (h : ∀ p ∈ ps, okKey p.1.se ∧ inJ p.1.st) : keysP ps.length (ps.flatMap kidB) = ps.map Prod.fst :=
  parts_flat (f := kidB) (g := keyP) (v := Prod.fst) (m := 14) length_kidB ps (fun p hp r => keyP_kidB p r (h p hp).1 (h p hp).2)
theorem kidsP_kidB (ps : List (KeyD × Int)) (h : ∀ p ∈ ps, okAddr p.2) : kidsP ps.length (ps.flatMap kidB) = ps.map Prod.snd :=
  parts_flat (f := kidB) (g := kidP) (v := Prod.snd) (m := 14) length_kidB ps (fun p hp r => kidP_kidB p r (h p hp))
theorem okEnts_mem {es : List EntD} (h : okEnts es) : ∀ e ∈ es, okEnt e := fun e he => by
  obtain ⟨i, hi, rfl⟩ := List.getElem_of_mem he
  obtain ⟨e', h1, h2, _⟩ := h.2.2 i hi
  rw [List.getElem?_eq_getElem hi, Option.some.injEq] at h1
  rwa [h1]
theorem okKids_mem {ds : List Int} (h : okKids ds) : ∀ d ∈ ds, okAddr d := fun d hd => by
  obtain ⟨i, hi, rfl⟩ := List.getElem_of_mem hd
  obtain ⟨e', h1, h2, _⟩ := h i hi
  rw [List.getElem?_eq_getElem hi, Option.some.injEq] at h1
  rwa [h1]
end Go.Proofs.Ytgkddhncfaeidaa
