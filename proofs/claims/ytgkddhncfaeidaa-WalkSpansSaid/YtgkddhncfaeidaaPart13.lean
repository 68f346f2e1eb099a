/- Several texts in one: What bytes are as a node, and a node as bytes: each undoes the other. What is put is got: the bytes of a node that may be, read again, are the node. Package node's Get of the bytes that Put tells of a node: the node; of those of the other kind an error. The reference's Same of two nodes that are the same. Least of a node that may be. NodePuts: of a node that can't be nothing is told. Package node's Join: two rows side by side. Package node's halves: two parts of a node, of the same memory. Package node's clone: a node whose rows are one's own. -/
import Derived.Test.YtgkddhncfaeidaaNgI
import Derived.Test.YtgkddhncfaeidaaPart09
import Derived.Laws.StructEq
import Derived.ChangeKeysEq
import Derived.Test.YtgkddhncfaeidaaPart08
import Derived.Test.YtgkddhncfaeidaaPart04
import Derived.Test.YtgkddhncfaeidaaPart10
import Derived.Test.YtgkddhncfaeidaaPart11
import Derived.Lib.SliceRun
set_option linter.unusedSimpArgs false
set_option linter.unusedVariables false
namespace Go.Proofs.Ytgkddhncfaeidaa
open Go.ChangeShapes Go.WideShapes Go.ChangeAt Go.RowKit CrcM PageM
set_option linter.unusedVariables false

theorem s64_wn {z : Int} (h1 : -9223372036854775808 ≤ z) (h2 : z ≤ 9223372036854775807) : s64 (wn z) = z := by
  unfold s64
  rw [← wn_eq, IntKind.wrap_u64]
  unfold wrap64
  omega
theorem u32n_wn {z : Int} (h1 : 0 ≤ z) (h2 : z < 4294967296) : u32n (wn z) = z := by
  unfold u32n
  rw [← wn_eq, IntKind.wrap_u64, IntKind.wrap_u32]
  omega
theorem keyP_kyB (k : KeyD) (r : List UInt8) (h : okKey k.se) (h1 : -9223372036854775808 ≤ k.st) (h2 : k.st ≤ 9223372036854775807) : keyP (kyB k ++ r) = k := by
  obtain ⟨se, st⟩ := k
  unfold okKey at h
  dsimp only at h h1 h2
  have hn : wn se < 256 ^ 4 := by
    have e : (wn se : Int) = se := by rw [← wn_eq, IntKind.wrap_u64]; omega
    have e4 : (256 : Nat) ^ 4 = 4294967296 := by decide
    omega
  have hm : wn st < 256 ^ 8 := by have := wn_lt st; have e : (256 : Nat) ^ 8 = 18446744073709551616 := by decide
                                  omega
  have t1 : (kyB ⟨se, st⟩ ++ r).take 4 = be (wn se) 4 := by unfold kyB; rw [List.append_assoc]; exact List.take_left' (length_be _ _)
  have t2 : ((kyB ⟨se, st⟩ ++ r).drop 4).take 8 = be (wn st) 8 := by
    unfold kyB
    rw [List.append_assoc, List.drop_left' (length_be _ _)]
    exact List.take_left' (length_be _ _)
  unfold keyP
  rw [t1, t2, val_be 4 _ hn, val_be 8 _ hm, s64_wn (by omega) (by omega), s64_wn h1 h2]
end Go.Proofs.Ytgkddhncfaeidaa

namespace Go.Proofs.Ytgkddhncfaeidaa
open Go.ChangeShapes Go.WideShapes Go.ChangeAt Go.RowKit CrcM PageM
set_option linter.unusedVariables false

/-- A number of 64 bits, with its sign. -/
def inJ (z : Int) : Prop := -9223372036854775808 ≤ z ∧ z ≤ 9223372036854775807
def inEnt (e : EntD) : Prop := inJ e.st ∧ inJ e.en ∧ 0 ≤ e.cr ∧ e.cr < 4294967296
/-- A node's numbers, as their types hold them. -/
def inNode (n : NodeD) : Prop := (∀ e ∈ n.es, inEnt e) ∧ ∀ k ∈ n.ks, inJ k.st

theorem wn_small {z : Int} {m : Nat} (h1 : 0 ≤ z) (h2 : z < (m : Int)) (hm : m ≤ 18446744073709551616) : wn z < m := by
  have e : (wn z : Int) = z := by rw [← wn_eq, IntKind.wrap_u64]; omega
  omega
theorem wn_le8 (z : Int) : wn z < 256 ^ 8 := by
  have := wn_lt z
  have e : (256 : Nat) ^ 8 = 18446744073709551616 := by decide
  omega
/-- A part of bytes that is a number's. -/
theorem part_be {p q r : List UInt8} {x : List UInt8} {o s m : Nat} (hx : x = p ++ (be m s ++ q) ++ r) (hp : p.length = o) (hm : m < 256 ^ s) : val ((x.drop o).take s) = m := by
  subst hx
  rw [List.append_assoc, List.drop_left' hp, List.append_assoc, List.take_left' (length_be _ _), val_be s _ hm]
theorem entP_enB (e : EntD) (r : List UInt8) (h : okEnt e) (hi : inEnt e) : entP (enB e ++ r) = e := by
  have hlk : (kyB e.key).length = 12 := length_kyB e.key
  have hk : keyP (enB e ++ r) = e.key := by
    have : enB e ++ r = kyB e.key ++ ((enB e).drop 12 ++ r) := by
      unfold enB
      simp only [List.append_assoc]
      rw [List.drop_left' hlk]
      simp only [List.append_assoc]
    rw [this]
    exact keyP_kyB e.key _ h.1 hi.1.1 hi.1.2
  obtain ⟨se, st, en, ad, le, cn, co, cr⟩ := e
  obtain ⟨h1, h2, h3, h4, h5, h6, h7, h8, h9, h10⟩ := h
  obtain ⟨i1, i2, i3, i4⟩ := hi
  dsimp only at h1 h2 h3 h4 h5 h6 h7 h8 h9 h10 i1 i2 i3 i4
  unfold okAddr at h5
  unfold inJ at i2
  generalize hX : enB ⟨se, st, en, ad, le, cn, co, cr⟩ ++ r = X at hk ⊢
  have e2 : (256 : Nat) ^ 2 = 65536 := by decide
  have e1 : (256 : Nat) ^ 1 = 256 := by decide
  have e4 : (256 : Nat) ^ 4 = 4294967296 := by decide
  have w2 : wn ad < 256 ^ 2 := wn_small (by omega) (by omega) (by decide)
  have w3 : wn le < 256 ^ 2 := wn_small (by omega) (by omega) (by decide)
  have w4 : wn cn < 256 ^ 1 := wn_small (by omega) (by omega) (by decide)
  have w5 : wn co < 256 ^ 1 := wn_small (by omega) (by omega) (by decide)
  have w6 : wn cr < 256 ^ 4 := wn_small (by omega) (by omega) (by decide)
  have v1 : val ((X.drop 12).take 8) = wn en := part_be (p := kyB ⟨se, st⟩) (q := be (wn ad) 2 ++ (be (wn le) 2 ++ (be (wn cn) 1 ++ (be (wn co) 1 ++ be (wn cr) 4)))) (r := r) (by rw [← hX]; unfold enB; simp only [List.append_assoc, EntD.key]) (by simp [length_kyB]) (wn_le8 en)
  have v2 : val ((X.drop 20).take 2) = wn ad := part_be (p := kyB ⟨se, st⟩ ++ be (wn en) 8) (q := be (wn le) 2 ++ (be (wn cn) 1 ++ (be (wn co) 1 ++ be (wn cr) 4))) (r := r) (by rw [← hX]; unfold enB; simp only [List.append_assoc, EntD.key]) (by simp [length_kyB, length_be]) w2
  have v3 : val ((X.drop 22).take 2) = wn le := part_be (p := kyB ⟨se, st⟩ ++ be (wn en) 8 ++ be (wn ad) 2) (q := be (wn cn) 1 ++ (be (wn co) 1 ++ be (wn cr) 4)) (r := r) (by rw [← hX]; unfold enB; simp only [List.append_assoc, EntD.key]) (by simp [length_kyB, length_be]) w3
  have v4 : val ((X.drop 24).take 1) = wn cn := part_be (p := kyB ⟨se, st⟩ ++ be (wn en) 8 ++ be (wn ad) 2 ++ be (wn le) 2) (q := be (wn co) 1 ++ be (wn cr) 4) (r := r) (by rw [← hX]; unfold enB; simp only [List.append_assoc, EntD.key]) (by simp [length_kyB, length_be]) w4
  have v5 : val ((X.drop 25).take 1) = wn co := part_be (p := kyB ⟨se, st⟩ ++ be (wn en) 8 ++ be (wn ad) 2 ++ be (wn le) 2 ++ be (wn cn) 1) (q := be (wn cr) 4) (r := r) (by rw [← hX]; unfold enB; simp only [List.append_assoc, EntD.key]) (by simp [length_kyB, length_be]) w5
  have v6 : val ((X.drop 26).take 4) = wn cr := part_be (p := kyB ⟨se, st⟩ ++ be (wn en) 8 ++ be (wn ad) 2 ++ be (wn le) 2 ++ be (wn cn) 1 ++ be (wn co) 1) (q := []) (r := r) (by rw [← hX]; unfold enB; simp only [List.append_assoc, EntD.key, List.append_nil]) (by simp [length_kyB, length_be]) w6
  unfold entP
  rw [hk, v1, v2, v3, v4, v5, v6, s64_wn (by omega) (by omega), s64_wn (by omega) (by omega), s64_wn (by omega) (by omega), s64_wn (by omega) (by omega), s64_wn (by omega) (by omega), u32n_wn (by omega) (by omega)]
  rfl
theorem kidP_kidB (p : KeyD × Int) (r : List UInt8) (h : okAddr p.2) : kidP (kidB p ++ r) = p.2 := by
  obtain ⟨k, d⟩ := p
  unfold okAddr at h
  dsimp only at h ⊢
  have e2 : (256 : Nat) ^ 2 = 65536 := by decide
  have w2 : wn d < 256 ^ 2 := wn_small (by omega) (by omega) (by decide)
  have v1 : val (((kidB (k, d) ++ r).drop 12).take 2) = wn d := part_be (p := kyB k) (q := []) (r := r) (by unfold kidB; simp only [List.append_assoc, List.append_nil]) (by simp [length_kyB]) w2
  unfold kidP
  rw [v1, s64_wn (by omega) (by omega)]
theorem keyP_kidB (p : KeyD × Int) (r : List UInt8) (h : okKey p.1.se) (hi : inJ p.1.st) : keyP (kidB p ++ r) = p.1 := by
  unfold kidB
  rw [List.append_assoc]
  exact keyP_kyB p.1 _ h hi.1 hi.2
/-- What rows of bytes tell, one by one. -/
theorem parts_flat {α β : Type} {f : α → List UInt8} {g : List UInt8 → β} {v : α → β} {m : Nat} (hf : ∀ x, (f x).length = m) (l : List α) (hg : ∀ x ∈ l, ∀ r, g (f x ++ r) = v x) :
    (List.range l.length).map (fun i => g ((l.flatMap f).drop (m * i))) = l.map v := by
  induction l with
  | nil => rfl
  | cons a t ih =>
    rw [List.length_cons, List.range_succ_eq_map, List.map_cons, List.map_map, List.map_cons]
    congr 1
    · rw [Nat.mul_zero, List.drop_zero, List.flatMap_cons]
      exact hg a (by simp) _
    · rw [← ih (fun x hx => hg x (by simp [hx]))]
      refine List.map_congr_left fun i _ => ?_
      rw [Function.comp, List.flatMap_cons, Nat.succ_eq_add_one, Nat.mul_add, Nat.mul_one, Nat.add_comm (m * i) m, ← List.drop_drop, List.drop_left' (hf a)]
theorem entsP_enB (es : List EntD) (h : ∀ e ∈ es, okEnt e ∧ inEnt e) : entsP es.length (es.flatMap enB) = es := by
  have := parts_flat (f := enB) (g := entP) (v := id) (m := 30) length_enB es (fun e he r => entP_enB e r (h e he).1 (h e he).2)
  rwa [List.map_id] at this
theorem keysP_kidB (ps : List (KeyD × Int)) (h : ∀ p ∈ ps, okKey p.1.se ∧ inJ p.1.st) : keysP ps.length (ps.flatMap kidB) = ps.map Prod.fst :=
  parts_flat (f := kidB) (g := keyP) (v := Prod.fst) (m := 14) length_kidB ps (fun p hp r => keyP_kidB p r (h p hp).1 (h p hp).2)
theorem kidsP_kidB (ps : List (KeyD × Int)) (h : ∀ p ∈ ps, okAddr p.2) : kidsP ps.length (ps.flatMap kidB) = ps.map Prod.snd :=
  parts_flat (f := kidB) (g := kidP) (v := Prod.snd) (m := 14) length_kidB ps (fun p hp r => kidP_kidB p r (h p hp))
theorem okEnts_mem {es : List EntD} (h : okEnts es) : ∀ e ∈ es, okEnt e := fun e he => by
  obtain ⟨i, hi, rfl⟩ := List.getElem_of_mem he
  obtain ⟨e', h1, h2, _⟩ := h.2.2 i hi
  rw [List.getElem?_eq_getElem hi, Option.some.injEq] at h1
  rwa [h1]
theorem okKids_mem {ds : List Int} (h : okKids ds) : ∀ d ∈ ds, okAddr d := fun d hd => by
  obtain ⟨i, hi, rfl⟩ := List.getElem_of_mem hd
  obtain ⟨e', h1, h2, _⟩ := h i hi
  rw [List.getElem?_eq_getElem hi, Option.some.injEq] at h1
  rwa [h1]
end Go.Proofs.Ytgkddhncfaeidaa

namespace Go.Proofs.Ytgkddhncfaeidaa
open Go.ChangeShapes Go.WideShapes Go.ChangeAt Go.RowKit CrcM PageM
set_option linter.unusedVariables false

theorem nodeB_form {n : NodeD} (hn : okNode n) : ∃ c b, nodeB n = c :: b ∧ c.toNat = n.size ∧ b.length = n.size * sizeP n.leaf ∧ 1 ≤ n.size ∧ n.size ≤ 16 := by
  obtain ⟨h1, h2, h3, h4, h5⟩ := okNode_sizes hn
  refine ⟨_, _, rfl, ?_, ?_, h5, h4⟩
  · rw [UInt8.toNat_ofNat']
    exact Nat.mod_eq_of_lt (by omega)
  · rw [List.length_append, flat_len length_enB, flat_len length_kidB, List.length_zip]
    obtain ⟨lf, es, ks, ds⟩ := n
    unfold okNode at hn
    cases lf
    · simp only [Bool.false_eq_true, if_false] at hn
      obtain ⟨e1, e2, _⟩ := hn
      subst e1
      simp only [NodeD.size, sizeP, Bool.false_eq_true, if_false, List.length_nil]
      omega
    · simp only [if_true] at hn
      obtain ⟨e1, e2, _⟩ := hn
      subst e1 e2
      simp only [NodeD.size, sizeP, if_true, List.length_nil]
      omega
theorem parse_leaf {n : NodeD} (hl : n.leaf = true) (hn : okNode n) (hi : inNode n) {c : UInt8} {b : List UInt8} (e : nodeB n = c :: b) (hc : c.toNat = n.size) : (⟨true, entsP c.toNat b, [], []⟩ : NodeD) = n := by
  obtain ⟨lf, es, ks, ds⟩ := n
  subst hl
  unfold okNode at hn
  simp only [if_true] at hn
  obtain ⟨e1, e2, h3⟩ := hn
  subst e1 e2
  rw [hc]
  unfold nodeB at e
  injection e with _ e
  subst e
  simp only [NodeD.size, if_true, List.zip_nil_left, List.flatMap_nil, List.append_nil]
  rw [entsP_enB es (fun e he => ⟨okEnts_mem h3 e he, hi.1 e he⟩)]
theorem okKeys_mem {ks : List KeyD} (h : okKeys ks) : ∀ k ∈ ks, okKey k.se := fun k hk => by
  obtain ⟨i, hi, rfl⟩ := List.getElem_of_mem hk
  obtain ⟨e', h1, h2, _⟩ := h.2.2 i hi
  rw [List.getElem?_eq_getElem hi, Option.some.injEq] at h1
  rwa [h1]
theorem parse_inner {n : NodeD} (hl : n.leaf = false) (hn : okNode n) (hi : inNode n) {c : UInt8} {b : List UInt8} (e : nodeB n = c :: b) (hc : c.toNat = n.size) : (⟨false, [], keysP c.toNat b, kidsP c.toNat b⟩ : NodeD) = n := by
  obtain ⟨lf, es, ks, ds⟩ := n
  subst hl
  unfold okNode at hn
  simp only [Bool.false_eq_true, if_false] at hn
  obtain ⟨e1, e2, h3, h4⟩ := hn
  subst e1
  rw [hc]
  unfold nodeB at e
  injection e with _ e
  subst e
  simp only [NodeD.size, Bool.false_eq_true, if_false, List.flatMap_nil, List.nil_append]
  have hz : (ks.zip ds).length = ds.length := by rw [List.length_zip, e2, Nat.min_self]
  have k1 := keysP_kidB (ks.zip ds) (fun p hp => ⟨okKeys_mem h3 _ (List.of_mem_zip hp).1, hi.2 _ (List.of_mem_zip hp).1⟩)
  have k2 := kidsP_kidB (ks.zip ds) (fun p hp => okKids_mem h4 _ (List.of_mem_zip hp).2)
  rw [hz, List.map_fst_zip (by rw [e2]; exact Nat.le_refl _)] at k1
  rw [hz, List.map_snd_zip (by rw [e2]; exact Nat.le_refl _)] at k2
  rw [k1, k2]

theorem get_backN (n : NodeD) (hn : okNode n) (hi : inNode n) (A : Option Addr) (cap L : Nat) (hL : L = (nodeB n).length) (w : World) (hx : BytesAt w A (nodeB n)) (hc : L ≤ cap) (hcm : cap ≤ maxLen) :
    Calls Try.prog 17 #[.bool n.leaf, .slice A L cap] w fun e w' => ∃ l' : NdL, e = .returned (.tuple #[.agg #[.bool n.leaf, .slice l'.EA n.es.length l'.ec, .slice l'.KA n.ks.length l'.kc, .slice l'.DA n.ds.length l'.dc], .int .i64 0]) ∧ NodeAt w' n l' ∧ NdNew w.heap.size l' ∧ Below w.heap.size w w' := by
  obtain ⟨c, b, e, hc1, hb, h1, h2⟩ := nodeB_form hn
  rw [e] at hL hx
  obtain ⟨g, o, hA, _⟩ := hx (by simp)
  subst hA
  have hlen : L = b.length + 1 := by simpa using hL
  cases hlf : n.leaf
  · have hp := parse_inner hlf hn hi e hc1
    rw [hlf] at hb
    have hz : sizeP false = 14 := rfl
    rw [hz] at hb
    refine (get_inner g o cap c b w hx (by rw [hc1]; exact hb) (by omega) hcm L hlen (by omega) n hp.symm).mono ?_
    rintro r w' ⟨k1, k2, k3⟩
    obtain ⟨l', e1, e2, e4⟩ := k1 hn
    rw [hlf] at e1
    exact ⟨l', e1, e2, e4, k3⟩
  · have hp := parse_leaf hlf hn hi e hc1
    rw [hlf] at hb
    have hz : sizeP true = 30 := rfl
    rw [hz] at hb
    refine (get_leaf g o cap c b w hx (by rw [hc1]; exact hb) (by omega) hcm L hlen (by omega) n hp.symm).mono ?_
    rintro r w' ⟨k1, k2, k3⟩
    obtain ⟨l', e1, e2, e4⟩ := k1 hn
    rw [hlf] at e1
    exact ⟨l', e1, e2, e4, k3⟩
end Go.Proofs.Ytgkddhncfaeidaa

namespace Go.Proofs.Ytgkddhncfaeidaa
open Go.ChangeShapes Go.WideShapes Go.ChangeAt Go.RowKit CrcM PageM
set_option linter.unusedVariables false

set_option maxRecDepth 100000 in
theorem part_key (a b : Int) (r : List Value) (w : World) : (part 48 (Array.mk (.int .i64 a :: .int .i64 b :: r)) 0).run Try.prog w = .ok (.agg #[.int .i64 a, .int .i64 b]) w := by
  have hu : Try.prog.underlying 48 = some (.struct (Try.prog.fieldsOf 48)) := by kernel_rfl
  have hs : (Try.prog.info? 48).map (·.size) = some 2 := by kernel_rfl
  unfold part
  cases hq : Try.prog.info? 48 with
  | none => rw [hq] at hs; cases hs
  | some i =>
    rw [hq] at hs
    have h2 : i.size = 2 := by simpa using hs
    simp [isAgg, sizeOf, typeInfo, hq, h2, Sem.run_bind, run_underlying hu]

set_option maxRecDepth 100000 in
theorem eq_key (k : Nat) (hk : 2 ≤ k) (a b : Int) (w : World) : (Op.equalIn k 48 (.agg #[.int .i64 a, .int .i64 b]) (.agg #[.int .i64 a, .int .i64 b])).run Try.prog w = .ok true w := by
  obtain ⟨d, rfl⟩ : ∃ d, k = d + 1 + 1 := ⟨k - 2, by omega⟩
  have ht : Try.prog.underlying 48 = some (.struct (Try.prog.fieldsOf 48)) := by kernel_rfl
  have hp : Try.prog.stoodInHeld 48 = false := by kernel_rfl
  have hf : (Try.prog.fieldsOf 48).toList = [⟨"Series", 3, 0, false, "", "", 0⟩, ⟨"Start", 2, 1, false, "", "", 8⟩] := by kernel_rfl
  have h := run_equalIn_agg (P := Try.prog) w (d + 1) 48 #[.int .i64 a, .int .i64 b] #[.int .i64 a, .int .i64 b] ht hp
  rw [hf] at h
  rw [h]
  have hki : Try.prog.plainKey 3 = true := by kernel_rfl
  have hk6 : Try.prog.plainKey 2 = true := by kernel_rfl
  have e0 := run_part_plain (P := Try.prog) w hki (xs := #[.int .i64 a, .int .i64 b]) (off := 0) (v := .int .i64 a) rfl
  have e1 := run_part_plain (P := Try.prog) w hk6 (xs := #[.int .i64 a, .int .i64 b]) (off := 1) (v := .int .i64 b) rfl
  have qi := fun z : Int => run_equalIn_int (P := Try.prog) w d 3 .i64 .i64 z z Try.underlying3
  have q6 := fun z : Int => run_equalIn_int (P := Try.prog) w d 2 .i64 .i64 z z Try.underlying2
  simp [Op.eqFields, Sem.run_bind, e0, e1, qi, q6]

set_option maxRecDepth 100000 in
theorem eq_ent (k : Nat) (hk : 3 ≤ k) (e : EntD) (w : World) : (Op.equalIn k 51 (.agg #[.int .i64 e.se, .int .i64 e.st, .int .i64 e.en, .int .i64 e.ad, .int .i64 e.le, .int .i64 e.cn, .int .i64 e.co, .int .u32 e.cr]) (.agg #[.int .i64 e.se, .int .i64 e.st, .int .i64 e.en, .int .i64 e.ad, .int .i64 e.le, .int .i64 e.cn, .int .i64 e.co, .int .u32 e.cr])).run Try.prog w = .ok true w := by
  obtain ⟨d, rfl⟩ : ∃ d, k = d + 1 + 1 + 1 := ⟨k - 3, by omega⟩
  obtain ⟨xs, hxs⟩ : ∃ xs, xs = #[.int .i64 e.se, .int .i64 e.st, .int .i64 e.en, .int .i64 e.ad, .int .i64 e.le, .int .i64 e.cn, .int .i64 e.co, Value.int .u32 e.cr] := ⟨_, rfl⟩
  rw [← hxs]
  have ht : Try.prog.underlying 51 = some (.struct (Try.prog.fieldsOf 51)) := by kernel_rfl
  have hp : Try.prog.stoodInHeld 51 = false := by kernel_rfl
  have hf : (Try.prog.fieldsOf 51).toList = [⟨"Key", 48, 0, false, "", "", 0⟩, ⟨"End", 2, 2, false, "", "", 16⟩, ⟨"Addr", 3, 3, false, "", "", 24⟩, ⟨"Len", 3, 4, false, "", "", 32⟩, ⟨"Count", 3, 5, false, "", "", 40⟩, ⟨"Codec", 3, 6, false, "", "", 48⟩, ⟨"Crc", 49, 7, false, "", "", 56⟩] := by kernel_rfl
  have h := run_equalIn_agg (P := Try.prog) w (d + 1 + 1) 51 xs xs ht hp
  rw [hf] at h
  rw [h]
  have hki : Try.prog.plainKey 3 = true := by kernel_rfl
  have hk6 : Try.prog.plainKey 2 = true := by kernel_rfl
  have hk3 : Try.prog.plainKey 49 = true := by kernel_rfl
  have e0 : (part 48 xs 0).run Try.prog w = .ok (.agg #[.int .i64 e.se, .int .i64 e.st]) w := by rw [hxs]; exact part_key _ _ _ w
  have e2 := run_part_plain (P := Try.prog) w hk6 (xs := xs) (off := 2) (v := .int .i64 e.en) (by rw [hxs]; rfl)
  have e3 := run_part_plain (P := Try.prog) w hki (xs := xs) (off := 3) (v := .int .i64 e.ad) (by rw [hxs]; rfl)
  have e4 := run_part_plain (P := Try.prog) w hki (xs := xs) (off := 4) (v := .int .i64 e.le) (by rw [hxs]; rfl)
  have e5 := run_part_plain (P := Try.prog) w hki (xs := xs) (off := 5) (v := .int .i64 e.cn) (by rw [hxs]; rfl)
  have e6 := run_part_plain (P := Try.prog) w hki (xs := xs) (off := 6) (v := .int .i64 e.co) (by rw [hxs]; rfl)
  have e7 := run_part_plain (P := Try.prog) w hk3 (xs := xs) (off := 7) (v := .int .u32 e.cr) (by rw [hxs]; rfl)
  have q0 := eq_key (d + 1 + 1) (by omega) e.se e.st w
  have qi := fun z : Int => run_equalIn_int (P := Try.prog) w (d + 1) 3 .i64 .i64 z z Try.underlying3
  have q6 := fun z : Int => run_equalIn_int (P := Try.prog) w (d + 1) 2 .i64 .i64 z z Try.underlying2
  have q3 := fun z : Int => run_equalIn_int (P := Try.prog) w (d + 1) 49 .u32 .u32 z z Try.underlying49
  simp [Op.eqFields, Sem.run_bind, e0, e2, e3, e4, e5, e6, e7, q0, qi, q6, q3]

theorem neq_ent (e : EntD) (w : World) : (binOp .neq 51 (.agg #[.int .i64 e.se, .int .i64 e.st, .int .i64 e.en, .int .i64 e.ad, .int .i64 e.le, .int .i64 e.cn, .int .i64 e.co, .int .u32 e.cr]) (.agg #[.int .i64 e.se, .int .i64 e.st, .int .i64 e.en, .int .i64 e.ad, .int .i64 e.le, .int .i64 e.cn, .int .i64 e.co, .int .u32 e.cr])).run Try.prog w = .ok (.bool false) w := by
  rw [run_neq_struct, eq_ent 10000 (by decide) e w]
  rfl
theorem guard_ent (op : BinOp) (x y : Operand) (C D : Array Value) (w : World) : (eqGuard op 51 x y (.agg C) (.agg D)).run Try.prog w = .ok () w := run_eqGuard_agg w op _ x y C D (by kernel_rfl)
theorem quiet_binOpN {P : Program} {o : Oper} {a : Act} {B : Nat} {w0 : World} {K : Act → Prop} (op : BinOp) (ty : TypeId) (x y : Operand) (t2 : TypeId) (ho : o.op = .binOp op ty x y t2) (vx vy v : Value) (hx : a.eval x = vx) (hy : a.eval y = vy)
    (hg : ∀ W, (eqGuard op ty x y vx vy).run P W = .ok () W) (hr : ∀ W, (binOp op ty vx vy).run P W = .ok v W) (h : K (a.put o.dst v)) : o.quiet P a (fun w' => ∃ x : SubW B w0, w' = x.at_) K := by
  refine ⟨v, ?_, h⟩
  rintro w ⟨y, rfl⟩
  unfold Oper.quietAt execOp
  simp only [ho, Sem.run_bind, Sem.run_pure, Result.andThen_ok, hx, hy, hg, hr]
  exact ⟨rfl, rfl⟩
end Go.Proofs.Ytgkddhncfaeidaa

namespace Go.Proofs.Ytgkddhncfaeidaa
open Go.ChangeShapes Go.WideShapes Go.ChangeAt Go.RowKit CrcM PageM
set_option linter.unusedVariables false

set_option maxRecDepth 100000 in
set_option maxHeartbeats 4000000 in
theorem least_any (n : NodeD) (l : NdL) (k : KeyD) (hk : if n.leaf = true then ∃ e, n.es[0]? = some e ∧ k = e.key else n.ks[0]? = some k) (w : World) (h : NodeAt w n l) :
    Calls Try.prog 18 #[.agg #[.bool n.leaf, .slice l.EA n.es.length l.ec, .slice l.KA n.ks.length l.kc, .slice l.DA n.ds.length l.dc]] w fun e w' => e = .returned (.agg #[.int .i64 k.se, .int .i64 k.st]) ∧ Below w.heap.size w w' := by
  obtain ⟨lf, es, ks, ds⟩ := n
  obtain ⟨EA, ec, KA, kc, DA, dc⟩ := l
  dsimp only at *
  obtain ⟨ne, hne⟩ : ∃ x, es.length = x := ⟨_, rfl⟩
  obtain ⟨nk, hnk⟩ : ∃ x, ks.length = x := ⟨_, rfl⟩
  obtain ⟨nd, hnd⟩ : ∃ x, ds.length = x := ⟨_, rfl⟩
  rw [hne, hnk, hnd]
  cases lf with
  | true =>
    simp only [if_true] at hk
    obtain ⟨e, he, rfl⟩ := hk
    have hpos : 0 < ne := by rw [← hne]; exact (List.getElem?_eq_some_iff.1 he).1
    have d1 : decide ((0 : Int) < (ne : Int)) = true := by simp; omega
    obtain ⟨b, off, rfl, hc⟩ := h.e (by intro e'; dsimp only at e'; rw [e'] at he; simp at he)
    obtain ⟨c0, c1, -⟩ := hc 0 e he
    simp only [Nat.zero_mul, Nat.add_zero] at c0 c1
    have b0 := World.block_lt_of_cell? _ _ c0
    clear hc h hne hnk hnd he
    go_enter Try.func18, Try.ntmps18
    go_wp2_with fail
    exact bodyPost_ret (v := .agg #[.int .i64 e.se, .int .i64 e.st]) (results_cell_row (p := 2) (ty := 46) rfl _ _ (w.heap.size + 1) 46 #[.int .i64 e.se, .int .i64 e.st] (0, 0) _ rfl (heap_alloc2_new _ _ _) Try.underlying46 rfl (by kernel_rfl)) rfl ⟨rfl, below_two (Below.refl _ _)⟩
  | false =>
    simp only [Bool.false_eq_true, if_false] at hk
    have hpos : 0 < nk := by rw [← hnk]; exact (List.getElem?_eq_some_iff.1 hk).1
    have d1 : decide ((0 : Int) < (nk : Int)) = true := by simp; omega
    obtain ⟨b, off, rfl, hc⟩ := h.k (by intro e'; dsimp only at e'; rw [e'] at hk; simp at hk)
    obtain ⟨c0, c1⟩ := hc 0 k hk
    simp only [Nat.zero_mul, Nat.add_zero] at c0 c1
    have b0 := World.block_lt_of_cell? _ _ c0
    clear hc h hne hnk hnd hk
    go_enter Try.func18, Try.ntmps18
    go_wp2_with fail
    exact bodyPost_ret (v := .agg #[.int .i64 k.se, .int .i64 k.st]) (results_cell_row (p := 2) (ty := 46) rfl _ _ (w.heap.size + 1) 46 #[.int .i64 k.se, .int .i64 k.st] (0, 0) _ rfl (heap_alloc2_new _ _ _) Try.underlying46 rfl (by kernel_rfl)) rfl ⟨rfl, below_two (Below.refl _ _)⟩
end Go.Proofs.Ytgkddhncfaeidaa

namespace Go.Proofs.Ytgkddhncfaeidaa
open Go.ChangeShapes Go.WideShapes Go.ChangeAt Go.RowKit CrcM PageM
set_option linter.unusedVariables false

theorem row_stays {w w' : World} {k : Nat} {o : Obj} (h : w.heap[k]? = some o) (hb : Below w.heap.size w w') : w'.heap[k]? = some o := (hb.block k (Array.getElem?_eq_some_iff.1 h).1).trans h
end Go.Proofs.Ytgkddhncfaeidaa

namespace Go.Proofs.Ytgkddhncfaeidaa
open Go.ChangeShapes Go.WideShapes Go.ChangeAt Go.RowKit CrcM PageM
set_option linter.unusedVariables false

theorem row_mono {w : World} {base base' sz n : Nat} {E : TypeId} {v : Value} {us : List Value} (h : w.ownsRow base E sz v n us) (hb : base' ≤ base) : w.ownsRow base' E sz v n us :=
  ⟨h.1, h.2.imp id fun ⟨g, cap, cur, h1, h2, h3⟩ => ⟨g, cap, cur, h1, Nat.le_trans hb h2, h3⟩⟩
end Go.Proofs.Ytgkddhncfaeidaa

namespace Go.Proofs.Ytgkddhncfaeidaa
open Go.ChangeShapes Go.WideShapes Go.ChangeAt Go.RowKit CrcM PageM
set_option linter.unusedVariables false

theorem size_inner (EA KA DA : Option Addr) (ne ec nk kc nd dc : Nat) (w : World) : Calls Try.prog 15 #[.agg #[.bool false, .slice EA ne ec, .slice KA nk kc, .slice DA nd dc]] w fun e w' => e = .returned (.int .i64 (nd : Int)) ∧ Below w.heap.size w w' := by
  go_enter Try.func15, Try.ntmps15
  go_wp2_with fail
  go_ret
  exact ⟨rfl, (Below.refl _ _).alloc (Nat.le_refl _) _⟩

end Go.Proofs.Ytgkddhncfaeidaa

namespace Go.Proofs.Ytgkddhncfaeidaa
open Go.ChangeShapes Go.WideShapes Go.ChangeAt Go.RowKit CrcM PageM
set_option linter.unusedVariables false

theorem flatV_len {α : Type} {f : α → List Value} {m : Nat} (hf : ∀ x, (f x).length = m) : ∀ l : List α, (l.flatMap f).length = l.length * m
  | [] => by simp
  | a :: t => by rw [List.flatMap_cons, List.length_append, hf, flatV_len hf t, List.length_cons, Nat.add_mul, Nat.one_mul, Nat.add_comm]
end Go.Proofs.Ytgkddhncfaeidaa
