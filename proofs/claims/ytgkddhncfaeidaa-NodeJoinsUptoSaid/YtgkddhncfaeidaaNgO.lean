/- Package node's Get of the bytes that Put tells of a node: the node; of those of the other kind an error. -/
import Derived.Test.YtgkddhncfaeidaaNgN
namespace Go.Proofs.Ytgkddhncfaeidaa
open Go.ChangeShapes Go.WideShapes Go.ChangeAt Go.RowKit CrcM PageM
set_option linter.unusedVariables false

theorem nodeB_form {n : NodeD} (hn : okNode n) : ∃ c b, nodeB n = c :: b ∧ c.toNat = n.size ∧ b.length = n.size * sizeP n.leaf ∧ 1 ≤ n.size ∧ n.size ≤ 16 := by
  obtain ⟨h1, h2, h3, h4, h5⟩ := okNode_sizes hn
  refine ⟨_, _, rfl, ?_, ?_, h5, h4⟩
  · rw [UInt8.toNat_ofNat']
    exact Nat.mod_eq_of_lt (by omega)
  · rw [List.length_append, flat_len length_enB, flat_len length_kidB, List.length_zip]
    obtain ⟨lf, es, ks, ds⟩ := n
    unfold okNode at hn
    cases lf
    · simp only [Bool.false_eq_true, if_false] at hn
      obtain ⟨e1, e2, _⟩ := hn
      subst e1
      simp only [NodeD.size, sizeP, Bool.false_eq_true, if_false, List.length_nil]
      omega
    · simp only [if_true] at hn
      obtain ⟨e1, e2, _⟩ := hn
      subst e1 e2
      simp only [NodeD.size, sizeP, if_true, List.length_nil]
      omega
theorem parse_leaf {n : NodeD} (hl : n.leaf = true) (hn : okNode n) (hi : inNode n) {c : UInt8} {b : List UInt8} (e : nodeB n = c :: b) (hc : c.toNat = n.size) : (⟨true, entsP c.toNat b, [], []⟩ : NodeD) = n := by
  obtain ⟨lf, es, ks, ds⟩ := n
  subst hl
  unfold okNode at hn
  simp only [if_true] at hn
  obtain ⟨e1, e2, h3⟩ := hn
  subst e1 e2
  rw [hc]
  unfold nodeB at e
  injection e with _ e
  subst e
  simp only [NodeD.size, if_true, List.zip_nil_left, List.flatMap_nil, List.append_nil]
  rw [entsP_enB es (fun e he => ⟨okEnts_mem h3 e he, hi.1 e he⟩)]
theorem okKeys_mem {ks : List KeyD} (h : okKeys ks) : ∀ k ∈ ks, okKey k.se := fun k hk => by
  obtain ⟨i, hi, rfl⟩ := List.getElem_of_mem hk
  obtain ⟨e', h1, h2, _⟩ := h.2.2 i hi
  rw [List.getElem?_eq_getElem hi, Option.some.injEq] at h1
  rwa [h1]
theorem parse_inner {n : NodeD} (hl : n.leaf = false) (hn : okNode n) (hi : inNode n) {c : UInt8} {b : List UInt8} (e : nodeB n = c :: b) (hc : c.toNat = n.size) : (⟨false, [], keysP c.toNat b, kidsP c.toNat b⟩ : NodeD) = n := by
  obtain ⟨lf, es, ks, ds⟩ := n
  subst hl
  unfold okNode at hn
  simp only [Bool.false_eq_true, if_false] at hn
  obtain ⟨e1, e2, h3, h4⟩ := hn
  subst e1
  rw [hc]
  unfold nodeB at e
  injection e with _ e
  subst e
  simp only [NodeD.size, Bool.false_eq_true, if_false, List.flatMap_nil, List.nil_append]
  have hz : (ks.zip ds).length = ds.length := by rw [List.length_zip, e2, Nat.min_self]
  have k1 := keysP_kidB (ks.zip ds) (fun p hp => ⟨okKeys_mem h3 _ (List.of_mem_zip hp).1, hi.2 _ (List.of_mem_zip hp).1⟩)
  have k2 := kidsP_kidB (ks.zip ds) (fun p hp => okKids_mem h4 _ (List.of_mem_zip hp).2)
  rw [hz, List.map_fst_zip (by rw [e2]; exact Nat.le_refl _)] at k1
  rw [hz, List.map_snd_zip (by rw [e2]; exact Nat.le_refl _)] at k2
  rw [k1, k2]

theorem get_back (n : NodeD) (hn : okNode n) (hi : inNode n) (A : Option Addr) (cap L : Nat) (hL : L = (nodeB n).length) (w : World) (hx : BytesAt w A (nodeB n)) (hc : L ≤ cap) (hcm : cap ≤ maxLen) :
    Calls Try.prog 17 #[.bool n.leaf, .slice A L cap] w fun e w' => ∃ l' : NdL, e = .returned (.tuple #[.agg #[.bool n.leaf, .slice l'.EA n.es.length l'.ec, .slice l'.KA n.ks.length l'.kc, .slice l'.DA n.ds.length l'.dc], .int .i64 0]) ∧ NodeAt w' n l' ∧ Below w.heap.size w w' := by
  obtain ⟨c, b, e, hc1, hb, h1, h2⟩ := nodeB_form hn
  rw [e] at hL hx
  obtain ⟨g, o, hA, _⟩ := hx (by simp)
  subst hA
  have hlen : L = b.length + 1 := by simpa using hL
  cases hlf : n.leaf
  · have hp := parse_inner hlf hn hi e hc1
    rw [hlf] at hb
    have hz : sizeP false = 14 := rfl
    rw [hz] at hb
    refine (get_inner g o cap c b w hx (by rw [hc1]; exact hb) (by omega) hcm L hlen (by omega) n hp.symm).mono ?_
    rintro r w' ⟨k1, k2, k3⟩
    obtain ⟨l', e1, e2⟩ := k1 hn
    rw [hlf] at e1
    exact ⟨l', e1, e2, k3⟩
  · have hp := parse_leaf hlf hn hi e hc1
    rw [hlf] at hb
    have hz : sizeP true = 30 := rfl
    rw [hz] at hb
    refine (get_leaf g o cap c b w hx (by rw [hc1]; exact hb) (by omega) hcm L hlen (by omega) n hp.symm).mono ?_
    rintro r w' ⟨k1, k2, k3⟩
    obtain ⟨l', e1, e2⟩ := k1 hn
    rw [hlf] at e1
    exact ⟨l', e1, e2, k3⟩
theorem get_wrong (n : NodeD) (hn : okNode n) (lf : Bool) (hlf : lf = !n.leaf) (A : Option Addr) (cap L : Nat) (hL : L = (nodeB n).length) (w : World) (hx : BytesAt w A (nodeB n)) :
    Calls Try.prog 17 #[.bool lf, .slice A L cap] w fun e w' => e = .returned (.tuple #[.agg zeroNd, .int .i64 3]) ∧ Below w.heap.size w w' := by
  obtain ⟨c, b, e, hc1, hb, h1, h2⟩ := nodeB_form hn
  rw [e] at hL hx
  subst hlf
  have hlen : L = b.length + 1 := by simpa using hL
  have hs : ∀ x, sizeP x = 30 ∨ sizeP x = 14 := by intro x; cases x <;> simp [sizeP]
  refine get_off (!n.leaf) A cap L c b w hx hlen ?_ ?_
  · rcases hs n.leaf with h | h <;> rw [h] at hb <;> omega
  · rw [hc1, hb]
    cases n.leaf <;> simp [sizeP] <;> omega
end Go.Proofs.Ytgkddhncfaeidaa
