/- The built-in copy of bytes into a row that the call owns. No program is named here. -/
import Derived.Test.YtmmkmpjhmbocfaaApp
import Derived.Laws.CopyOwn
namespace Go.Proofs.Ytmmkmpjhmbocfaa
open Go.RowKit

theorem take_map_take {cur : List Value} {xs : List UInt8} (h : cur.take xs.length = xs.map bv) (k : Nat) (hk : k ≤ xs.length) : cur.take k = (xs.take k).map bv := by
  have := congrArg (List.take k) h
  rw [List.take_take, Nat.min_eq_left hk] at this
  rw [this, List.map_take]

theorem own_splice {w w' : World} {base g cap : Nat} {E : TypeId} {pre ys rest : List UInt8} {cur : Array Value} (hown : OwnB w base g cap E (pre ++ rest)) (hcur : w.heap[g]? = some (.cells cur E (0, 0)))
    (hw' : w'.heap[g]? = some (.cells (cur.toList.take pre.length ++ (ys.map bv ++ cur.toList.drop (pre.length + ys.length))).toArray E (0, 0))) (hfit : ys.length ≤ rest.length) :
    OwnB w' base g cap E (pre ++ ys ++ rest.drop ys.length) := by
  obtain ⟨hb, hn, hm, cur', hh, hs, ht⟩ := hown.parts
  rw [hcur] at hh
  injection hh with hh
  injection hh with hh _
  subst hh
  have hsz : cur.toList.length = cap := by simpa using hs
  have hlen : (pre ++ ys ++ rest.drop ys.length).length = (pre ++ rest).length := by simp; omega
  simp only [List.length_append] at hn
  refine ⟨by simp, .inr ⟨g, cap, _, rfl, hb, hw', by rw [hlen]; simpa using hn, hm, ?_, ?_⟩⟩
  · simp; omega
  · rw [hlen, Nat.mul_one, List.length_append]
    have h1 := take_map_take ht pre.length (by simp)
    rw [List.take_left'  rfl] at h1
    have h2 : (cur.toList.drop (pre.length + ys.length)).take (rest.length - ys.length) = (rest.drop ys.length).map bv := by
      have := congrArg (List.drop (pre.length + ys.length)) ht
      rw [List.drop_take, List.length_append, show pre.length + rest.length - (pre.length + ys.length) = rest.length - ys.length by omega] at this
      rw [this, ← List.map_drop, List.drop_append, List.drop_eq_nil_of_le (by omega), List.nil_append, show pre.length + ys.length - pre.length = ys.length by omega]
    rw [h1, List.take_append, List.take_of_length_le (by simp), List.take_append, List.take_of_length_le (by simp; omega)]
    simp only [List.length_map]
    rw [show pre.length + rest.length - pre.length - ys.length = rest.length - ys.length by omega, h2]
    simp only [List.map_append, List.append_assoc]

theorem wpList_copy_bytes {P : Program} {w : World} {ops : Array Oper} {rest : List Oper} {o : Oper} {a : Act} {Q : Exit → Act → World → Prop} (hgd : o.guard = none) (d s : Operand) (dT sT : TypeId)
    (ho : o.op = .call { callee := .builtin .copy, args := #[d, s], argTypes := #[dT, sT] }) (E : TypeId) (hu : P.underlying dT = some (.slice E)) (hsz : (P.info? E).map (·.size) = some 1)
    (base g cap off L c : Nat) (A : Option Addr) (m sc : Nat) (pre tl ys : List UInt8) (hd : a.eval d = .slice (some ⟨g, off, none⟩) L c) (hs : a.eval s = .slice A m sc)
    (hoff : off = pre.length) (hown : OwnB w base g cap E (pre ++ tl)) (hy : BytesAt w A ys) (hm : ys.length = m) (hL : m ≤ L) (hfit : m ≤ tl.length)
    (h : ∀ w', OwnB w' base g cap E (pre ++ ys ++ tl.drop m) → w.grownBy w' (some g) → wpList P ops Q rest (a.put o.dst (goInt (m : Int))) w') : wpList P ops Q (o :: rest) a w := by
  subst hoff
  subst hm
  by_cases h0 : ys = []
  · subst h0
    refine wpList_copy_nothing hgd d s dT sT ho E hu hsz _ _ L c _ sc hd hs (Nat.zero_min _) ?_
    exact h w (by simpa using hown) (World.grownBy.refl w _)
  · obtain ⟨ad, rfl, hc⟩ := byteV_cells hy h0
    obtain ⟨hb, hn, hmx, cur, hh, hs2, ht⟩ := hown.parts
    simp only [List.length_append] at hn
    refine wpList_copy_own hgd d s dT sT ho E hu hsz g pre.length L c ad _ sc hd hs cur E hh (ys.map bv) (by rw [List.length_map]; exact (Nat.min_eq_left hL).symm) hc (by simp; omega) (bv_one ys) ?_
    have hgr : w.grownBy (w.setRow g (cur.toList.take pre.length ++ (ys.map bv ++ cur.toList.drop (pre.length + (ys.map bv).length))).toArray) (some g) :=
      ⟨rfl, rfl, rfl, by simp, fun k hk hne => setRow_other _ _ _ _ (fun e => hne (by rw [e]))⟩
    have := h _ (own_splice hown hh (by have := setRow_heap w g cur (cur.toList.take pre.length ++ (ys.map bv ++ cur.toList.drop (pre.length + (ys.map bv).length))).toArray E (0, 0) hh; rw [List.length_map] at this; rw [List.length_map]; exact this) hfit) hgr
    rw [List.length_map]
    rw [List.length_map] at this
    exact this
end Go.Proofs.Ytmmkmpjhmbocfaa
