/- Several texts in one: Which pages are taken, one by one. Pages among bytes: what a written page leaves of the others; page's calls told by pages. A disk beside a view and a change: which blocks are whose. -/
import Derived.Test.YtgkddhncfaeidaaPart23
import Derived.Test.YtgkddhncfaeidaaPart15
import Derived.Test.YtgkddhncfaeidaaPart20
set_option linter.unusedSimpArgs false
set_option linter.unusedVariables false
namespace Go.Proofs.Ytgkddhncfaeidaa
open Go.RowKit CrcM PageM
set_option linter.unusedVariables false

/-- The first free page. -/
def firstP (p : Nat) (U V : List Bool) (a : Nat) : Prop := fits p U V 1 a ∧ ∀ a', a' < a → ¬ fits p U V 1 a'
def marks (U : List Bool) (qs : List Nat) : List Bool := qs.foldl (fun U a => markN U a true 1) U
def Picks (p : Nat) (V : List Bool) : List Bool → List Nat → Prop
  | _, [] => True
  | U, a :: qs => firstP p U V a ∧ Picks p V (markN U a true 1) qs
theorem marks_cons (U : List Bool) (a : Nat) (qs : List Nat) : marks U (a :: qs) = marks (markN U a true 1) qs := rfl
theorem marks_snoc (U : List Bool) (qs : List Nat) (a : Nat) : marks U (qs ++ [a]) = markN (marks U qs) a true 1 := by simp [marks, List.foldl_append]
theorem marks_append (U : List Bool) (qs bs : List Nat) : marks U (qs ++ bs) = marks (marks U qs) bs := by simp [marks, List.foldl_append]
theorem length_marks (qs : List Nat) : ∀ U : List Bool, (marks U qs).length = U.length := by
  induction qs with
  | nil => intro U; rfl
  | cons a qs ih => intro U; rw [marks_cons, ih, length_markN]
theorem Picks.append {p : Nat} {V : List Bool} : ∀ {qs bs : List Nat} {U : List Bool}, Picks p V U (qs ++ bs) → Picks p V U qs ∧ Picks p V (marks U qs) bs
  | [], _, _, h => ⟨trivial, h⟩
  | a :: qs, bs, U, h => ⟨⟨h.1, (Picks.append h.2).1⟩, (Picks.append h.2).2⟩
theorem Picks.at {p : Nat} {V : List Bool} {qs : List Nat} {U : List Bool} (h : Picks p V U qs) {k a : Nat} (ha : qs[k]? = some a) : firstP p (marks U (qs.take k)) V a := by
  have hk : k < qs.length := (List.getElem?_eq_some_iff.1 ha).1
  have e : qs.take k ++ (a :: qs.drop (k + 1)) = qs := by
    have h2 := List.drop_eq_getElem_cons hk
    rw [(List.getElem?_eq_some_iff.1 ha).2] at h2
    rw [← h2, List.take_append_drop]
  rw [← e] at h
  exact (Picks.append h).2.1
theorem okM_mark {p a : Nat} {U : List Bool} (h : okM (p : Int) U) (hU : U.length = 512) (ha : a + 1 ≤ p) : okM (p : Int) (markN U a true 1) := by
  obtain ⟨h1, h2, h3⟩ := h
  have hp : p ≤ 512 := by omega
  refine ⟨h1, h2, fun j hj => ?_⟩
  have := h3 j hj
  unfold okAt at this ⊢
  rw [getD_markN U a true j 1 (by omega)]
  by_cases hja : a ≤ j ∧ j < a + 1
  · rw [if_pos hja]
    have : ¬ ((p : Int) ≤ (j : Int)) := by omega
    simp [this]
  · rw [if_neg hja]
    exact this
theorem okM_marks {p : Nat} {V : List Bool} : ∀ {qs : List Nat} {U : List Bool}, Picks p V U qs → okM (p : Int) U → U.length = 512 → okM (p : Int) (marks U qs)
  | [], _, _, h, _ => h
  | a :: qs, U, hp, h, hU => by
    rw [marks_cons]
    exact okM_marks hp.2 (okM_mark h hU hp.1.1.1) (by rw [length_markN]; exact hU)
theorem take_snoc {α : Type} {l : List α} {k : Nat} {x : α} (h : l[k]? = some x) : l.take (k + 1) = l.take k ++ [x] := by
  rw [List.take_add_one, h]
  rfl

def leastK (n : NodeD) : KeyD := if n.leaf = true then (n.es.head?.map EntD.key).getD ⟨0, 0⟩ else n.ks.head?.getD ⟨0, 0⟩
theorem leastK_has {n : NodeD} (h : 1 ≤ n.size) (hk : n.leaf = false → n.ks.length = n.ds.length) : if n.leaf = true then ∃ e, n.es[0]? = some e ∧ leastK n = e.key else n.ks[0]? = some (leastK n) := by
  unfold leastK
  unfold NodeD.size at h
  by_cases hl : n.leaf = true
  · rw [if_pos hl, if_pos hl]
    rw [if_pos hl] at h
    cases he : n.es with
    | nil => rw [he] at h; simp at h
    | cons e t => exact ⟨e, rfl, rfl⟩
  · rw [if_neg hl, if_neg hl]
    rw [if_neg hl] at h
    have h2 := hk (by simpa using hl)
    cases he : n.ks with
    | nil => rw [he] at h2; simp at h2; omega
    | cons e t => rfl

theorem typed_keptF {w w' : World} {base sz n g : Nat} {E T : TypeId} {v : Value} {us : List Value} {cs : Array Value} {fr : Nat × Nat} (h : w.ownsRow base E sz v n us) (hg : w.grownBy w' v.ownBlock) (hT : T ≠ E) (h0 : w.heap[g]? = some (.cells cs T fr)) : w'.heap[g]? = w.heap[g]? :=
  hg.block g (Array.getElem?_eq_some_iff.1 h0).1 (fun e => by
    rcases h.2 with ⟨rfl, _⟩ | ⟨q, cap, cur, rfl, hb, hq, _⟩
    · simp [Value.ownBlock] at e
    · obtain rfl : g = q := by simpa [Value.ownBlock] using e
      rw [hq] at h0
      cases h0
      exact hT rfl)
theorem cellsAt_new (W : World) (us : List Value) (T : TypeId) : CellsAt (W.alloc (.cells us.toArray T)) (some ⟨W.heap.size, 0, none⟩) us := fun _ => ⟨_, 0, rfl, fun j hj => by
  rw [Nat.zero_add]
  exact nd_cell (heap_alloc_new W _) j _ (by simp [hj])⟩
/-- All blocks of other types than E stay. -/
structure KeptNot (E : TypeId) (w w1 : World) : Prop where
  os : w1.os = w.os
  tape : w1.tape = w.tape
  output : w1.output = w.output
  size : w.heap.size ≤ w1.heap.size
  kept : ∀ (k : Nat) (cs : Array Value) (T : TypeId) (fr : Nat × Nat), w.heap[k]? = some (Obj.cells cs T fr) → T ≠ E → w1.heap[k]? = w.heap[k]?
theorem KeptNot.of_row {w w1 : World} {base sz n : Nat} {E : TypeId} {v : Value} {us : List Value} (h : w.ownsRow base E sz v n us) (hg : w.grownBy w1 v.ownBlock) : KeptNot E w w1 := ⟨hg.os, hg.tape, hg.output, hg.size, fun k cs T fr hk hT => typed_keptF h hg hT hk⟩
theorem KeptNot.of_cell {w : World} {g i : Nat} {E : TypeId} {cs : Array Value} {fr : Nat × Nat} (h : w.heap[g]? = some (.cells cs E fr)) (u : Value) : KeptNot E w (w.setCell ⟨g, i, none⟩ u) := by
  have h1 := grown_setC (World.grownBy.refl w (some g)) i u
  exact ⟨h1.os, h1.tape, h1.output, h1.size, fun k cs' T fr' hk hT => h1.block k (Array.getElem?_eq_some_iff.1 hk).1 (fun e => by cases e; rw [hk] at h; cases h; exact hT rfl)⟩
theorem KeptNot.of_setRow {w : World} {g : Nat} {E : TypeId} {cs : Array Value} {fr : Nat × Nat} (h : w.heap[g]? = some (.cells cs E fr)) (C : Array Value) : KeptNot E w (w.setRow g C) :=
  ⟨rfl, rfl, rfl, by simp, fun k cs' T fr' hk hT => setRow_other _ _ _ _ (fun e => by subst e; rw [hk] at h; cases h; exact hT rfl)⟩
theorem HasTy.of_row {w : World} {base sz n c : Nat} {E : TypeId} {A : Option Addr} {us : List Value} (h : w.ownsRow base E sz (.slice A n c) n us) (hn : n ≠ 0) : HasTy w A E := by
  rcases h.2 with ⟨_, h0⟩ | ⟨g, cap, cur, hv, _, hg, _⟩
  · exact absurd h0 hn
  · cases hv
    exact ⟨g, 0, cur, _, rfl, hg⟩
theorem KeptNot.of_below {w w1 : World} {E : TypeId} (h : Below w.heap.size w w1) : KeptNot E w w1 := ⟨h.os, h.tape, h.output, h.size, fun k cs T fr hk _ => h.block k (Array.getElem?_eq_some_iff.1 hk).1⟩
theorem KeptNot.trans {w w1 w2 : World} {E : TypeId} (h : KeptNot E w w1) (k : KeptNot E w1 w2) : KeptNot E w w2 :=
  ⟨k.os.trans h.os, k.tape.trans h.tape, k.output.trans h.output, Nat.le_trans h.size k.size, fun i cs T fr hi hT => by
    have h1 := h.kept i cs T fr hi hT
    exact (k.kept i cs T fr (h1.trans hi) hT).trans h1⟩
theorem KeptNot.heap {w w1 : World} {E : TypeId} (h : KeptNot E w w1) {k : Nat} {cs : Array Value} {T : TypeId} {fr : Nat × Nat} (hk : w.heap[k]? = some (Obj.cells cs T fr)) (hT : T ≠ E) : w1.heap[k]? = some (Obj.cells cs T fr) := (h.kept k cs T fr hk hT).trans hk
theorem KeptNot.row {w w1 : World} {E E' : TypeId} (h : KeptNot E w w1) {base sz n : Nat} {v : Value} {us : List Value} (R : w.ownsRow base E' sz v n us) (hne : E' ≠ E) : w1.ownsRow base E' sz v n us := row_keep R (fun k cur _ hc => h.kept k cur _ _ hc hne)
theorem KeptNot.chg {w w1 : World} {E : TypeId} (h : KeptNot E w w1) {gc gv p B0 : Nat} {U V : List Bool} {lv : Value} {L : List (Nat × (NodeD × NdL))} (C : ChgS w gc gv p B0 U V lv L) (h1 : 163 ≠ E) (h2 : 176 ≠ E) : ChgS w1 gc gv p B0 U V lv L :=
  ⟨C.chg.keep (h.kept _ _ _ _ C.chg h1), h.row C.row h2, C.B0⟩
theorem KeptNot.node {w w1 : World} {E : TypeId} (h : KeptNot E w w1) {n : NodeD} {l : NdL} (N : NodeT w n l) (h1 : 77 ≠ E) (h2 : 46 ≠ E) (h3 : 3 ≠ E) : NodeT w1 n l :=
  N.keep (fun b cs T fr hb hT => h.kept b cs T fr hb (by rcases hT with rfl | rfl | rfl <;> assumption))
end Go.Proofs.Ytgkddhncfaeidaa

namespace Go.Proofs.Ytgkddhncfaeidaa
open Go.RowKit CrcM PageM
set_option linter.unusedVariables false

/-- The bytes of page a. -/
def pageOf (nw : List UInt8) (a : Nat) : List UInt8 := (nw.drop (256 * a)).take 256
theorem rawN_four {nw bs : List UInt8} {a : Nat} (hb : bs.length = 256) : rawN nw (256 * a) bs 4 = nw.take (256 * a) ++ bs ++ nw.drop (256 * a + 256) := by
  unfold rawN
  rw [show 64 * 4 = 256 from rfl, List.take_of_length_le (by omega : bs.length ≤ 256)]
theorem page_same {nw bs : List UInt8} {a : Nat} (h : 256 * a + 256 ≤ nw.length) (hb : bs.length = 256) : pageOf (rawN nw (256 * a) bs 4) a = bs := by
  rw [rawN_four hb]
  unfold pageOf
  rw [List.append_assoc, List.drop_left' (by rw [List.length_take]; omega)]
  exact List.take_left' hb
theorem page_other {nw bs : List UInt8} {a a' : Nat} (h : 256 * a + 256 ≤ nw.length) (hb : bs.length = 256) (hne : a' ≠ a) : pageOf (rawN nw (256 * a) bs 4) a' = pageOf nw a' := by
  rw [rawN_four hb]
  unfold pageOf
  have hl : (nw.take (256 * a)).length = 256 * a := by rw [List.length_take]; omega
  rcases Nat.lt_or_ge a' a with h1 | h1
  · rw [List.append_assoc, List.drop_append_of_le_length (by rw [hl]; omega), List.take_append_of_le_length (by rw [List.length_drop, hl]; omega), List.drop_take, List.take_take, Nat.min_eq_left (by omega)]
  · have hl2 : (nw.take (256 * a) ++ bs).length = 256 * a + 256 := by rw [List.length_append, hl, hb]
    rw [show 256 * a' = (256 * a + 256) + (256 * a' - (256 * a + 256)) by omega, ← List.drop_drop, List.drop_left' hl2, List.drop_drop]
section
variable {w w' : World} {B N g gs gn L cs cn : Nat} {rw : Value} {st nw : List UInt8} {ws : List (Nat × List UInt8)} {on : Bool} {left : Int}

theorem Dk.outer_below (h : Dk w B N g gs gn rw L cs cn st nw ws on left) (ho : OuterX (DkX g gn rw) w w') : Below B w w' := by
  have h1 := h.gB
  have h2 := h.now.parts.1
  have h3 := h.blk
  have h4 := h.NN
  have h5 := h.gN
  refine ⟨ho.os, ho.tape, ho.output, ho.size, fun k hk => ho.block k (by omega) ?_⟩
  rintro (e | e | e)
  · omega
  · omega
  · have := h3 _ e; omega

/-- What a page that was written leaves. -/
def WrotePg (w w' : World) (B g gs gn : Nat) (rw : Value) (L cs cn : Nat) (st nw : List UInt8) (ws : List (Nat × List UInt8)) (a : Nat) (bs : List UInt8) : Prop :=
  (∃ rw' ws' nw', Dk w' B w'.heap.size g gs gn rw' L cs cn st nw' ws' true (-1) ∧ ws'.length = ws.length + 4 ∧ pageOf nw' a = bs ∧ (∀ a', a' ≠ a → pageOf nw' a' = pageOf nw a') ∧ Moved w rw.ownBlock rw'.ownBlock) ∧ OuterX (DkX g gn rw) w w' ∧ Below B w w'

theorem wrotePg (h : Dk w B N g gs gn rw L cs cn st nw ws on left) {a : Nat} {bs : List UInt8} (ha : 256 * a + 256 ≤ L) (hb : bs.length = 256)
    (hd : (∃ rw' ws', Dk w' B w'.heap.size g gs gn rw' L cs cn st (rawN nw (256 * a) bs 4) ws' true (-1) ∧ ws'.length = ws.length + 4 ∧ Moved w rw.ownBlock rw'.ownBlock) ∧ OuterX (DkX g gn rw) w w') : WrotePg w w' B g gs gn rw L cs cn st nw ws a bs := by
  obtain ⟨⟨rw', ws', h1, h2, h3⟩, h4⟩ := hd
  exact ⟨⟨rw', ws', _, h1, h2, page_same (by rw [h.lnw]; exact ha) hb, fun a' hne => page_other (by rw [h.lnw]; exact ha) hb hne, h3⟩, h4, h.outer_below h4⟩

theorem pwrite_pg (h : Dk w B N g gs gn rw L cs cn st nw ws true (-1)) (hws : ws.length ≤ 500) (k : UInt8) (m gg : Nat) (b PP : List UInt8) (eP : PP = putP ⟨k, (m : Int), gg, b⟩) (hk : isK k = true) (hm : m < 512) (hg : gg < 18446744073709551616) (hb : b.length ≤ 238) (hmL : 256 * m + 256 ≤ L) (A : Option Addr) (c : Nat) (hx : BytesAt w A b) (hbc : b.length ≤ c) (C : Array Value) (eC : C = cellsC ⟨k, (m : Int), gg, b⟩ A c) :
    Calls Try.prog 97 #[.agg tab, .pointer (some ⟨g, 0, none⟩), .agg C] w fun e w' => e = .returned (.int .i64 0) ∧ WrotePg w w' B g gs gn rw L cs cn st nw ws m PP := by
  subst eP
  exact (pwrite_ok h hws k m gg b hk hm hg hb hmL A c hx hbc C eC).mono fun e w' ⟨h1, h2⟩ => ⟨h1, wrotePg h hmL (length_putP _ hb) h2⟩

theorem told_put (k : UInt8) (m g : Nat) (b : List UInt8) (hk : isK k = true) (hm : m < 512) (hg : g < 18446744073709551616) (hb : b.length ≤ 238) :
    numOf (putP ⟨k, (m : Int), g, b⟩) = 0 ∧ toldP (putP ⟨k, (m : Int), g, b⟩) = ⟨k, (m : Int), g, b⟩ := by
  have hgd := good_put k m g b hk hm hg hb
  have hl : ¬ (putP ⟨k, (m : Int), g, b⟩).length ≠ 256 := fun h => h (length_putP _ hb)
  refine ⟨?_, ?_⟩
  · simp only [numOf, if_pos hgd, if_neg hl]
  · simp only [toldP, if_pos hgd]
    exact (parse_put k m g b hm hg hb).2
/-- Read where a page's bytes stand: as that kind, at that place. -/
theorem pread_yes (h : Dk w B N g gs gn rw L cs cn st nw ws true left) (za : Int) (a : Nat) (hza : za = (a : Int)) (hin : 256 * a + 256 ≤ L) (k : UInt8) (gg : Nat) (b : List UInt8) (hk : isK k = true) (hg : gg < 18446744073709551616) (hb : b.length ≤ 238)
    (PP : List UInt8) (eP : PP = putP ⟨k, (a : Int), gg, b⟩) (hxs : pageOf nw a = PP) (zk : Int) (hzk : zk = (k.toNat : Int)) :
    Calls Try.prog 104 #[.agg tab, .pointer (some ⟨g, 0, none⟩), .int .i64 za, .int .u8 zk] w fun e w' =>
      (∃ A' c', e = .returned (.tuple #[.agg (cellsC ⟨k, (a : Int), gg, b⟩ A' c'), .int .i64 0]) ∧ BytesAt w' A' b ∧ b.length ≤ c' ∧ c' ≤ maxLen ∧ ∀ a, A' = some a → w.heap.size ≤ a.block) ∧ Below w.heap.size w w' := by
  subst hzk
  have hh := h.hi
  obtain ⟨t1, t2⟩ := told_put k a gg b hk (by omega) hg hb
  rw [← eP] at t1 t2
  refine (pread_any h za a hza hin k PP hxs).mono fun e w' ⟨hr, hb⟩ => ⟨?_, hb⟩
  rcases hr with ⟨_, A', c', h2, h3, h4, h4m, h5⟩ | ⟨h1, _⟩
  · rw [t2] at h2 h3 h4
    exact ⟨A', c', h2, h3, h4, h4m, h5⟩
  · exact absurd ⟨t1, by rw [t2], by rw [t2]⟩ h1
end
end Go.Proofs.Ytgkddhncfaeidaa

namespace Go.Proofs.Ytgkddhncfaeidaa
open Go.RowKit CrcM PageM
set_option linter.unusedVariables false

section
variable {w w' : World} {B N g gs gn L cs cn : Nat} {rw : Value} {st nw : List UInt8} {ws : List (Nat × List UInt8)} {on : Bool} {left : Int}
/-- What leaves the disk's own blocks alone leaves the disk. -/
theorem Dk.keepX (h : Dk w B N g gs gn rw L cs cn st nw ws on left) (hs : w.heap.size ≤ w'.heap.size) (kg : w'.heap[g]? = w.heap[g]?) (ks : w'.heap[gs]? = w.heap[gs]?) (kn : w'.heap[gn]? = w.heap[gn]?) (kw : ∀ k, rw.ownBlock = some k → w'.heap[k]? = w.heap[k]?) : Dk w' B N g gs gn rw L cs cn st nw ws on left :=
  { h with
    head := kg.trans h.head
    stay := h.stay.keep ks
    now := h.now.keep kn
    wait := by
      rcases h.wait.2 with ⟨h0, h1⟩ | ⟨g', cap', cur, hv, hb, hh, hr⟩
      · exact ⟨h.wait.1, .inl ⟨h0, h1⟩⟩
      · exact ⟨h.wait.1, .inr ⟨g', cap', cur, hv, hb, (kw g' (by rw [hv]; rfl)).trans hh, hr⟩⟩
    NN := Nat.le_trans h.NN hs }
theorem Dk.tyN (h : Dk w B N g gs gn rw L cs cn st nw ws on left) : ∃ c, w.heap[gn]? = some (.cells c 5 (0, 0)) := by
  obtain ⟨_, _, _, cur, hc, _⟩ := h.now.parts
  exact ⟨cur, hc⟩
theorem Dk.notX (h : Dk w B N g gs gn rw L cs cn st nw ws on left) {k : Nat} {c : Array Value} {T : TypeId} {fr : Nat × Nat} (hk : w.heap[k]? = some (.cells c T fr)) (h1 : T ≠ 159) (h2 : T ≠ 5 ∨ N ≤ k) (h3 : T ≠ 211) : ¬ DkX g gn rw k := by
  rintro (rfl | rfl | e)
  · have h0 := h.head
    rw [hk] at h0
    cases h0
    exact h1 rfl
  · rcases h2 with h2 | h2
    · obtain ⟨cur, hc⟩ := h.tyN
      rw [hk] at hc
      cases hc
      exact h2 rfl
    · have := h.nN
      omega
  · rcases h.wait.2 with ⟨h0, _⟩ | ⟨q, cap, cur, hv, _, hq, _⟩
    · rw [h0] at e
      simp [Value.ownBlock] at e
    · rw [hv] at e
      obtain rfl : q = k := by simpa [Value.ownBlock] using e
      rw [hk] at hq
      cases hq
      exact h3 rfl
end
end Go.Proofs.Ytgkddhncfaeidaa
