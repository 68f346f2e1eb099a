/- Several texts in one: Package node's Split: no part, one, or the parts of both halves. A view and a change in memory: what stands where. A region that draws its order: a head walked by its ways, then a tail in one forced order, which may change what the head reads. No program is named here. -/
import Derived.Test.YtgkddhncfaeidaaPart13
import Derived.Test.YtgkddhncfaeidaaPart01
import Derived.Test.YtgkddhncfaeidaaPart02
import Derived.Test.YtgkddhncfaeidaaPart03
import Derived.Test.YtgkddhncfaeidaaPart05
import Derived.Deep.MidRow
import Derived.Test.YtgkddhncfaeidaaPart04
set_option linter.unusedSimpArgs false
set_option linter.unusedVariables false
namespace Go.Proofs.Ytgkddhncfaeidaa
open Go.ChangeShapes Go.WideShapes Go.ChangeAt Go.RowKit CrcM PageM
set_option linter.unusedVariables false

theorem infoNodeN : (Try.prog.info? 34).map (fun i => (i.zero, i.size, i.bytes)) = some (some (.agg #[.bool false, .slice none 0 0, .slice none 0 0, .slice none 0 0]), 4, 80) := by kernel_rfl
def ndP (p : NodeD × NdL) : List Value := [.bool p.1.leaf, .slice p.2.EA p.1.es.length p.2.ec, .slice p.2.KA p.1.ks.length p.2.kc, .slice p.2.DA p.1.ds.length p.2.dc]
theorem lenNdP (p : NodeD × NdL) : (ndP p).length = 4 := rfl
theorem ndP_one (p : NodeD × NdL) : ∀ u ∈ ndP p, u.oneCell' = true := by
  intro u hu
  simp [ndP] at hu
  rcases hu with rfl | rfl | rfl | rfl <;> rfl
end Go.Proofs.Ytgkddhncfaeidaa

namespace Go.Proofs.Ytgkddhncfaeidaa
open Go.RowKit CrcM PageM
set_option linter.unusedVariables false

/-! ### Cells laid into the middle of a block -/
def spl : List Value → Nat → List Value → List Value
  | l, _, [] => l
  | l, o, v :: r => spl (l.set o v) (o + 1) r
theorem spl_mid : ∀ (V X Y Z : List Value), Y.length = V.length → spl (X ++ (Y ++ Z)) X.length V = X ++ (V ++ Z)
  | [], X, Y, Z, h => by
    obtain rfl : Y = [] := List.length_eq_zero_iff.1 (by simpa using h)
    rfl
  | v :: r, X, Y, Z, h => by
    obtain ⟨y, Y', rfl⟩ : ∃ y Y', Y = y :: Y' := by
      cases Y with
      | nil => simp at h
      | cons y Y' => exact ⟨y, Y', rfl⟩
    have h1 : (X ++ (y :: Y' ++ Z)).set X.length v = (X ++ [v]) ++ (Y' ++ Z) := by simp
    show spl ((X ++ (y :: Y' ++ Z)).set X.length v) (X.length + 1) r = _
    rw [h1, show X.length + 1 = (X ++ [v]).length by simp, spl_mid r (X ++ [v]) Y' Z (by simpa using h)]
    simp
theorem heap_setCells (g : Nat) (T : TypeId) : ∀ (vs : List Value) (w : World) (o : Nat) (cs : List Value), w.heap[g]? = some (.cells cs.toArray T (0, 0)) → (w.setCells g o vs).heap[g]? = some (.cells (spl cs o vs).toArray T (0, 0))
  | [], _, _, _, h => h
  | v :: r, w, o, cs, h => by
    have h1 := heap_setCell_same w g o cs.toArray T v h
    rw [List.setIfInBounds_toArray] at h1
    exact heap_setCells g T r _ (o + 1) _ h1
theorem grown_setCells (g : Nat) : ∀ (vs : List Value) (w : World) (o : Nat), w.grownBy (w.setCells g o vs) (some g)
  | [], w, _ => ⟨rfl, rfl, rfl, Nat.le_refl _, fun _ _ _ => rfl⟩
  | v :: r, w, o => by
    have h1 : w.grownBy (w.setCell ⟨g, o, none⟩ v) (some g) := grown_setC (World.grownBy.refl w (some g)) o v
    exact h1.trans' (grown_setCells g r _ (o + 1))
theorem range_of_block {w : World} {g o : Nat} {T : TypeId} {cs X Y Z : List Value} (h : w.heap[g]? = some (.cells cs.toArray T (0, 0))) (hc : cs = X ++ (Y ++ Z)) (ho : X.length = o) : w.rangeAt g o Y := fun j v hv => by
  have hj : j < Y.length := (List.getElem?_eq_some_iff.1 hv).1
  refine blk_cell h (o + j) v ?_
  rw [List.getElem?_toArray, hc, ← ho, List.getElem?_append_right (by omega), show X.length + j - X.length = j by omega, List.getElem?_append_left hj]
  exact hv
theorem there_of_block {w : World} {g : Nat} {T : TypeId} {cs : List Value} (h : w.heap[g]? = some (.cells cs.toArray T (0, 0))) (o n : Nat) (hn : o + n ≤ cs.length) : w.there g o n := fun j hj => by
  have h1 : cs[o + j]? = some (cs[o + j]'(by omega)) := List.getElem?_eq_getElem _
  exact ⟨by rw [blk_cell h (o + j) _ (by rw [List.getElem?_toArray]; exact h1)]; rfl, by simp [World.frozen?, h]⟩

/-- A load out of the middle of a block yields the same in every world of the class. -/
theorem quiet_load_mid {P : Program} {o : Oper} {a : Act} {B : Nat} {w0 : World} {K : Act → Prop} (ty : TypeId) (x : Operand) (ho : o.op = .load ty x)
    (g off : Nat) (hx : a.eval x = .pointer (some ⟨g, off, none⟩)) (cs : List Value) (d : TypeDesc) (hg : ∀ y : SubW B w0, y.at_.rangeAt g off cs)
    (hu : P.underlying ty = some d) (hd : d.isRow = true) (hi : (P.info? ty).map (·.size) = some cs.length)
    (h : K (a.put o.dst (.agg cs.toArray))) : o.quiet P a (fun w' => ∃ x : SubW B w0, w' = x.at_) K := by
  refine ⟨.agg cs.toArray, ?_, h⟩
  rintro w ⟨y, rfl⟩
  unfold Oper.quietAt execOp
  simp only [ho, hx, run_loadAt_mid y.at_ g off ty cs d (hg y) hu hd hi, Sem.run_bind, Sem.run_pure, Result.andThen_ok]
  exact ⟨rfl, rfl⟩

/-! ### The view -/
def mapL (p : Int) (U : List Bool) : List Value := .int .i64 p :: U.map Value.bool
theorem mapL_arr (p : Int) (U : List Bool) : (mapL p U).toArray = mapC p U := rfl
theorem mapL_len (p : Int) {U : List Bool} (h : U.length = 512) : (mapL p U).length = 513 := by simp [mapL, h]
theorem mapL_one (p : Int) (U : List Bool) : ∀ v ∈ mapL p U, v.oneCell' = true := by
  intro v hv
  simp only [mapL, List.mem_cons, List.mem_map] at hv
  rcases hv with rfl | ⟨b, _, rfl⟩ <;> rfl
def viewL (g gen : Nat) (p : Int) (U V : List Bool) : List Value := tab.toList ++ (.pointer (some ⟨g, 0, none⟩) :: .int .u64 (gen : Int) :: (mapL p U ++ mapL p V))
def ViewAt (w : World) (gv g gen : Nat) (p : Int) (U V : List Bool) : Prop := w.heap[gv]? = some (.cells (viewL g gen p U V).toArray 143 (0, 0))
def chgL (gv : Nat) (p : Int) (U V : List Bool) (lv : Value) : List Value := .pointer (some ⟨gv, 0, none⟩) :: (mapL p U ++ (mapL p V ++ [lv]))
def ChgAt (w : World) (gc gv : Nat) (p : Int) (U V : List Bool) (lv : Value) : Prop := w.heap[gc]? = some (.cells (chgL gv p U V lv).toArray 163 (0, 0))

section
variable {w w' : World} {gv gc g gen : Nat} {p : Int} {U V U' : List Bool} {lv lv' : Value}
theorem tab_len : tab.toList.length = 256 := by rw [Array.length_toList]; exact size_tab
theorem viewL_len (hU : U.length = 512) (hV : V.length = 512) : (viewL g gen p U V).length = 1284 := by rw [viewL, List.length_append, tab_len, List.length_cons, List.length_cons, List.length_append, mapL_len p hU, mapL_len p hV]
theorem ViewAt.keep (h : ViewAt w gv g gen p U V) (hk : w'.heap[gv]? = w.heap[gv]?) : ViewAt w' gv g gen p U V := hk.trans h
theorem ViewAt.lt (h : ViewAt w gv g gen p U V) : gv < w.heap.size := (Array.getElem?_eq_some_iff.1 h).1
theorem ViewAt.below (h : ViewAt w gv g gen p U V) (hb : Below w.heap.size w w') : ViewAt w' gv g gen p U V := h.keep (hb.block _ h.lt)
theorem ViewAt.ctab (h : ViewAt w gv g gen p U V) : w.rangeAt gv 0 tab.toList := range_of_block (X := []) (Z := .pointer (some ⟨g, 0, none⟩) :: .int .u64 (gen : Int) :: (mapL p U ++ mapL p V)) h (by rw [List.nil_append]; unfold viewL; rfl) rfl
theorem ViewAt.cd (h : ViewAt w gv g gen p U V) : w.cell? ⟨gv, 256, none⟩ = some (.pointer (some ⟨g, 0, none⟩)) := by
  refine blk_cell h 256 _ ?_
  rw [List.getElem?_toArray, viewL, List.getElem?_append_right (by rw [tab_len]; exact Nat.le_refl _), tab_len]
  rfl
theorem ViewAt.cg (h : ViewAt w gv g gen p U V) : w.cell? ⟨gv, 257, none⟩ = some (.int .u64 (gen : Int)) := by
  refine blk_cell h 257 _ ?_
  rw [List.getElem?_toArray, viewL, List.getElem?_append_right (by rw [tab_len]; omega), tab_len]
  rfl
theorem ViewAt.cm (h : ViewAt w gv g gen p U V) : w.rangeAt gv 258 (mapL p U) :=
  range_of_block (X := tab.toList ++ [.pointer (some ⟨g, 0, none⟩), .int .u64 (gen : Int)]) (Z := mapL p V) h (by simp [viewL]) (by rw [List.length_append, tab_len]; rfl)
theorem ViewAt.co (h : ViewAt w gv g gen p U V) (hU : U.length = 512) : w.rangeAt gv 771 (mapL p V) :=
  range_of_block (X := tab.toList ++ (.pointer (some ⟨g, 0, none⟩) :: .int .u64 (gen : Int) :: mapL p U)) (Z := []) h (by simp [viewL]) (by rw [List.length_append, tab_len, List.length_cons, List.length_cons, mapL_len p hU])
theorem ViewAt.set (h : ViewAt w gv g gen p U V) (hU : U.length = U'.length) : ViewAt (w.setCells gv 258 (mapL p U')) gv g gen p U' V := by
  have h1 := heap_setCells gv _ (mapL p U') w 258 _ h
  have h2 := spl_mid (mapL p U') (tab.toList ++ [.pointer (some ⟨g, 0, none⟩), .int .u64 (gen : Int)]) (mapL p U) (mapL p V) (by simp [mapL, hU])
  rw [List.length_append, tab_len] at h2
  have e1 : viewL g gen p U V = (tab.toList ++ [.pointer (some ⟨g, 0, none⟩), .int .u64 (gen : Int)]) ++ (mapL p U ++ mapL p V) := by simp [viewL]
  have e2 : viewL g gen p U' V = (tab.toList ++ [.pointer (some ⟨g, 0, none⟩), .int .u64 (gen : Int)]) ++ (mapL p U' ++ mapL p V) := by simp [viewL]
  rw [e1] at h1
  unfold ViewAt
  rw [e2, ← h2]
  exact h1

theorem chgL_len (hU : U.length = 512) (hV : V.length = 512) : (chgL gv p U V lv).length = 1028 := by simp [chgL, mapL, hU, hV]
theorem ChgAt.keep (h : ChgAt w gc gv p U V lv) (hk : w'.heap[gc]? = w.heap[gc]?) : ChgAt w' gc gv p U V lv := hk.trans h
theorem ChgAt.lt (h : ChgAt w gc gv p U V lv) : gc < w.heap.size := (Array.getElem?_eq_some_iff.1 h).1
theorem ChgAt.below (h : ChgAt w gc gv p U V lv) (hb : Below w.heap.size w w') : ChgAt w' gc gv p U V lv := h.keep (hb.block _ h.lt)
theorem ChgAt.cv (h : ChgAt w gc gv p U V lv) : w.cell? ⟨gc, 0, none⟩ = some (.pointer (some ⟨gv, 0, none⟩)) := blk_cell h 0 _ rfl
theorem ChgAt.cm (h : ChgAt w gc gv p U V lv) : w.rangeAt gc 1 (mapL p U) := range_of_block (X := [.pointer (some ⟨gv, 0, none⟩)]) (Z := mapL p V ++ [lv]) h rfl rfl
theorem ChgAt.cb (h : ChgAt w gc gv p U V lv) (hU : U.length = 512) : w.rangeAt gc 514 (mapL p V) :=
  range_of_block (X := .pointer (some ⟨gv, 0, none⟩) :: mapL p U) (Z := [lv]) h (by simp [chgL]) (by rw [List.length_cons, mapL_len p hU])
theorem ChgAt.cl (h : ChgAt w gc gv p U V lv) (hU : U.length = 512) (hV : V.length = 512) : w.cell? ⟨gc, 1027, none⟩ = some lv := by
  refine blk_cell h 1027 _ ?_
  have e : chgL gv p U V lv = (.pointer (some ⟨gv, 0, none⟩) :: (mapL p U ++ mapL p V)) ++ [lv] := by simp [chgL]
  have hl : (Value.pointer (some ⟨gv, 0, none⟩) :: (mapL p U ++ mapL p V)).length = 1027 := by rw [List.length_cons, List.length_append, mapL_len p hU, mapL_len p hV]
  rw [List.getElem?_toArray, e, List.getElem?_append_right (by rw [hl]; exact Nat.le_refl _), hl]
  rfl
theorem ChgAt.setM (h : ChgAt w gc gv p U V lv) (hU : U.length = U'.length) : ChgAt (w.setCells gc 1 (mapL p U')) gc gv p U' V lv := by
  have h1 := heap_setCells gc _ (mapL p U') w 1 _ h
  have h2 := spl_mid (mapL p U') [.pointer (some ⟨gv, 0, none⟩)] (mapL p U) (mapL p V ++ [lv]) (by simp [mapL, hU])
  have e1 : chgL gv p U V lv = [.pointer (some ⟨gv, 0, none⟩)] ++ (mapL p U ++ (mapL p V ++ [lv])) := rfl
  have e2 : chgL gv p U' V lv = [.pointer (some ⟨gv, 0, none⟩)] ++ (mapL p U' ++ (mapL p V ++ [lv])) := rfl
  rw [e1] at h1
  unfold ChgAt
  rw [e2, ← h2]
  exact h1
theorem ChgAt.setL (h : ChgAt w gc gv p U V lv) (hU : U.length = 512) (hV : V.length = 512) (lv' : Value) : ChgAt (w.setCell ⟨gc, 1027, none⟩ lv') gc gv p U V lv' := by
  have h1 := heap_setCell_same w gc 1027 _ _ lv' h
  rw [List.setIfInBounds_toArray] at h1
  have e : chgL gv p U V lv = (.pointer (some ⟨gv, 0, none⟩) :: (mapL p U ++ mapL p V)) ++ [lv] := by simp [chgL]
  have e' : chgL gv p U V lv' = (.pointer (some ⟨gv, 0, none⟩) :: (mapL p U ++ mapL p V)) ++ [lv'] := by simp [chgL]
  have hl : (Value.pointer (some ⟨gv, 0, none⟩) :: (mapL p U ++ mapL p V)).length = 1027 := by rw [List.length_cons, List.length_append, mapL_len p hU, mapL_len p hV]
  have h3 : ((Value.pointer (some ⟨gv, 0, none⟩) :: (mapL p U ++ mapL p V)) ++ [lv]).set 1027 lv' = (.pointer (some ⟨gv, 0, none⟩) :: (mapL p U ++ mapL p V)) ++ [lv'] := by
    rw [List.set_append_right _ _ (by rw [hl]; exact Nat.le_refl _), hl]
    rfl
  unfold ChgAt
  rw [e', ← h3, ← e]
  exact h1
theorem ChgAt.fr (h : ChgAt w gc gv p U V lv) (i : Nat) : w.frozen? ⟨gc, i, none⟩ = false := by simp [World.frozen?, show w.heap[gc]? = _ from h]
theorem ChgAt.thM (h : ChgAt w gc gv p U V lv) (hU : U.length = 512) (hV : V.length = 512) (n : Nat) (hn : n = 513) : w.there gc 1 n := there_of_block h 1 n (by rw [chgL_len hU hV]; omega)
theorem ViewAt.thM (h : ViewAt w gv g gen p U V) (hU : U.length = 512) (hV : V.length = 512) (n : Nat) (hn : n = 513) : w.there gv 258 n := there_of_block h 258 n (by rw [viewL_len hU hV]; omega)
end
end Go.Proofs.Ytgkddhncfaeidaa

namespace Go.Proofs.Ytgkddhncfaeidaa
open Go.RowKit
set_option linter.unusedVariables false

section
variable {P : Program} {ops : Array Oper} {md : Region.Mode} {S : World → Prop}

def anyHT (P : Program) (md : Region.Mode) (ops : Array Oper) (Q : Exit → Act → World → Prop) (S : World → Prop) (n : Nat) (L : Array Bool → Act → World → Prop) : Nat → Array Bool → Act → World → Prop
  | 0, listed, a, w => L listed a w
  | f + 1, listed, a, w =>
    Region.ready md ops listed ≠ [] ∧ ∀ i ∈ Region.ready md ops listed, i < n ∧ wpOp P ops Q i (fun a' w' => S w' ∧ anyHT P md ops Q S n L f (listed.setIfInBounds i true) a' w') a w

theorem any_of_HT {n g : Nat} {L : Array Bool → Act → World → Prop} {Q : Exit → Act → World → Prop} (hL : ∀ listed a w, L listed a w → wpAny P md ops Q g listed a w) :
    ∀ (f : Nat) (listed : Array Bool) (a : Act) (w : World), anyHT P md ops Q S n L f listed a w → wpAny P md ops Q (f + g) listed a w
  | 0, listed, a, w, h => by rw [Nat.zero_add]; exact hL _ _ _ h
  | f + 1, listed, a, w, h => by
    rw [show f + 1 + g = (f + g) + 1 by omega]
    exact ⟨fun h0 => absurd h0 h.1, fun i hi => wpOp_mono (fun a' w' h' => any_of_HT hL f _ a' w' h'.2) (h.2 i hi).2⟩

theorem anyHT_first {n i : Nat} {oi : Oper} {v : Value} {L : Array Bool → Act → World → Prop} {Q : Exit → Act → World → Prop} (hi : ops[i]? = some oi) (hsel : ∀ (j : Nat) (o : Oper) cs b, ops[j]? = some o → o.op ≠ .select cs b)
    (hQ : ∀ c a w, Q (.panic c) (a.put oi.dst v) w → Q (.panic c) a w)
    (hs : Region.sinkB md ops n = true) (hc : Region.chainB md ops n = true) (hn : n < ops.size) (hin : i < n)
    (hdone : ∀ listed a w, L listed a w → ∀ j ∈ Region.ready md ops listed, n ≤ j) :
    ∀ (f : Nat) (listed : Array Bool) (a : Act) (w : World), HeadInv md ops n listed →
      (∀ j oj, ops[j]? = some oj → j ≠ i → listed.getD j true = false → (∀ e ∈ oj.after, Region.binds md e = true → e.on ≠ i) → oi.apart ops oj = true) →
      i ∈ Region.ready md ops listed → YieldsIf P ops S oi v a → S w →
      anyHT P md ops Q S n L f (listed.setIfInBounds i true) (a.put oi.dst v) w → anyHT P md ops Q S n L (f + 1) listed a w := by
  intro f
  induction f with
  | zero =>
    intro listed a w inv _ hr hy hS H
    have hun := (mem_ready.1 hr).1
    refine ⟨fun h => (by rw [h] at hr; cases hr), fun j hj => ?_⟩
    have hjn : j < n := by
      rcases Nat.lt_or_ge j n with h | h
      · exact h
      · exact absurd hj (tail_waits hs hc hn inv _ i rfl hin hun j h)
    refine ⟨hjn, ?_⟩
    by_cases hji : j = i
    · subst hji; exact hy.wpOp hi hS ⟨hS, H⟩
    · have := hdone _ _ _ H j (ready_mono hj hji)
      omega
  | succ f ih =>
    intro listed a w inv hfree hr hy hS H
    have hun := (mem_ready.1 hr).1
    refine ⟨fun h => (by rw [h] at hr; cases hr), fun j hj => ?_⟩
    have hjn : j < n := by
      rcases Nat.lt_or_ge j n with h | h
      · exact h
      · exact absurd hj (tail_waits hs hc hn inv _ i rfl hin hun j h)
    refine ⟨hjn, ?_⟩
    by_cases hji : j = i
    · subst hji; exact hy.wpOp hi hS ⟨hS, H⟩
    · have h1 := (H.2 j (ready_mono hj hji)).2
      obtain ⟨hjun, oj, hoj, hall⟩ := mem_ready.1 hj
      have hnot : ∀ e ∈ oj.after, Region.binds md e = true → e.on ≠ i := fun e he hb heq => by
        have h1 := hall e he hb
        rw [heq, getD_both hun] at h1
        cases h1
      have h2 := wpOp_putIf hoj (hfree j oj hoj hji hjun hnot) (fun cs b => hsel i oi cs b hi) (fun cs b => hsel j oj cs b hoj) hQ hy h1
      have hfree' : ∀ k ok, ops[k]? = some ok → k ≠ i → (listed.setIfInBounds j true).getD k true = false →
          (∀ e ∈ ok.after, Region.binds md e = true → e.on ≠ i) → oi.apart ops ok = true := fun k ok hk hki hun hno => by
        refine hfree k ok hk hki ?_ hno
        by_cases hjk : j = k
        · subst hjk; exact hjun
        · rw [getD_set_ne true hjk] at hun; exact hun
      refine wpOp_mono (fun a' w' h3 => ⟨h3.2.1, ih (listed.setIfInBounds j true) a' w' (inv.set hj hjn) hfree' (ready_mono hr (Ne.symm hji)) h3.1 h3.2.1 ?_⟩) h2
      rw [Array.setIfInBounds_comm _ _ hji]
      exact h3.2.2

/-- Soft ones of the head keep it a head. -/
theorem softsT {n : Nat} {Q : Exit → Act → World → Prop} {K : Act → Prop} {L : Array Bool → Act → World → Prop} (hsel : Region.noSelect ops = true) (hs : Region.sinkB md ops n = true) (hc : Region.chainB md ops n = true) (hn : n < ops.size)
    (hdone : ∀ listed a w, L listed a w → ∀ j ∈ Region.ready md ops listed, n ≤ j) {fuel : Nat} {l' : Array Bool} {w : World} (hS : S w)
    (hK : ∀ a, HeadInv md ops n l' → K a → anyHT P md ops (NoPanic Q) S n L fuel l' a w) :
    ∀ (qs : List Nat) (listed : Array Bool) (a : Act), HeadInv md ops n listed → (qs.all fun q => decide (q < n)) = true → softs4 md ops qs listed = some l' → wpQuiet P ops S K (qs.map (opAt ops)) a → anyHT P md ops (NoPanic Q) S n L (qs.length + fuel) listed a w
  | [], listed, a, inv, _, h, hq => by
    simp only [softs4, Option.some.injEq] at h
    subst h
    rw [List.length_nil, Nat.zero_add]
    exact hK a inv hq
  | i :: r, listed, a, inv, hall, h, hq => by
    simp only [softs4] at h
    rw [List.all_cons, Bool.and_eq_true, decide_eq_true_eq] at hall
    split at h
    · rename_i hcc
      simp only [Bool.and_eq_true, decide_eq_true_eq] at hcc
      obtain ⟨⟨⟨h1, h2⟩, h3⟩, h4⟩ := hcc
      have ho := opAt_some h1
      have hr : i ∈ Region.ready md ops listed := by simpa using h4
      rw [List.length_cons, show r.length + 1 + fuel = (r.length + fuel) + 1 by omega]
      simp only [List.map_cons, wpQuiet] at hq
      split at hq
      · rename_i hw
        obtain ⟨v, hv, hnn⟩ := hq
        refine anyHT_first ho (Region.noSelect_spec hsel) (fun _ _ _ h => h) hs hc hn hall.1 hdone (v := v) _ listed a w inv (Region.free_spec ho h3) hr (.inl ⟨hw, fun w2 hw2 => ?_⟩) hS (softsT hsel hs hc hn hdone hS hK r _ _ (inv.set hr hall.1) hall.2 h hnn)
        have hv2 := hv w2 hw2
        unfold Oper.quietAt at hv2
        generalize hrr : (execOp a.eval (opAt ops i)).run P w2 = x at hv2
        cases x with
        | ok n w3 =>
          obtain ⟨u, rfl⟩ := soft_value4 h2 hrr
          obtain ⟨rfl, rfl⟩ := hv2
          rfl
        | halt x w3 => exact hv2.elim
      · rename_i hw
        exact anyHT_first ho (Region.noSelect_spec hsel) (fun _ _ _ h => h) hs hc hn hall.1 hdone (v := undef) _ listed a w inv (Region.free_spec ho h3) hr (.inr ⟨by simpa using hw, rfl⟩) hS (softsT hsel hs hc hn hdone hS hK r _ _ (inv.set hr hall.1) hall.2 h hq)
    · cases h

def waysBT (md : Region.Mode) (ops : Array Oper) (n g : Nat) : Ways4 → Array Bool → Bool
  | .done last, listed => (last.all fun q => decide (q < n)) && match softs4 md ops last listed with
    | some l' => Region.seqB md ops g n l'
    | none => false
  | .one qs h t, listed => (qs.all fun q => decide (q < n)) && match softs4 md ops qs listed with
    | some l' => decide (Region.ready md ops l' = [h]) && decide (h < n) && waysBT md ops n g t (l'.setIfInBounds h true)
    | none => false
  | .two qs h1 t1 h2 t2, listed => (qs.all fun q => decide (q < n)) && match softs4 md ops qs listed with
    | some l' => decide (Region.ready md ops l' = [h1, h2]) && decide (h1 < n) && decide (h2 < n) && waysBT md ops n g t1 (l'.setIfInBounds h1 true) && waysBT md ops n g t2 (l'.setIfInBounds h2 true)
    | none => false
  | .three qs h1 t1 h2 t2 h3 t3, listed => (qs.all fun q => decide (q < n)) && match softs4 md ops qs listed with
    | some l' => decide (Region.ready md ops l' = [h1, h2, h3]) && decide (h1 < n) && decide (h2 < n) && decide (h3 < n) && waysBT md ops n g t1 (l'.setIfInBounds h1 true) && waysBT md ops n g t2 (l'.setIfInBounds h2 true) && waysBT md ops n g t3 (l'.setIfInBounds h3 true)
    | none => false

/-- The walk: at a way's end the tail in its order. -/
def wpWaysT (P : Program) (ops : Array Oper) (Q : Exit → Act → World → Prop) (S : World → Prop) (tl : List Oper) : Ways4 → Act → World → Prop
  | .done last, a, w => wpQuiet P ops S (fun a' => wpList P ops (Exit.then (fun a2 w2 => Q .normal a2 w2) (NoPanic Q)) tl a' w) (last.map (opAt ops)) a
  | .one qs h t, a, w => wpQuiet P ops S (fun a' => wpList P ops (Exit.then (fun a2 w2 => S w2 ∧ wpWaysT P ops Q S tl t a2 w2) (NoPanic Q)) [opAt ops h] a' w) (qs.map (opAt ops)) a
  | .two qs h1 t1 h2 t2, a, w => wpQuiet P ops S (fun a' => wpList P ops (Exit.then (fun a2 w2 => S w2 ∧ wpWaysT P ops Q S tl t1 a2 w2) (NoPanic Q)) [opAt ops h1] a' w ∧
      wpList P ops (Exit.then (fun a2 w2 => S w2 ∧ wpWaysT P ops Q S tl t2 a2 w2) (NoPanic Q)) [opAt ops h2] a' w) (qs.map (opAt ops)) a
  | .three qs h1 t1 h2 t2 h3 t3, a, w => wpQuiet P ops S (fun a' => wpList P ops (Exit.then (fun a2 w2 => S w2 ∧ wpWaysT P ops Q S tl t1 a2 w2) (NoPanic Q)) [opAt ops h1] a' w ∧
      wpList P ops (Exit.then (fun a2 w2 => S w2 ∧ wpWaysT P ops Q S tl t2 a2 w2) (NoPanic Q)) [opAt ops h2] a' w ∧
      wpList P ops (Exit.then (fun a2 w2 => S w2 ∧ wpWaysT P ops Q S tl t3 a2 w2) (NoPanic Q)) [opAt ops h3] a' w) (qs.map (opAt ops)) a

theorem wpWaysT_done {Q : Exit → Act → World → Prop} {tl : List Oper} {last : List Nat} {a : Act} {w : World} : wpWaysT P ops Q S tl (.done last) a w = wpQuiet P ops S (fun a' => wpList P ops (Exit.then (fun a2 w2 => Q .normal a2 w2) (NoPanic Q)) tl a' w) (last.map (opAt ops)) a := rfl
theorem wpWaysT_one {Q : Exit → Act → World → Prop} {tl : List Oper} {qs : List Nat} {h : Nat} {t : Ways4} {a : Act} {w : World} :
    wpWaysT P ops Q S tl (.one qs h t) a w = wpQuiet P ops S (fun a' => wpList P ops (Exit.then (fun a2 w2 => S w2 ∧ wpWaysT P ops Q S tl t a2 w2) (NoPanic Q)) [opAt ops h] a' w) (qs.map (opAt ops)) a := rfl
theorem anyHT_all {n : Nat} {Q : Exit → Act → World → Prop} {L : Array Bool → Act → World → Prop} {rs : List Nat} {fuel : Nat} {listed : Array Bool} {a : Act} {w : World} (hr : Region.ready md ops listed = rs) (hne : rs ≠ [])
    (h : ∀ i ∈ rs, i < n ∧ wpOp P ops Q i (fun a' w' => S w' ∧ anyHT P md ops Q S n L fuel (listed.setIfInBounds i true) a' w') a w) : anyHT P md ops Q S n L (fuel + 1) listed a w :=
  ⟨fun h0 => absurd (hr ▸ h0) hne, hr ▸ h⟩
theorem ready_mem {l : Array Bool} {rs : List Nat} {i : Nat} (hr : Region.ready md ops l = rs) (h : i ∈ rs) : i ∈ Region.ready md ops l := by rw [hr]; exact h

theorem anyHT_of_ways {n g : Nat} {Q : Exit → Act → World → Prop} {tl : List Oper} (hsel : Region.noSelect ops = true) (hs : Region.sinkB md ops n = true) (hc : Region.chainB md ops n = true) (hn : n < ops.size) :
    ∀ (t : Ways4) (f : Nat) (listed : Array Bool) (a : Act) (w : World), S w → HeadInv md ops n listed → waysN4 t f = true → waysBT md ops n g t listed = true → wpWaysT P ops Q S tl t a w →
      anyHT P md ops (NoPanic Q) S n (fun listed a w => Region.seqB md ops g n listed = true ∧ wpList P ops (Exit.then (fun a2 w2 => Q .normal a2 w2) (NoPanic Q)) tl a w) f listed a w
  | .done last, f, listed, a, w, hS, inv, hN, hB, h => by
    simp only [waysBT, Bool.and_eq_true] at hB
    obtain ⟨hall, hB⟩ := hB
    simp only [waysN4, decide_eq_true_eq] at hN
    subst hN
    split at hB
    · rename_i l' hl
      have := softsT (fuel := 0) (Q := Q) (L := fun listed a w => Region.seqB md ops g n listed = true ∧ wpList P ops (Exit.then (fun a2 w2 => Q .normal a2 w2) (NoPanic Q)) tl a w) hsel hs hc hn (fun listed' a' w' hL => seqB_ready hL.1) hS (fun a' _ ha => (And.intro hB ha : _ ∧ _)) last listed a inv hall hl h
      exact this
    · cases hB
  | .one qs i t, f, listed, a, w, hS, inv, hN, hB, h => by
    simp only [waysBT, Bool.and_eq_true] at hB
    obtain ⟨hall, hB⟩ := hB
    simp only [waysN4, Bool.and_eq_true, decide_eq_true_eq] at hN
    split at hB
    · rename_i l' hl
      simp only [Bool.and_eq_true, decide_eq_true_eq] at hB
      obtain ⟨⟨hr, hin⟩, hB2⟩ := hB
      rw [show f = qs.length + ((f - qs.length - 1) + 1) by omega]
      refine softsT (fuel := (f - qs.length - 1) + 1) hsel hs hc hn (fun listed' a' w' hL => seqB_ready hL.1) hS (fun a' inv' ha => ?_) qs listed a inv hall hl h
      refine anyHT_all hr (by simp) fun j hj => ?_
      obtain rfl : j = i := by simpa using hj
      have hm := ready_mem hr hj
      exact ⟨hin, wpOp_of_one (ready_lt hm) (fun a2 w2 h2 => ⟨h2.1, anyHT_of_ways hsel hs hc hn t _ _ a2 w2 h2.1 (inv'.set hm hin) hN.2 hB2 h2.2⟩) ha⟩
    · cases hB
  | .two qs i t1 k t2, f, listed, a, w, hS, inv, hN, hB, h => by
    simp only [waysBT, Bool.and_eq_true] at hB
    obtain ⟨hall, hB⟩ := hB
    simp only [waysN4, Bool.and_eq_true, decide_eq_true_eq] at hN
    split at hB
    · rename_i l' hl
      simp only [Bool.and_eq_true, decide_eq_true_eq] at hB
      obtain ⟨⟨⟨⟨hr, hi1⟩, hi2⟩, hB1⟩, hB2⟩ := hB
      rw [show f = qs.length + ((f - qs.length - 1) + 1) by omega]
      refine softsT (fuel := (f - qs.length - 1) + 1) hsel hs hc hn (fun listed' a' w' hL => seqB_ready hL.1) hS (fun a' inv' ha => ?_) qs listed a inv hall hl h
      refine anyHT_all hr (by simp) fun j hj => ?_
      have hj2 : j = i ∨ j = k := by simpa using hj
      have hm := ready_mem hr hj
      rcases hj2 with rfl | rfl
      · exact ⟨hi1, wpOp_of_one (ready_lt hm) (fun a2 w2 h2 => ⟨h2.1, anyHT_of_ways hsel hs hc hn t1 _ _ a2 w2 h2.1 (inv'.set hm hi1) hN.1.2 hB1 h2.2⟩) ha.1⟩
      · exact ⟨hi2, wpOp_of_one (ready_lt hm) (fun a2 w2 h2 => ⟨h2.1, anyHT_of_ways hsel hs hc hn t2 _ _ a2 w2 h2.1 (inv'.set hm hi2) hN.2 hB2 h2.2⟩) ha.2⟩
    · cases hB
  | .three qs i t1 k t2 m t3, f, listed, a, w, hS, inv, hN, hB, h => by
    simp only [waysBT, Bool.and_eq_true] at hB
    obtain ⟨hall, hB⟩ := hB
    simp only [waysN4, Bool.and_eq_true, decide_eq_true_eq] at hN
    split at hB
    · rename_i l' hl
      simp only [Bool.and_eq_true, decide_eq_true_eq] at hB
      obtain ⟨⟨⟨⟨⟨⟨hr, hi1⟩, hi2⟩, hi3⟩, hB1⟩, hB2⟩, hB3⟩ := hB
      rw [show f = qs.length + ((f - qs.length - 1) + 1) by omega]
      refine softsT (fuel := (f - qs.length - 1) + 1) hsel hs hc hn (fun listed' a' w' hL => seqB_ready hL.1) hS (fun a' inv' ha => ?_) qs listed a inv hall hl h
      refine anyHT_all hr (by simp) fun j hj => ?_
      have hj2 : j = i ∨ j = k ∨ j = m := by simpa using hj
      have hm := ready_mem hr hj
      rcases hj2 with rfl | rfl | rfl
      · exact ⟨hi1, wpOp_of_one (ready_lt hm) (fun a2 w2 h2 => ⟨h2.1, anyHT_of_ways hsel hs hc hn t1 _ _ a2 w2 h2.1 (inv'.set hm hi1) hN.1.1.2 hB1 h2.2⟩) ha.1⟩
      · exact ⟨hi2, wpOp_of_one (ready_lt hm) (fun a2 w2 h2 => ⟨h2.1, anyHT_of_ways hsel hs hc hn t2 _ _ a2 w2 h2.1 (inv'.set hm hi2) hN.1.2 hB2 h2.2⟩) ha.2.1⟩
      · exact ⟨hi3, wpOp_of_one (ready_lt hm) (fun a2 w2 h2 => ⟨h2.1, anyHT_of_ways hsel hs hc hn t3 _ _ a2 w2 h2.1 (inv'.set hm hi3) hN.2 hB3 h2.2⟩) ha.2.2⟩
    · cases hB

theorem then_noPanic {Q : Exit → Act → World → Prop} : Exit.then (fun a w => Q .normal a w) (NoPanic Q) = NoPanic Q := by
  funext e a w
  cases e <;> rfl
end

def waysOKT (ops : Array Oper) (n : Nat) (t : Ways4) : Bool := Region.noSelect ops && decide (n < ops.size) && Region.sinkB .any ops n && Region.chainB .any ops n && waysN4 t n && waysBT .any ops n (ops.size - n) t (Array.replicate ops.size false)

/-- A region that draws its order: the head by its ways, over the worlds that are as the one at hand below B; then the tail, in its order. -/
theorem region_waysT {P : Program} {id : Nat} {Q : Exit → Act → World → Prop} {a : Act} {w : World} {l : List Oper} (n B : Nat) (hBw : B ≤ w.heap.size) (t : Ways4) (hm : P.follows .mixedOrders = true) (hB : waysOKT l.toArray n t = true)
    (h : ∀ w', Below w.heap.size w w' → wpWaysT P l.toArray Q (fun w' => ∃ x : SubW B w, w' = x.at_) (l.drop n) t a w') : (Code.region id l.toArray true).wp P Q a w := by
  simp only [waysOKT, Bool.and_eq_true, decide_eq_true_eq] at hB
  obtain ⟨⟨⟨⟨⟨hsel, hn⟩, hs⟩, hc⟩, hN⟩, hT⟩ := hB
  have hb := below_drewN (Below.refl w.heap.size w) 1
  have hdl : (l.drop n).length = l.toArray.size - n := by simp
  have inv0 : HeadInv .any l.toArray n (Array.replicate l.toArray.size false) :=
    ⟨by simp, fun j oj _ hl => (by rw [getD_replicate_false] at hl; cases hl), fun t _ ht => getD_in (by simpa using ht) (getD_replicate_false _ _)⟩
  have H := anyHT_of_ways (md := .any) (S := fun w' => ∃ x : SubW B w, w' = x.at_) hsel hs hc hn t n _ a _ ⟨⟨_, hb.mono hBw⟩, rfl⟩ inv0 hN hT (h _ hb)
  refine wp_region_noPanic (wp_region_any hm ?_)
  have := any_of_HT (g := l.toArray.size - n) (fun listed a' w' hL => by
    have h2 := hL.2
    rw [then_noPanic] at h2
    have := wpAny_of_seq (md := .any) (Q' := NoPanic Q) (l.drop n) n listed a' w' (fun j => by simp [List.getElem?_drop]) (by rw [hdl]; exact hL.1) h2
    rwa [hdl] at this) n _ a _ H
  rwa [show n + (l.toArray.size - n) = l.toArray.size by omega] at this
end Go.Proofs.Ytgkddhncfaeidaa
