/- Several texts in one: Write of a disk. A region whose order is drawn, all but its last operations quiet in a class of worlds: one walk of the text's order serves every order; the last operations, in their forced order, run in whatever world of the class. No program is named here. Power goes: Crash of a disk. New disks; the statements' full sectors, and their small test of a torn write: it is true in every world. What all rows of this seat share: how an argument that came in is told to a walk. -/
import Derived.Test.YtgkddhncfaeidaaPart04
import Derived.Test.YtgkddhncfaeidaaPart01
import Derived.Laws.CopyOwn
import Derived.Great.BuildSlice
import Derived.Deep.DeepCutAuto
import Derived.Test.YtgkddhncfaeidaaPart00
import Derived.StillTail
import Derived.Test.YtgkddhncfaeidaaRows
import Derived.WalkKit
import Derived.ProofKit
import Derived.OpenShut
import Derived.ShutString
import Derived.ChangeOld
import Derived.Below
set_option linter.unusedSimpArgs false
set_option linter.unusedVariables false
namespace Go.Proofs.Ytgkddhncfaeidaa
open Go.RowKit
set_option linter.unusedVariables false
section
variable {w w' : World} {B N g gs gn L cs cn : Nat} {rw : Value} {st nw : List UInt8} {ws : List (Nat × List UInt8)} {on : Bool} {left : Int}

def putAt (nw : List UInt8) (i : Nat) (bs : List UInt8) : List UInt8 := nw.take (64 * i) ++ bs ++ (nw.drop (64 * i)).drop 64

theorem length_putAt {i : Nat} {bs : List UInt8} (hi : 64 * i + 64 ≤ nw.length) (hb : bs.length = 64) : (putAt nw i bs).length = nw.length := by
  unfold putAt
  simp only [List.length_append, List.length_take, List.length_drop]
  omega

theorem infoWr : (Try.prog.info? 211).map (fun i => (i.zero, i.size, i.bytes)) = some (some (.agg (.int .i64 0 :: List.replicate 64 (.int .u8 0)).toArray), 65, 72) := by kernel_rfl

theorem splice_wr (i : Nat) (bs : List UInt8) (hb : bs.length = 64) : splice (Value.int .i64 (i : Int) :: List.replicate 64 (.int .u8 0)) 1 (bs.map bv) = wrC (i, bs) := by
  unfold splice wrC
  rw [List.length_map, hb]
  simp
theorem fill_wr (C cells : Array Value) (hC : C.size = 65) (hn : cells.size = 65) : Instr.fill (fun i => some (i * 65, 65)) cells [(0, .agg C)] = some C := by
  have := Great.fill_whole (s := 65) (by omega) [.agg C] cells (fun v hv => by simp at hv; subst hv; exact hC) (by simp [hn])
  simpa [Value.cells] using this
theorem wrC_one (p : Nat × List UInt8) : ∀ u ∈ wrC p, u.oneCell' = true := by
  intro u hu
  rcases List.mem_cons.1 hu with rfl | h
  · rfl
  · exact bv_one _ u h

theorem own_form {w : World} {base sz n : Nat} {v : Value} {E : TypeId} {us : List Value} (h : w.ownsRow base E sz v n us) : ∃ A c, v = .slice A n c := by
  rcases h.2 with ⟨rfl, rfl⟩ | ⟨g, cap, cur, rfl, _⟩
  · exact ⟨none, 0, rfl⟩
  · exact ⟨_, _, rfl⟩
theorem below_setC' {B : Nat} {w : World} {g i : Nat} {v : Value} (hB : B ≤ w.heap.size) (hg : B ≤ g) : Below B w (w.setCell ⟨g, i, none⟩ v) :=
  ⟨rfl, rfl, rfl, by simp, fun k hk => Below.heap_setCell w ⟨g, i, none⟩ v k (fun e => by simp at e; omega)⟩
theorem Dk.blk (h : Dk w B N g gs gn rw L cs cn st nw ws on left) : ∀ k, rw.ownBlock = some k → B ≤ k := by
  intro k hk
  rcases h.wait.2 with ⟨h0, h1⟩ | ⟨g', cap', cur, hv, hb, _⟩
  · rw [h0] at hk; simp [Value.ownBlock] at hk
  · rw [hv] at hk; simp [Value.ownBlock] at hk; omega

theorem Dk.setNow {nw2 : List UInt8} (h : Dk w B N g gs gn rw L cs cn st nw ws on left) (hg : w.grownBy w' (some gn)) (ho : OwnB w' B gn cn 5 nw2) (hl : nw2.length = L) :
    Dk w' B w'.heap.size g gs gn rw L cs cn st nw2 ws on left := by
  obtain ⟨_, _, _, c2, hh2, _⟩ := h.now.parts
  have gnn : g ≠ gn := by
    intro e
    rw [← e, h.head] at hh2
    simp at hh2
  have hs := hg.size
  have hN := h.NN
  exact { h with
    head := (hg.block g (Array.getElem?_eq_some_iff.1 h.head).1 (fun e => gnn (by injection e))).trans h.head
    stay := h.stay.keep (hg.block gs h.stay.lt (fun e => h.ne (by injection e)))
    now := ho
    wait := by
      rcases h.wait.2 with ⟨h0, h1⟩ | ⟨g', cap', cur, hv, hb, hh, hr⟩
      · exact ⟨h.wait.1, .inl ⟨h0, h1⟩⟩
      · refine ⟨h.wait.1, .inr ⟨g', cap', cur, hv, hb, (hg.block g' (Array.getElem?_eq_some_iff.1 hh).1 ?_).trans hh, hr⟩⟩
        intro e
        injection e with e
        rw [e, hh2] at hh
        simp at hh
    lnw := hl
    gN := by have := h.gN; omega
    sN := by have := h.sN; omega
    nN := by have := h.nN; omega
    wN := fun k hk => by have := h.wN k hk; omega
    NN := Nat.le_refl _ }

/-- The writes that wait are one more: the disk, once the slice is stored. -/
theorem Dk.more {rw2 : Value} {i : Nat} {bs : List UInt8} (h : Dk w B N g gs gn rw L cs cn st nw ws on left) (hg : w.grownBy w' rw.ownBlock) (ho : w'.ownsRow B 211 65 rw2 (ws.length + 1) (ws.flatMap wrC ++ wrC (i, bs)))
    (how : rw2.ownBlock = rw.ownBlock ∨ rw2.ownBlock = some w.heap.size) (hbl : bs.length = 64) (hi : 64 * i + 64 ≤ L) :
    w'.heap[g]? = some (.cells #[.slice (some ⟨gs, 0, none⟩) L cs, .slice (some ⟨gn, 0, none⟩) L cn, rw, .bool on, .int .i64 left] 159 (0, 0)) ∧
    Dk (w'.setCell ⟨g, 2, none⟩ rw2) B (w'.setCell ⟨g, 2, none⟩ rw2).heap.size g gs gn rw2 L cs cn st nw (ws ++ [(i, bs)]) on left := by
  have hrt : ∀ k, rw.ownBlock = some k → ∃ cur, w.heap[k]? = some (.cells cur 211 (0, 0)) := by
    intro k hk
    rcases h.wait.2 with ⟨h0, h1⟩ | ⟨g', cap', cur, hv, hb, hh, _⟩
    · rw [h0] at hk; simp [Value.ownBlock] at hk
    · rw [hv] at hk; simp [Value.ownBlock] at hk; subst hk; exact ⟨_, hh⟩
  have ne1 : ∀ k t cur, w.heap[k]? = some (.cells cur t (0, 0)) → t ≠ 211 → some k ≠ rw.ownBlock := by
    intro k t cur hk ht e
    obtain ⟨cur2, h2⟩ := hrt k e.symm
    rw [hk] at h2
    simp at h2
    exact ht h2.2
  obtain ⟨_, _, _, c1, hh1, _⟩ := h.stay.parts
  obtain ⟨_, _, _, c2, hh2, _⟩ := h.now.parts
  have a0 := (hg.block g (Array.getElem?_eq_some_iff.1 h.head).1 (ne1 g _ _ h.head (by decide))).trans h.head
  have e1 := hg.block gs (Array.getElem?_eq_some_iff.1 hh1).1 (ne1 gs _ _ hh1 (by decide))
  have e2 := hg.block gn (Array.getElem?_eq_some_iff.1 hh2).1 (ne1 gn _ _ hh2 (by decide))
  have gsn : gs ≠ g := by
    intro e
    rw [e, h.head] at hh1
    simp at hh1
  have gnn : gn ≠ g := by
    intro e
    rw [e, h.head] at hh2
    simp at hh2
  have hs := hg.size
  have hN := h.NN
  refine ⟨a0, ?_⟩
  have hlen : (ws ++ [(i, bs)]).length = ws.length + 1 := by simp
  exact {
    head := (heap_setCell_same w' g 2 _ _ _ a0).trans rfl
    stay := (h.stay.keep e1).keep (Below.heap_setCell w' ⟨g, 2, none⟩ rw2 gs gsn)
    now := (h.now.keep e2).keep (Below.heap_setCell w' ⟨g, 2, none⟩ rw2 gn gnn)
    wait := by
      rw [hlen, List.flatMap_append, List.flatMap_singleton]
      rcases ho.2 with ⟨h0, h1⟩ | ⟨g', cap', cur, hv, hb, hh, hr⟩
      · omega
      · refine ⟨ho.1, .inr ⟨g', cap', cur, hv, hb, (Below.heap_setCell w' ⟨g, 2, none⟩ rw2 g' ?_).trans hh, hr⟩⟩
        intro e
        simp at e
        rw [e, a0] at hh
        simp at hh
    lst := h.lst
    lnw := h.lnw
    gB := h.gB
    ne := h.ne
    gN := by have := h.gN; simp; omega
    sN := by have := h.sN; simp; omega
    nN := by have := h.nN; simp; omega
    wN := fun k hk => by
      rcases ho.2 with ⟨h0, h1⟩ | ⟨g', cap', cur, hv, hb, hh, hr⟩
      · omega
      · rw [hv] at hk
        simp [Value.ownBlock] at hk
        subst hk
        simpa using (Array.getElem?_eq_some_iff.1 hh).1
    NN := Nat.le_refl _
    fit := fun p hp => by
      rcases List.mem_append.1 hp with hp | hp
      · exact h.fit p hp
      · simp at hp; subst hp; exact ⟨hbl, hi⟩
    lo := h.lo
    hi := h.hi
    pg := h.pg }

end
end Go.Proofs.Ytgkddhncfaeidaa

namespace Go.Proofs.Ytgkddhncfaeidaa
open Go.RowKit

section
variable {P : Program} {ops : Array Oper} {md : Region.Mode} {C : World → Prop}

def anyHead (P : Program) (md : Region.Mode) (ops : Array Oper) (C : World → Prop) (n : Nat) (L : Array Bool → Act → Prop) : Nat → Array Bool → Act → Prop
  | 0, listed, a => L listed a
  | f + 1, listed, a =>
    Region.ready md ops listed ≠ [] ∧ ∀ i ∈ Region.ready md ops listed, i < n ∧ qOp P ops C i (anyHead P md ops C n L f (listed.setIfInBounds i true)) a

theorem any_of_head {n g : Nat} {L : Array Bool → Act → Prop} {Q' : Exit → Act → World → Prop} (hL : ∀ listed a w, C w → L listed a → wpAny P md ops Q' g listed a w) :
    ∀ (f : Nat) (listed : Array Bool) (a : Act) (w : World), C w → anyHead P md ops C n L f listed a → wpAny P md ops Q' (f + g) listed a w
  | 0, listed, a, w, hw, h => by rw [Nat.zero_add]; exact hL _ _ _ hw h
  | f + 1, listed, a, w, hw, h => by
    rw [show f + 1 + g = (f + g) + 1 by omega]
    exact ⟨fun h0 => absurd h0 h.1, fun i hi => wpOp_of_qOp hw (fun a' w' hw' h' => any_of_head hL f _ a' w' hw' h') (h.2 i hi).2⟩

theorem anyHead_first {n i : Nat} {oi : Oper} {v : Value} {L : Array Bool → Act → Prop} (hi : ops[i]? = some oi) (hsel : ∀ (j : Nat) (o : Oper) cs b, ops[j]? = some o → o.op ≠ .select cs b)
    (hs : Region.sinkB md ops n = true) (hc : Region.chainB md ops n = true) (hn : n < ops.size) (hin : i < n)
    (hdone : ∀ listed a, L listed a → ∀ j ∈ Region.ready md ops listed, n ≤ j) :
    ∀ (f : Nat) (listed : Array Bool) (a : Act), HeadInv md ops n listed →
      (∀ j oj, ops[j]? = some oj → j ≠ i → listed.getD j true = false → (∀ e ∈ oj.after, Region.binds md e = true → e.on ≠ i) → oi.apart ops oj = true) →
      i ∈ Region.ready md ops listed → YieldsIn P ops C oi v a →
      anyHead P md ops C n L f (listed.setIfInBounds i true) (a.put oi.dst v) → anyHead P md ops C n L (f + 1) listed a := by
  intro f
  induction f with
  | zero =>
    intro listed a inv _ hr hy H
    have hun := (mem_ready.1 hr).1
    refine ⟨fun h => (by rw [h] at hr; cases hr), fun j hj => ?_⟩
    have hjn : j < n := by
      rcases Nat.lt_or_ge j n with h | h
      · exact h
      · exact absurd hj (tail_waits hs hc hn inv _ i rfl hin hun j h)
    refine ⟨hjn, ?_⟩
    by_cases hji : j = i
    · subst hji; exact hy.qOp hi H
    · have := hdone _ _ H j (ready_mono hj hji)
      omega
  | succ f ih =>
    intro listed a inv hfree hr hy H
    have hun := (mem_ready.1 hr).1
    refine ⟨fun h => (by rw [h] at hr; cases hr), fun j hj => ?_⟩
    have hjn : j < n := by
      rcases Nat.lt_or_ge j n with h | h
      · exact h
      · exact absurd hj (tail_waits hs hc hn inv _ i rfl hin hun j h)
    refine ⟨hjn, ?_⟩
    by_cases hji : j = i
    · subst hji; exact hy.qOp hi H
    · have h1 := (H.2 j (ready_mono hj hji)).2
      obtain ⟨hjun, oj, hoj, hall⟩ := mem_ready.1 hj
      have hnot : ∀ e ∈ oj.after, Region.binds md e = true → e.on ≠ i := fun e he hb heq => by
        have h1 := hall e he hb
        rw [heq, getD_both hun] at h1
        cases h1
      have h2 := qOp_put hoj (hfree j oj hoj hji hjun hnot) (fun cs b => hsel i oi cs b hi) (fun cs b => hsel j oj cs b hoj) hy h1
      have hfree' : ∀ k ok, ops[k]? = some ok → k ≠ i → (listed.setIfInBounds j true).getD k true = false →
          (∀ e ∈ ok.after, Region.binds md e = true → e.on ≠ i) → oi.apart ops ok = true := fun k ok hk hki hun hno => by
        refine hfree k ok hk hki ?_ hno
        by_cases hjk : j = k
        · subst hjk; exact hjun
        · rw [getD_set_ne true hjk] at hun; exact hun
      refine qOp_mono (fun a' h3 => ih (listed.setIfInBounds j true) a' (inv.set hj hjn) hfree' (ready_mono hr (Ne.symm hji)) h3.1 ?_) h2
      rw [Array.setIfInBounds_comm _ _ hji]
      exact h3.2

theorem anyHead_lex {n g : Nat} {Lq : Act → Prop} (hsel : Region.noSelect ops = true) (hs : Region.sinkB md ops n = true) (hc : Region.chainB md ops n = true) (hn : n < ops.size) :
    ∀ (l : List Oper) (k : Nat) (listed : Array Bool) (a : Act), (∀ j, j < l.length → l[j]? = ops[k + j]?) → k + l.length = n → HeadInv md ops n listed →
    Region.lexHead md ops g l.length k listed = true → wpQuiet P ops C Lq l a →
    anyHead P md ops C n (fun listed' a' => Region.seqB md ops g n listed' = true ∧ Lq a') l.length listed a
  | [], k, listed, a, _, hk, _, hB, h => by
    have : k = n := by simpa using hk
    subst this
    exact ⟨by simpa [Region.lexHead] using hB, h⟩
  | o :: l, k, listed, a, hl, hk, inv, hB, h => by
    have h0 : ops[k]? = some o := by simpa using (hl 0 (by simp)).symm
    simp only [List.length_cons, Region.lexHead, Bool.and_eq_true] at hB
    obtain ⟨⟨hr, hf⟩, hB'⟩ := hB
    have hkn : k < n := by simp only [List.length_cons] at hk; omega
    have hr' : k ∈ Region.ready md ops listed := by simpa using hr
    have hst : qOp P ops C k (wpQuiet P ops C Lq l) a := by unfold qOp; simp only [h0]; exact h
    obtain ⟨v, hy, hK⟩ := yieldsIn_of_qOp h0 hst
    exact anyHead_first h0 (Region.noSelect_spec hsel) hs hc hn hkn (fun listed' a' hL => seqB_ready hL.1) l.length listed a inv (Region.free_spec h0 hf) hr' hy
      (anyHead_lex hsel hs hc hn l (k + 1) _ _ (fun j hj => by have := hl (j + 1) (by simp; omega); simpa [Nat.add_assoc, Nat.add_comm 1 j] using this) (by simp only [List.length_cons] at hk; omega) (inv.set hr' hkn) hB' hK)
end

theorem region_below_tail {P : Program} {id : Nat} {Q : Exit → Act → World → Prop} {a : Act} {w : World} {l : List Oper} (n B : Nat) (w0 : World) (hb : Below B w0 w)
    (hm : P.follows .mixedOrders = true) (hB : Region.lexTailB .any l.toArray n = true)
    (h : wpQuiet P l.toArray (fun w' => ∃ x : SubW B w0, w' = x.at_) (fun a' => ∀ w', (∃ x : SubW B w0, w' = x.at_) → wpList P l.toArray Q (l.drop n) a' w') (l.take n) a) : (Code.region id l.toArray true).wp P Q a w := by
  simp only [Region.lexTailB, Bool.and_eq_true, decide_eq_true_eq] at hB
  obtain ⟨⟨⟨⟨hsel, hn⟩, hs⟩, hc⟩, hlex⟩ := hB
  have hn' : n < l.length := by simpa using hn
  have htl : (l.take n).length = n := by simp; omega
  have hdl : (l.drop n).length = l.toArray.size - n := by simp
  have inv0 : HeadInv .any l.toArray n (Array.replicate l.toArray.size false) :=
    ⟨by simp, fun j oj _ hl => (by rw [getD_replicate_false] at hl; cases hl), fun t _ ht => getD_in (by simpa using ht) (getD_replicate_false _ _)⟩
  have H := anyHead_lex (md := .any) (g := l.toArray.size - n) hsel hs hc hn (l.take n) 0 _ a (fun j hj => by
    have hj' : j < n := by rw [htl] at hj; exact hj
    simp [hj']) (by simpa using htl) inv0 (by rw [htl]; exact hlex) h
  refine wp_region_any hm ?_
  have := any_of_head (Q' := Q) (g := l.toArray.size - n) (fun listed a' w' hw hL => by
    have := wpAny_of_seq (md := .any) (Q' := Q) (l.drop n) n listed a' w' (fun j => by simp [List.getElem?_drop]) (by rw [hdl]; exact hL.1) (hL.2 w' hw)
    rwa [hdl] at this) _ _ _ { w with drawn := w.drawn + 1 } ⟨⟨_, below_drewN hb 1⟩, rfl⟩ H
  rw [htl, show n + (l.toArray.size - n) = l.toArray.size by omega] at this
  exact this
end Go.Proofs.Ytgkddhncfaeidaa

namespace Go.Proofs.Ytgkddhncfaeidaa
open Go.RowKit
set_option linter.unusedVariables false

section
variable {w w' : World} {B N g gs gn L cs cn : Nat} {rw : Value} {st nw : List UInt8} {ws : List (Nat × List UInt8)} {on : Bool} {left : Int}

theorem Dk.wider (h : Dk w B N g gs gn rw L cs cn st nw ws on left) {N' : Nat} (h1 : N ≤ N') (h2 : N' ≤ w.heap.size) : Dk w B N' g gs gn rw L cs cn st nw ws on left :=
  { h with gN := by have := h.gN; omega, sN := by have := h.sN; omega, nN := by have := h.nN; omega, wN := fun k hk => by have := h.wN k hk; omega, NN := h2 }

end
end Go.Proofs.Ytgkddhncfaeidaa

namespace Go.Proofs.Ytgkddhncfaeidaa
open Go.RowKit
set_option linter.unusedVariables false

theorem made8 {w : World} {base k : Nat} {v : Value} (h : w.ownsRow base 5 1 v k (madeCells (Value.int .u8 0).cells (k * 1)).toList) : OwnS w base v 5 (List.replicate k 0) := by
  have e : (madeCells (Value.int .u8 0).cells (k * 1)).toList = (List.replicate k (0 : UInt8)).map bv := by
    have h0 : (Value.int .u8 0).cells = #[.int .u8 0] := rfl
    rw [h0, Nat.mul_one]
    simp only [madeCells, List.map_replicate, bv]
    simp [Nat.mod_one, List.map_const']
  rw [e] at h
  unfold OwnS
  rw [List.length_replicate]
  exact h

set_option maxRecDepth 100000 in
theorem new_ok (p : Nat) (h1 : 8 ≤ p) (h2 : p ≤ 512) (w : World) :
    Calls Try.prog 52 #[.int .i64 (p : Int)] w fun e w' => ∃ g gs gn cs cn, e = .returned (.tuple #[.pointer (some ⟨g, 0, none⟩), .int .i64 0]) ∧ Dk w' w.heap.size w'.heap.size g gs gn (.slice none 0 0) (p * 256) cs cn (List.replicate (p * 256) 0) (List.replicate (p * 256) 0) [] true (-1) ∧ Below w.heap.size w w' := by
  obtain ⟨iu, hiu, hz0, hz1, hz2⟩ := info_parts infoU8
  obtain ⟨n, hn⟩ : ∃ n, n = p * 256 := ⟨_, rfl⟩
  have hz3 : iu.bytes * n ≤ 281474976710656 := by rw [hz2]; omega
  have hni : ((p : Int) * 256) = (n : Int) := by omega
  have hL := Lib.hid hni
  have hN := Lib.hid hn
  clear hni
  rw [← hn]
  clear hn
  go_enter Try.func52, Try.ntmps52
  go_wp2_with (first
    | (at_make; refine wpList_make_full _ rfl (.tmp 11) (.tmp 11) 27 rfl w.heap.size 5 iu (.int .u8 0) 1 Try.underlying27 hiu hz0 hz1 .i64 .i64 ((p : Int) * 256) ((p : Int) * 256) n rfl rfl hL.out hL.out hz3 (by have := hN.out; unfold maxLen; omega) (Nat.le_refl _) ?_; intro w1 ho1 hg1; have ho2 := made8 ho1; have hb1 : Below w.heap.size w w1 := (Below.refl _ _).grown hg1 (Nat.le_refl _) (fun k hk => by cases hk))
    | (go_at_call 72; (refine (load_ok _ n n (List.replicate n 0) w1 ho2.bytes (by simp) (by have := hN.out; omega) (by have := hN.out; omega) (by have := hN.out; omega) (fun h => by cases h)).mono ?_); rintro e w2 ⟨g, gs, gn, cs, cn, rfl, hD, hb2⟩))
  go_ret2
  exact ⟨g, gs, gn, cs, cn, rfl, { hD with stay := OwnS.mono hD.stay hb1.size, now := OwnS.mono hD.now hb1.size, gB := Nat.le_trans hb1.size hD.gB, wait := World.ownsRow_nil _ _ _ _ }, hb1.trans (hb2.mono hb1.size)⟩

end Go.Proofs.Ytgkddhncfaeidaa

namespace Go.Proofs.Ytgkddhncfaeidaa
open Go.ChangeShapes Go.WideShapes Go.ChangeAt Go.RowKit

theorem ownKnob_none : ownKnob Try.prog.godebug = none := by kernel_rfl
end Go.Proofs.Ytgkddhncfaeidaa
