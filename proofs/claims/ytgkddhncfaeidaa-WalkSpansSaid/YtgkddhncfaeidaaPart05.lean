/- Several texts in one: A region whose order is drawn, all but its last operations quiet in a class of worlds: one walk of the text's order serves every order; the last operations, in their forced order, run in whatever world of the class. No program is named here. Power goes: Crash of a disk. New disks; the statements' full sectors, and their small test of a torn write: it is true in every world. What all rows of this seat share: how an argument that came in is told to a walk. Write of a disk, with what it changes block by block. -/
import Derived.Test.YtgkddhncfaeidaaPart00
import Derived.StillTail
import Derived.Test.YtgkddhncfaeidaaPart04
import Derived.Test.YtgkddhncfaeidaaRows
import Derived.WalkKit
import Derived.ProofKit
import Derived.OpenShut
import Derived.ShutString
import Derived.ChangeOld
import Derived.Below
set_option linter.unusedSimpArgs false
set_option linter.unusedVariables false
namespace Go.Proofs.Ytgkddhncfaeidaa
open Go.RowKit

section
variable {P : Program} {ops : Array Oper} {md : Region.Mode} {C : World → Prop}

def anyHead (P : Program) (md : Region.Mode) (ops : Array Oper) (C : World → Prop) (n : Nat) (L : Array Bool → Act → Prop) : Nat → Array Bool → Act → Prop
  | 0, listed, a => L listed a
  | f + 1, listed, a =>
    Region.ready md ops listed ≠ [] ∧ ∀ i ∈ Region.ready md ops listed, i < n ∧ qOp P ops C i (anyHead P md ops C n L f (listed.setIfInBounds i true)) a

theorem any_of_head {n g : Nat} {L : Array Bool → Act → Prop} {Q' : Exit → Act → World → Prop} (hL : ∀ listed a w, C w → L listed a → wpAny P md ops Q' g listed a w) :
    ∀ (f : Nat) (listed : Array Bool) (a : Act) (w : World), C w → anyHead P md ops C n L f listed a → wpAny P md ops Q' (f + g) listed a w
  | 0, listed, a, w, hw, h => by rw [Nat.zero_add]; exact hL _ _ _ hw h
  | f + 1, listed, a, w, hw, h => by
    rw [show f + 1 + g = (f + g) + 1 by omega]
    exact ⟨fun h0 => absurd h0 h.1, fun i hi => wpOp_of_qOp hw (fun a' w' hw' h' => any_of_head hL f _ a' w' hw' h') (h.2 i hi).2⟩

theorem anyHead_first {n i : Nat} {oi : Oper} {v : Value} {L : Array Bool → Act → Prop} (hi : ops[i]? = some oi) (hsel : ∀ (j : Nat) (o : Oper) cs b, ops[j]? = some o → o.op ≠ .select cs b)
    (hs : Region.sinkB md ops n = true) (hc : Region.chainB md ops n = true) (hn : n < ops.size) (hin : i < n)
    (hdone : ∀ listed a, L listed a → ∀ j ∈ Region.ready md ops listed, n ≤ j) :
    ∀ (f : Nat) (listed : Array Bool) (a : Act), HeadInv md ops n listed →
      (∀ j oj, ops[j]? = some oj → j ≠ i → listed.getD j true = false → (∀ e ∈ oj.after, Region.binds md e = true → e.on ≠ i) → oi.apart ops oj = true) →
      i ∈ Region.ready md ops listed → YieldsIn P ops C oi v a →
      anyHead P md ops C n L f (listed.setIfInBounds i true) (a.put oi.dst v) → anyHead P md ops C n L (f + 1) listed a := by
  intro f
  induction f with
  | zero =>
    intro listed a inv _ hr hy H
    have hun := (mem_ready.1 hr).1
    refine ⟨fun h => (by rw [h] at hr; cases hr), fun j hj => ?_⟩
    have hjn : j < n := by
      rcases Nat.lt_or_ge j n with h | h
      · exact h
      · exact absurd hj (tail_waits hs hc hn inv _ i rfl hin hun j h)
    refine ⟨hjn, ?_⟩
    by_cases hji : j = i
    · subst hji; exact hy.qOp hi H
    · have := hdone _ _ H j (ready_mono hj hji)
      omega
  | succ f ih =>
    intro listed a inv hfree hr hy H
    have hun := (mem_ready.1 hr).1
    refine ⟨fun h => (by rw [h] at hr; cases hr), fun j hj => ?_⟩
    have hjn : j < n := by
      rcases Nat.lt_or_ge j n with h | h
      · exact h
      · exact absurd hj (tail_waits hs hc hn inv _ i rfl hin hun j h)
    refine ⟨hjn, ?_⟩
    by_cases hji : j = i
    · subst hji; exact hy.qOp hi H
    · have h1 := (H.2 j (ready_mono hj hji)).2
      obtain ⟨hjun, oj, hoj, hall⟩ := mem_ready.1 hj
      have hnot : ∀ e ∈ oj.after, Region.binds md e = true → e.on ≠ i := fun e he hb heq => by
        have h1 := hall e he hb
        rw [heq, getD_both hun] at h1
        cases h1
      have h2 := qOp_put hoj (hfree j oj hoj hji hjun hnot) (fun cs b => hsel i oi cs b hi) (fun cs b => hsel j oj cs b hoj) hy h1
      have hfree' : ∀ k ok, ops[k]? = some ok → k ≠ i → (listed.setIfInBounds j true).getD k true = false →
          (∀ e ∈ ok.after, Region.binds md e = true → e.on ≠ i) → oi.apart ops ok = true := fun k ok hk hki hun hno => by
        refine hfree k ok hk hki ?_ hno
        by_cases hjk : j = k
        · subst hjk; exact hjun
        · rw [getD_set_ne true hjk] at hun; exact hun
      refine qOp_mono (fun a' h3 => ih (listed.setIfInBounds j true) a' (inv.set hj hjn) hfree' (ready_mono hr (Ne.symm hji)) h3.1 ?_) h2
      rw [Array.setIfInBounds_comm _ _ hji]
      exact h3.2

theorem anyHead_lex {n g : Nat} {Lq : Act → Prop} (hsel : Region.noSelect ops = true) (hs : Region.sinkB md ops n = true) (hc : Region.chainB md ops n = true) (hn : n < ops.size) :
    ∀ (l : List Oper) (k : Nat) (listed : Array Bool) (a : Act), (∀ j, j < l.length → l[j]? = ops[k + j]?) → k + l.length = n → HeadInv md ops n listed →
    Region.lexHead md ops g l.length k listed = true → wpQuiet P ops C Lq l a →
    anyHead P md ops C n (fun listed' a' => Region.seqB md ops g n listed' = true ∧ Lq a') l.length listed a
  | [], k, listed, a, _, hk, _, hB, h => by
    have : k = n := by simpa using hk
    subst this
    exact ⟨by simpa [Region.lexHead] using hB, h⟩
  | o :: l, k, listed, a, hl, hk, inv, hB, h => by
    have h0 : ops[k]? = some o := by simpa using (hl 0 (by simp)).symm
    simp only [List.length_cons, Region.lexHead, Bool.and_eq_true] at hB
    obtain ⟨⟨hr, hf⟩, hB'⟩ := hB
    have hkn : k < n := by simp only [List.length_cons] at hk; omega
    have hr' : k ∈ Region.ready md ops listed := by simpa using hr
    have hst : qOp P ops C k (wpQuiet P ops C Lq l) a := by unfold qOp; simp only [h0]; exact h
    obtain ⟨v, hy, hK⟩ := yieldsIn_of_qOp h0 hst
    exact anyHead_first h0 (Region.noSelect_spec hsel) hs hc hn hkn (fun listed' a' hL => seqB_ready hL.1) l.length listed a inv (Region.free_spec h0 hf) hr' hy
      (anyHead_lex hsel hs hc hn l (k + 1) _ _ (fun j hj => by have := hl (j + 1) (by simp; omega); simpa [Nat.add_assoc, Nat.add_comm 1 j] using this) (by simp only [List.length_cons] at hk; omega) (inv.set hr' hkn) hB' hK)
end

theorem region_below_tail {P : Program} {id : Nat} {Q : Exit → Act → World → Prop} {a : Act} {w : World} {l : List Oper} (n B : Nat) (w0 : World) (hb : Below B w0 w)
    (hm : P.follows .mixedOrders = true) (hB : Region.lexTailB .any l.toArray n = true)
    (h : wpQuiet P l.toArray (fun w' => ∃ x : SubW B w0, w' = x.at_) (fun a' => ∀ w', (∃ x : SubW B w0, w' = x.at_) → wpList P l.toArray Q (l.drop n) a' w') (l.take n) a) : (Code.region id l.toArray true).wp P Q a w := by
  simp only [Region.lexTailB, Bool.and_eq_true, decide_eq_true_eq] at hB
  obtain ⟨⟨⟨⟨hsel, hn⟩, hs⟩, hc⟩, hlex⟩ := hB
  have hn' : n < l.length := by simpa using hn
  have htl : (l.take n).length = n := by simp; omega
  have hdl : (l.drop n).length = l.toArray.size - n := by simp
  have inv0 : HeadInv .any l.toArray n (Array.replicate l.toArray.size false) :=
    ⟨by simp, fun j oj _ hl => (by rw [getD_replicate_false] at hl; cases hl), fun t _ ht => getD_in (by simpa using ht) (getD_replicate_false _ _)⟩
  have H := anyHead_lex (md := .any) (g := l.toArray.size - n) hsel hs hc hn (l.take n) 0 _ a (fun j hj => by
    have hj' : j < n := by rw [htl] at hj; exact hj
    simp [hj']) (by simpa using htl) inv0 (by rw [htl]; exact hlex) h
  refine wp_region_any hm ?_
  have := any_of_head (Q' := Q) (g := l.toArray.size - n) (fun listed a' w' hw hL => by
    have := wpAny_of_seq (md := .any) (Q' := Q) (l.drop n) n listed a' w' (fun j => by simp [List.getElem?_drop]) (by rw [hdl]; exact hL.1) (hL.2 w' hw)
    rwa [hdl] at this) _ _ _ { w with drawn := w.drawn + 1 } ⟨⟨_, below_drewN hb 1⟩, rfl⟩ H
  rw [htl, show n + (l.toArray.size - n) = l.toArray.size by omega] at this
  exact this
end Go.Proofs.Ytgkddhncfaeidaa

namespace Go.Proofs.Ytgkddhncfaeidaa
open Go.RowKit
set_option linter.unusedVariables false

section
variable {w w' : World} {B N g gs gn L cs cn : Nat} {rw : Value} {st nw : List UInt8} {ws : List (Nat × List UInt8)} {on : Bool} {left : Int}

theorem Dk.wider (h : Dk w B N g gs gn rw L cs cn st nw ws on left) {N' : Nat} (h1 : N ≤ N') (h2 : N' ≤ w.heap.size) : Dk w B N' g gs gn rw L cs cn st nw ws on left :=
  { h with gN := by have := h.gN; omega, sN := by have := h.sN; omega, nN := by have := h.nN; omega, wN := fun k hk => by have := h.wN k hk; omega, NN := h2 }

end
end Go.Proofs.Ytgkddhncfaeidaa

namespace Go.Proofs.Ytgkddhncfaeidaa
open Go.RowKit
set_option linter.unusedVariables false

theorem made8 {w : World} {base k : Nat} {v : Value} (h : w.ownsRow base 5 1 v k (madeCells (Value.int .u8 0).cells (k * 1)).toList) : OwnS w base v 5 (List.replicate k 0) := by
  have e : (madeCells (Value.int .u8 0).cells (k * 1)).toList = (List.replicate k (0 : UInt8)).map bv := by
    have h0 : (Value.int .u8 0).cells = #[.int .u8 0] := rfl
    rw [h0, Nat.mul_one]
    simp only [madeCells, List.map_replicate, bv]
    simp [Nat.mod_one, List.map_const']
  rw [e] at h
  unfold OwnS
  rw [List.length_replicate]
  exact h

set_option maxRecDepth 100000 in
theorem new_ok (p : Nat) (h1 : 8 ≤ p) (h2 : p ≤ 512) (w : World) :
    Calls Try.prog 52 #[.int .i64 (p : Int)] w fun e w' => ∃ g gs gn cs cn, e = .returned (.tuple #[.pointer (some ⟨g, 0, none⟩), .int .i64 0]) ∧ Dk w' w.heap.size w'.heap.size g gs gn (.slice none 0 0) (p * 256) cs cn (List.replicate (p * 256) 0) (List.replicate (p * 256) 0) [] true (-1) ∧ Below w.heap.size w w' := by
  obtain ⟨iu, hiu, hz0, hz1, hz2⟩ := info_parts infoU8
  obtain ⟨n, hn⟩ : ∃ n, n = p * 256 := ⟨_, rfl⟩
  have hz3 : iu.bytes * n ≤ 281474976710656 := by rw [hz2]; omega
  have hni : ((p : Int) * 256) = (n : Int) := by omega
  have hL := Lib.hid hni
  have hN := Lib.hid hn
  clear hni
  rw [← hn]
  clear hn
  go_enter Try.func52, Try.ntmps52
  go_wp2_with (first
    | (at_make; refine wpList_make_full _ rfl (.tmp 11) (.tmp 11) 27 rfl w.heap.size 5 iu (.int .u8 0) 1 Try.underlying27 hiu hz0 hz1 .i64 .i64 ((p : Int) * 256) ((p : Int) * 256) n rfl rfl hL.out hL.out hz3 (by have := hN.out; unfold maxLen; omega) (Nat.le_refl _) ?_; intro w1 ho1 hg1; have ho2 := made8 ho1; have hb1 : Below w.heap.size w w1 := (Below.refl _ _).grown hg1 (Nat.le_refl _) (fun k hk => by cases hk))
    | (go_at_call 72; (refine (load_ok _ n n (List.replicate n 0) w1 ho2.bytes (by simp) (by have := hN.out; omega) (by have := hN.out; omega) (by have := hN.out; omega) (fun h => by cases h)).mono ?_); rintro e w2 ⟨g, gs, gn, cs, cn, rfl, hD, hb2⟩))
  go_ret2
  exact ⟨g, gs, gn, cs, cn, rfl, { hD with stay := OwnS.mono hD.stay hb1.size, now := OwnS.mono hD.now hb1.size, gB := Nat.le_trans hb1.size hD.gB, wait := World.ownsRow_nil _ _ _ _ }, hb1.trans (hb2.mono hb1.size)⟩

end Go.Proofs.Ytgkddhncfaeidaa

namespace Go.Proofs.Ytgkddhncfaeidaa
open Go.ChangeShapes Go.WideShapes Go.ChangeAt Go.RowKit

theorem ownKnob_none : ownKnob Try.prog.godebug = none := by kernel_rfl
theorem laid_out : laidOutB Try.prog = true := by kernel_rfl

end Go.Proofs.Ytgkddhncfaeidaa

namespace Go.Proofs.Ytgkddhncfaeidaa
open Go.RowKit
set_option linter.unusedVariables false

/-- Blocks outside X are as they were. -/
structure OuterX (X : Nat → Prop) (w w' : World) : Prop where
  os : w'.os = w.os
  tape : w'.tape = w.tape
  output : w'.output = w.output
  size : w.heap.size ≤ w'.heap.size
  block : ∀ k, k < w.heap.size → ¬ X k → w'.heap[k]? = w.heap[k]?
theorem OuterX.refl (X : Nat → Prop) (w : World) : OuterX X w w := ⟨rfl, rfl, rfl, Nat.le_refl _, fun _ _ _ => rfl⟩
theorem OuterX.grown {X : Nat → Prop} {w w1 w2 : World} {r : Option Nat} (h : OuterX X w w1) (hg : w1.grownBy w2 r) (hr : ∀ k, r = some k → X k ∨ w.heap.size ≤ k) : OuterX X w w2 := by
  refine ⟨hg.os.trans h.os, hg.tape.trans h.tape, hg.output.trans h.output, Nat.le_trans h.size hg.size, fun k hk hko => ?_⟩
  refine (hg.block k (Nat.lt_of_lt_of_le hk h.size) (fun e => ?_)).trans (h.block k hk hko)
  rcases hr k e.symm with h1 | h1
  · exact hko h1
  · omega
theorem OuterX.alloc {X : Nat → Prop} {w w1 : World} (h : OuterX X w w1) (o : Obj) : OuterX X w (w1.alloc o) :=
  h.grown (grown_alloc w1 o none) (fun k e => by cases e)
theorem OuterX.then {X : Nat → Prop} {B' : Nat} {w w1 w2 : World} (h : OuterX X w w1) (hb : Below B' w1 w2) (hB : w.heap.size ≤ B') : OuterX X w w2 :=
  ⟨hb.os.trans h.os, hb.tape.trans h.tape, hb.output.trans h.output, Nat.le_trans h.size hb.size, fun k hk hko => (hb.block k (by omega)).trans (h.block k hk hko)⟩
theorem bytes_outerX {X : Nat → Prop} {w w' : World} {A : Option Addr} {xs : List UInt8} (h : BytesAt w A xs) (hg : OuterX X w w') (hne : ∀ a, A = some a → ¬ X a.block) : BytesAt w' A xs := fun hx => by
  obtain ⟨b, off, rfl, hc⟩ := h hx
  exact ⟨b, off, rfl, fun k hk => (World.cell?_of_block (a := ⟨b, off + k, none⟩) (hg.block b (World.block_lt_of_cell? _ _ (hc k hk)) (hne _ rfl))).trans (hc k hk)⟩
/-- The blocks of a disk that a Write changes. -/
def DkX (g gn : Nat) (rw : Value) (k : Nat) : Prop := k = g ∨ k = gn ∨ rw.ownBlock = some k

section
variable {w w' : World} {B N g gs gn L cs cn : Nat} {rw : Value} {st nw : List UInt8} {ws : List (Nat × List UInt8)} {on : Bool} {left : Int}

set_option maxHeartbeats 2000000 in
set_option maxRecDepth 100000 in
theorem write_any (h : Dk w B N g gs gn rw L cs cn st nw ws true left) (hne : left ≠ 0) (hl1 : -1 ≤ left) (hlm : left ≤ 9223372036854775807) (i : Nat) (hi : 64 * i + 64 ≤ L) (A : Option Addr) (c : Nat) (bs : List UInt8) (hx : BytesAt w A bs) (hbl : bs.length = 64)
    (hA : ∀ a, A = some a → ¬ DkX g gn rw a.block) (l' : Int) (hl' : stepped left = l') (hws : ws.length ≤ 1000) :
    Calls Try.prog 118 #[.pointer (some ⟨g, 0, none⟩), .int .i64 (i : Int), .slice A 64 c] w fun e w' => e = .returned (.int .i64 0) ∧
      (∃ rw', Dk w' B w'.heap.size g gs gn rw' L cs cn st (putAt nw i bs) (ws ++ [(i, bs)]) true l' ∧ Moved w rw.ownBlock rw'.ownBlock) ∧ OuterX (DkX g gn rw) w w' := by
  have H := Lib.hid h
  have hl := h.hi
  have HX := Lib.hid hx
  have HBL := Lib.hid hbl
  have HL := Lib.hid hl'
  clear h hx hbl hl'
  go_enter Try.func118, Try.ntmps118
  go_upto_region 9 with (first
    | (go_at_call 124; refine (refused_on H.out).mono ?_; rintro e w1 ⟨rfl, rfl⟩)
    | (go_at_call 125; refine (has_yes H.out _ i rfl hi).mono ?_; rintro e w1 ⟨rfl, rfl⟩)
    | (go_at_call 126; refine (step_yes H.out hne hl1 hlm l' HL.out).mono ?_; rintro e w1 ⟨rfl, h1, hg1, hz1⟩; have H1 := Lib.hid h1; have HZ1 := Lib.hid hz1; clear h1 hz1)
    | (refine wpList_store_row rfl 211 (.tmp 8) (.tmp 27) rfl w1.heap.size (Try.zeroCells211.setIfInBounds 0 (.int .i64 (i : Int))) rfl rfl 211 Try.zeroCells211 (heap_alloc_new _ _) (by kernel_rfl) (by kernel_rfl) (by kernel_rfl) ?_; rw [World.setRow_alloc_new]))
  have HN := H.out.NN
  have hgB := H.out.gB
  have hgN := H.out.gN
  have o1 : OuterX (DkX g gn rw) w w1 := (OuterX.refl (DkX g gn rw) w).grown hg1 (fun k hk => by injection hk with hk; subst hk; exact .inl (by unfold DkX; simp))
  have o2 := o1.alloc (.cells (Try.zeroCells211.setIfInBounds 0 (.int .i64 (i : Int))) 211)
  have hx2 := bytes_outerX HX.out o2 hA
  have H2 := Lib.hid (H1.out.below ((Below.refl w1.heap.size w1).alloc (Nat.le_refl _) (.cells (Try.zeroCells211.setIfInBounds 0 (.int .i64 (i : Int))) 211)))
  have hq2 : (w1.alloc (.cells (Try.zeroCells211.setIfInBounds 0 (.int .i64 (i : Int))) 211)).heap[w1.heap.size]? = some (.cells ((Value.int .i64 (i : Int)) :: List.replicate 64 (.int .u8 0)).toArray 211 (0, 0)) := heap_alloc_new _ _
  have hs2 : (w1.alloc (.cells (Try.zeroCells211.setIfInBounds 0 (.int .i64 (i : Int))) 211)).heap.size = w1.heap.size + 1 := by simp
  generalize w1.alloc (.cells (Try.zeroCells211.setIfInBounds 0 (.int .i64 (i : Int))) 211) = w2 at *
  have HQ2 := Lib.hid hq2
  have HX2 := Lib.hid hx2
  have HS2 := Lib.hid hs2
  have O2 := Lib.hid o2
  clear hq2 hx2 hs2 o1 o2 hg1
  generalize hq : w1.heap.size = q at *
  have HQ := Lib.hid hq
  clear hq
  have hbne : bs ≠ [] := by intro e; have := HBL.out; subst e; simp at this
  obtain ⟨ad, rfl, hcell⟩ := byteV_cells HX2.out hbne
  have m1 : (bs.map bv).length = Nat.min 64 64 := by rw [List.length_map, HBL.out]; rfl
  have m2 : 1 + (bs.map bv).length ≤ (Value.int .i64 (i : Int) :: List.replicate 64 (Value.int .u8 0)).length := by rw [List.length_map, HBL.out]; simp
  have m3 : (Try.prog.info? 5).map (·.size) = some 1 := by kernel_rfl
  have M1 := Lib.hid m1
  have M2 := Lib.hid m2
  have M3 := Lib.hid m3
  have M4 := Lib.hid hcell
  clear m1 m2 m3 hcell
  go_upto_region 10 with ((with_reducible refine wpList_copy_splice rfl (.tmp 29) (.tmp 30) 27 27 rfl 5 Try.underlying27 M3.out (some ⟨q, 1, none⟩) (some ad) 64 64 64 c rfl rfl q 1 (.int .i64 (i : Int) :: List.replicate 64 (.int .u8 0)) 211 HQ2.out (bs.map bv) M1.out (fun _ => ⟨rfl, ad, rfl, M4.out⟩) M2.out (bv_one bs) q w2 (Below.refl _ _) (Nat.le_refl _) ?_); intro w3 hq3 hb3)
  have hwq : w.heap.size ≤ q := by have := HQ.out; have := HZ1.out; omega
  have H3 := Lib.hid (H2.out.keep (w' := w3) hb3.size (fun k _ hk => hb3.block k (by omega)))
  have O3 := Lib.hid (O2.out.then hb3 hwq)
  have HX3 := Lib.hid (bytes_outerX HX.out O3.out hA)
  have hq4 := hq3.out
  rw [splice_wr i bs HBL.out] at hq4
  have hC65 : (wrC (i, bs)).toArray.size = 65 := by simp [wrC, HBL.out]
  have hC1 : ∀ u ∈ (wrC (i, bs)).toArray.toList, u.oneCell' = true := by simpa using wrC_one (i, bs)
  have hCl : (wrC (i, bs)).toArray.toList = wrC (i, bs) := by simp
  generalize (wrC (i, bs)).toArray = C at *
  have HQ4 := Lib.hid hq4
  have HC65 := Lib.hid hC65
  have HC1 := Lib.hid hC1
  have HCL := Lib.hid hCl
  clear hq3 hq4 hC65 hC1 hCl M1 M2 M4 HQ2 hb3 H2 O2 H1
  have hsC : Hid ((Try.prog.info? 211).map (·.size) = some C.size) := Lib.hid (by rw [HC65.out]; kernel_rfl)
  obtain ⟨iw, hiw, hiz, his, hib⟩ := info_parts infoWr
  have hfill : Hid (Instr.fill (fun i => some (i * iw.size, iw.size)) ((Array.range (1 * iw.size)).map ((Value.agg (.int .i64 0 :: List.replicate 64 (.int .u8 0)).toArray).cells[· % (Value.agg (.int .i64 0 :: List.replicate 64 (.int .u8 0)).toArray).cells.size]!)) [(0, .agg C)] = some C) := Lib.hid (by rw [his]; exact fill_wr C _ HC65.out (by simp))
  simp only [Act.put, List.setIfInBounds_toArray, List.set_cons_zero, List.set_cons_succ]
  go_cut [] from 32 to 41 (fun wx => ∃ rw', Dk wx B wx.heap.size g gs gn rw' L cs cn st nw (ws ++ [(i, bs)]) true l' ∧ OuterX (DkX g gn rw) w wx ∧ Moved w rw.ownBlock rw'.ownBlock)
  case first =>
    refine region_ways4 B (by have := O3.out.size; omega) (.two [0, 1, 2, 3] 4 (.one [] 5 (.one [] 6 (.one [] 7 (.one [8, 9] 10 (.done []))))) 5 (.two [] 4 (.one [] 6 (.one [] 7 (.one [8, 9] 10 (.done [])))) 6 (.one [] 4 (.one [] 7 (.one [8, 9] 10 (.done [])))))) (by kernel_rfl) (by kernel_rfl) ?_
    rintro w0 hbd
    have hb3s := O3.out.size
    have s0 := H3.out.below hbd
    have b0 : Below B w3 w0 := hbd.mono (by omega)
    have o0 := O3.out.then hbd hb3s
    have hq0 := (hbd.block q (Array.getElem?_eq_some_iff.1 HQ4.out).1).trans HQ4.out
    try simp only [Act.put, List.setIfInBounds_toArray, List.set_cons_zero, List.set_cons_succ]
    rw [wpWays_two4]
    try simp only [List.map_cons, List.map_nil, opAt, List.getElem?_toArray, List.getElem?_cons_zero, List.getElem?_cons_succ, Option.getD_some]
    repeat (go_big_quiet_step (fail))
    refine wpQuiet_nil ⟨?_, ?_⟩
    · have k4 := blk_cell s0.head 2 _ rfl
      go_wp2_with fail
      refine ⟨⟨⟨_, b0⟩, rfl⟩, ?_⟩
      try simp only [Act.put, List.setIfInBounds_toArray, List.set_cons_zero, List.set_cons_succ]
      clear k4
      rw [wpWays_one4]
      try simp only [List.map_nil, opAt, List.getElem?_toArray, List.getElem?_cons_zero, List.getElem?_cons_succ, Option.getD_some]
      refine wpQuiet_nil ?_
      go_wp2_with (refine wpList_load_row rfl 211 (.tmp 8) rfl q rfl 211 C (0, 0) _ hq0 Try.underlying211 rfl hsC.out ?_)
      refine ⟨⟨⟨_, b0⟩, rfl⟩, ?_⟩
      try simp only [Act.put, List.setIfInBounds_toArray, List.set_cons_zero, List.set_cons_succ]
      rw [wpWays_one4]
      try simp only [List.map_nil, opAt, List.getElem?_toArray, List.getElem?_cons_zero, List.getElem?_cons_succ, Option.getD_some]
      refine wpQuiet_nil ?_
      go_wp2_with (refine wpList_buildSlice rfl 157 211 1 _ rfl C iw _ Try.underlying157 hiw hiz (by rw [his]; decide) (by rw [his]; decide) (by rw [Array.toList_map]; exact hfill.out) ?_)
      have s1 := s0.below ((Below.refl _ _).alloc (Nat.le_refl _) (.cells C 211))
      have b1 : Below B w3 (w0.alloc (.cells C 211)) := b0.alloc (by have := b0.size; omega) _
      have o1 := o0.alloc (.cells C 211)
      refine ⟨⟨⟨_, b1⟩, rfl⟩, ?_⟩
      try simp only [Act.put, List.setIfInBounds_toArray, List.set_cons_zero, List.set_cons_succ]
      rw [wpWays_one4]
      try simp only [List.map_nil, opAt, List.getElem?_toArray, List.getElem?_cons_zero, List.getElem?_cons_succ, Option.getD_some]
      refine wpQuiet_nil ?_
      have hnews : ∀ (j : Nat) (u : Value), C.toList[j]? = some u → (w0.alloc (.cells C 211)).cell? ((⟨w0.heap.size, 0, none⟩ : Addr).add j) = some u := by
        intro j u hj
        rw [Addr.add_mid, World.cell?_alloc_new]
        simpa using hj
      go_wp2_with (at_builtin; refine wpList_append_own_at _ rfl (.tmp 36) (.tmp 38) 157 rfl B 211 iw _ 65 72 Try.underlying157 hiw hiz his hib rfl (by omega) _ ws.length (ws.flatMap wrC) rfl s1.wait ⟨w0.heap.size, 0, none⟩ 1 1 C.toList rfl (by rw [Array.length_toList, HC65.out]) hnews HC1.out (by unfold maxLen; omega) (by omega) (by have := b1.size; omega) ?_; intro rw2 w4 ho4 hg4 _ how4; obtain ⟨A2, c2, rfl⟩ := own_form ho4)
      have hwk : ∀ k, rw.ownBlock = some k → B ≤ k ∧ k < N := fun k hk => ⟨s1.blk k hk, s1.wN k hk⟩
      have b4 : Below B w3 w4 := b1.grown hg4 (by have := b1.size; omega) (fun k hk => (hwk k hk).1)
      have o4 := o1.grown hg4 (fun k hk => .inl (Or.inr (Or.inr hk)))
      have s4 := s1.more hg4 (by rw [HCL.out] at ho4; exact ho4) how4 HBL.out hi
      refine ⟨⟨⟨_, b4⟩, rfl⟩, ?_⟩
      try simp only [Act.put, List.setIfInBounds_toArray, List.set_cons_zero, List.set_cons_succ]
      rw [wpWays_one4]
      try simp only [List.map_cons, List.map_nil, opAt, List.getElem?_toArray, List.getElem?_cons_zero, List.getElem?_cons_succ, Option.getD_some]
      repeat (go_big_quiet_step (fail))
      refine wpQuiet_nil ?_
      have f4 : w4.frozen? ⟨g, 2, none⟩ = false := by simp [World.frozen?, s4.1]
      have k4 := blk_cell s4.1 2 _ rfl
      go_wp2_with fail
      have b5 : Below B w3 (w4.setCell ⟨g, 2, none⟩ (.slice A2 (ws.length + 1) c2)) := b4.trans (below_setC' (by have := b4.size; omega) hgB)
      refine ⟨⟨⟨_, b5⟩, rfl⟩, ?_⟩
      try simp only [Act.put, List.setIfInBounds_toArray, List.set_cons_zero, List.set_cons_succ]
      rw [wpWays_done4]
      try simp only [List.map_nil]
      refine wpQuiet_nil ?_
      go_wp2_with fail
      go_meet
      exact ⟨.slice A2 (ws.length + 1) c2, s4.2, o4.grown (grown_setC (World.grownBy.refl w4 _) 2 _) (fun k hk => by injection hk with hk; subst hk; exact .inl (by unfold DkX; simp)), by rcases how4 with e | e; exact .inl e; exact .inr ⟨_, e, by have := o1.size; exact this⟩⟩
    · go_wp2_with (refine wpList_load_row rfl 211 (.tmp 8) rfl q rfl 211 C (0, 0) _ hq0 Try.underlying211 rfl hsC.out ?_)
      refine ⟨⟨⟨_, b0⟩, rfl⟩, ?_⟩
      try simp only [Act.put, List.setIfInBounds_toArray, List.set_cons_zero, List.set_cons_succ]
      rw [wpWays_two4]
      try simp only [List.map_nil, opAt, List.getElem?_toArray, List.getElem?_cons_zero, List.getElem?_cons_succ, Option.getD_some]
      refine wpQuiet_nil ⟨?_, ?_⟩
      · have k4 := blk_cell s0.head 2 _ rfl
        go_wp2_with fail
        refine ⟨⟨⟨_, b0⟩, rfl⟩, ?_⟩
        try simp only [Act.put, List.setIfInBounds_toArray, List.set_cons_zero, List.set_cons_succ]
        clear k4
        rw [wpWays_one4]
        try simp only [List.map_nil, opAt, List.getElem?_toArray, List.getElem?_cons_zero, List.getElem?_cons_succ, Option.getD_some]
        refine wpQuiet_nil ?_
        go_wp2_with (refine wpList_buildSlice rfl 157 211 1 _ rfl C iw _ Try.underlying157 hiw hiz (by rw [his]; decide) (by rw [his]; decide) (by rw [Array.toList_map]; exact hfill.out) ?_)
        have s1 := s0.below ((Below.refl _ _).alloc (Nat.le_refl _) (.cells C 211))
        have b1 : Below B w3 (w0.alloc (.cells C 211)) := b0.alloc (by have := b0.size; omega) _
        have o1 := o0.alloc (.cells C 211)
        refine ⟨⟨⟨_, b1⟩, rfl⟩, ?_⟩
        try simp only [Act.put, List.setIfInBounds_toArray, List.set_cons_zero, List.set_cons_succ]
        rw [wpWays_one4]
        try simp only [List.map_nil, opAt, List.getElem?_toArray, List.getElem?_cons_zero, List.getElem?_cons_succ, Option.getD_some]
        refine wpQuiet_nil ?_
        have hnews : ∀ (j : Nat) (u : Value), C.toList[j]? = some u → (w0.alloc (.cells C 211)).cell? ((⟨w0.heap.size, 0, none⟩ : Addr).add j) = some u := by
          intro j u hj
          rw [Addr.add_mid, World.cell?_alloc_new]
          simpa using hj
        go_wp2_with (at_builtin; refine wpList_append_own_at _ rfl (.tmp 36) (.tmp 38) 157 rfl B 211 iw _ 65 72 Try.underlying157 hiw hiz his hib rfl (by omega) _ ws.length (ws.flatMap wrC) rfl s1.wait ⟨w0.heap.size, 0, none⟩ 1 1 C.toList rfl (by rw [Array.length_toList, HC65.out]) hnews HC1.out (by unfold maxLen; omega) (by omega) (by have := b1.size; omega) ?_; intro rw2 w4 ho4 hg4 _ how4; obtain ⟨A2, c2, rfl⟩ := own_form ho4)
        have hwk : ∀ k, rw.ownBlock = some k → B ≤ k ∧ k < N := fun k hk => ⟨s1.blk k hk, s1.wN k hk⟩
        have b4 : Below B w3 w4 := b1.grown hg4 (by have := b1.size; omega) (fun k hk => (hwk k hk).1)
        have o4 := o1.grown hg4 (fun k hk => .inl (Or.inr (Or.inr hk)))
        have s4 := s1.more hg4 (by rw [HCL.out] at ho4; exact ho4) how4 HBL.out hi
        refine ⟨⟨⟨_, b4⟩, rfl⟩, ?_⟩
        try simp only [Act.put, List.setIfInBounds_toArray, List.set_cons_zero, List.set_cons_succ]
        rw [wpWays_one4]
        try simp only [List.map_cons, List.map_nil, opAt, List.getElem?_toArray, List.getElem?_cons_zero, List.getElem?_cons_succ, Option.getD_some]
        repeat (go_big_quiet_step (fail))
        refine wpQuiet_nil ?_
        have f4 : w4.frozen? ⟨g, 2, none⟩ = false := by simp [World.frozen?, s4.1]
        have k4 := blk_cell s4.1 2 _ rfl
        go_wp2_with fail
        have b5 : Below B w3 (w4.setCell ⟨g, 2, none⟩ (.slice A2 (ws.length + 1) c2)) := b4.trans (below_setC' (by have := b4.size; omega) hgB)
        refine ⟨⟨⟨_, b5⟩, rfl⟩, ?_⟩
        try simp only [Act.put, List.setIfInBounds_toArray, List.set_cons_zero, List.set_cons_succ]
        rw [wpWays_done4]
        try simp only [List.map_nil]
        refine wpQuiet_nil ?_
        go_wp2_with fail
        go_meet
        exact ⟨.slice A2 (ws.length + 1) c2, s4.2, o4.grown (grown_setC (World.grownBy.refl w4 _) 2 _) (fun k hk => by injection hk with hk; subst hk; exact .inl (by unfold DkX; simp)), by rcases how4 with e | e; exact .inl e; exact .inr ⟨_, e, by have := o1.size; exact this⟩⟩
      · go_wp2_with (refine wpList_buildSlice rfl 157 211 1 _ rfl C iw _ Try.underlying157 hiw hiz (by rw [his]; decide) (by rw [his]; decide) (by rw [Array.toList_map]; exact hfill.out) ?_)
        have s1 := s0.below ((Below.refl _ _).alloc (Nat.le_refl _) (.cells C 211))
        have b1 : Below B w3 (w0.alloc (.cells C 211)) := b0.alloc (by have := b0.size; omega) _
        have o1 := o0.alloc (.cells C 211)
        refine ⟨⟨⟨_, b1⟩, rfl⟩, ?_⟩
        try simp only [Act.put, List.setIfInBounds_toArray, List.set_cons_zero, List.set_cons_succ]
        rw [wpWays_one4]
        try simp only [List.map_nil, opAt, List.getElem?_toArray, List.getElem?_cons_zero, List.getElem?_cons_succ, Option.getD_some]
        refine wpQuiet_nil ?_
        have k4 := blk_cell s1.head 2 _ rfl
        go_wp2_with fail
        refine ⟨⟨⟨_, b1⟩, rfl⟩, ?_⟩
        try simp only [Act.put, List.setIfInBounds_toArray, List.set_cons_zero, List.set_cons_succ]
        clear k4
        rw [wpWays_one4]
        try simp only [List.map_nil, opAt, List.getElem?_toArray, List.getElem?_cons_zero, List.getElem?_cons_succ, Option.getD_some]
        refine wpQuiet_nil ?_
        have hnews : ∀ (j : Nat) (u : Value), C.toList[j]? = some u → (w0.alloc (.cells C 211)).cell? ((⟨w0.heap.size, 0, none⟩ : Addr).add j) = some u := by
          intro j u hj
          rw [Addr.add_mid, World.cell?_alloc_new]
          simpa using hj
        go_wp2_with (at_builtin; refine wpList_append_own_at _ rfl (.tmp 36) (.tmp 38) 157 rfl B 211 iw _ 65 72 Try.underlying157 hiw hiz his hib rfl (by omega) _ ws.length (ws.flatMap wrC) rfl s1.wait ⟨w0.heap.size, 0, none⟩ 1 1 C.toList rfl (by rw [Array.length_toList, HC65.out]) hnews HC1.out (by unfold maxLen; omega) (by omega) (by have := b1.size; omega) ?_; intro rw2 w4 ho4 hg4 _ how4; obtain ⟨A2, c2, rfl⟩ := own_form ho4)
        have hwk : ∀ k, rw.ownBlock = some k → B ≤ k ∧ k < N := fun k hk => ⟨s1.blk k hk, s1.wN k hk⟩
        have b4 : Below B w3 w4 := b1.grown hg4 (by have := b1.size; omega) (fun k hk => (hwk k hk).1)
        have o4 := o1.grown hg4 (fun k hk => .inl (Or.inr (Or.inr hk)))
        have s4 := s1.more hg4 (by rw [HCL.out] at ho4; exact ho4) how4 HBL.out hi
        refine ⟨⟨⟨_, b4⟩, rfl⟩, ?_⟩
        try simp only [Act.put, List.setIfInBounds_toArray, List.set_cons_zero, List.set_cons_succ]
        rw [wpWays_one4]
        try simp only [List.map_cons, List.map_nil, opAt, List.getElem?_toArray, List.getElem?_cons_zero, List.getElem?_cons_succ, Option.getD_some]
        repeat (go_big_quiet_step (fail))
        refine wpQuiet_nil ?_
        have f4 : w4.frozen? ⟨g, 2, none⟩ = false := by simp [World.frozen?, s4.1]
        have k4 := blk_cell s4.1 2 _ rfl
        go_wp2_with fail
        have b5 : Below B w3 (w4.setCell ⟨g, 2, none⟩ (.slice A2 (ws.length + 1) c2)) := b4.trans (below_setC' (by have := b4.size; omega) hgB)
        refine ⟨⟨⟨_, b5⟩, rfl⟩, ?_⟩
        try simp only [Act.put, List.setIfInBounds_toArray, List.set_cons_zero, List.set_cons_succ]
        rw [wpWays_done4]
        try simp only [List.map_nil]
        refine wpQuiet_nil ?_
        go_wp2_with fail
        go_meet
        exact ⟨.slice A2 (ws.length + 1) c2, s4.2, o4.grown (grown_setC (World.grownBy.refl w4 _) 2 _) (fun k hk => by injection hk with hk; subst hk; exact .inl (by unfold DkX; simp)), by rcases how4 with e | e; exact .inl e; exact .inr ⟨_, e, by have := o1.size; exact this⟩⟩
  case rest =>
    obtain ⟨rw', s5, o5, mv5⟩ := hcut
    have HX5 := Lib.hid (bytes_outerX HX.out o5 hA)
    have S5 := Lib.hid s5
    have O5 := Lib.hid o5
    clear s5 o5
    have c1 := blk_cell S5.out.head 1 _ rfl
    obtain ⟨hB5, hcn, hcm, _⟩ := S5.out.now.parts
    rw [S5.out.lnw] at hcn
    have hnow : Hid (OwnB wc B gn cn 5 (nw.take (64 * i) ++ nw.drop (64 * i))) := Lib.hid (by rw [List.take_append_drop]; exact S5.out.now)
    have hpre : Hid (64 * i = (nw.take (64 * i)).length) := Lib.hid (by rw [List.length_take, S5.out.lnw]; omega)
    have hfit : Hid (64 ≤ (nw.drop (64 * i)).length) := Lib.hid (by rw [List.length_drop, S5.out.lnw]; omega)
    go_wp2_with (first
      | (go_at_call 127; (with_reducible refine (sector_any gn cn i hi hl hcn hcm _ rfl).mono ?_); rintro e w1 ⟨rfl, rfl⟩)
      | ((with_reducible refine wpList_copy_bytes rfl (.tmp 47) (.tmp 48) 27 27 rfl 5 Try.underlying27 M3.out B gn cn (64 * i) 64 (cn - 64 * i) (some ad) 64 c (nw.take (64 * i)) (nw.drop (64 * i)) bs rfl rfl hpre.out hnow.out HX5.out HBL.out (Nat.le_refl _) hfit.out ?_); intro w6 ho6 hg6))
    go_ret
    have hgn := S5.out.now.parts.1
    have hnN := H.out.nN
    have o6 : OuterX (DkX g gn rw) w w6 := O5.out.grown hg6 (fun k hk => by injection hk with hk; subst hk; exact .inl (by unfold DkX; simp))
    refine ⟨rfl, ⟨rw', S5.out.setNow hg6 ho6 ?_, mv5⟩, o6⟩
    rw [length_putAt (by rw [S5.out.lnw]; exact hi) HBL.out]
    exact S5.out.lnw
end
end Go.Proofs.Ytgkddhncfaeidaa
