/- Several texts in one: Entries: a tree's entries as an iterator that lays its looker itself. Series: the series that have entries. WalkEntries: its walk. Spans: the entries of a series whose span meets a range. -/
import Derived.Test.YtgkddhncfaeidaaTvTa
import Derived.RangeFuncCalls
import Derived.OwnWalkIn
import Derived.OrdersIn
import Derived.Test.YtgkddhncfaeidaaPart00
import Derived.Test.YtgkddhncfaeidaaPart27
import Derived.Test.YtgkddhncfaeidaaPart36
import Derived.Test.YtgkddhncfaeidaaPart28
import Derived.Test.YtgkddhncfaeidaaPart13
set_option linter.unusedSimpArgs false
set_option linter.unusedVariables false
namespace Go.Proofs.Ytgkddhncfaeidaa
open Go.RowKit Go.Shelf CrcM PageM
set_option linter.unusedVariables false
attribute [local go_sem] Oper.semAt_some

set_option maxRecDepth 100000 in
theorem entriesF_mk (n gv : Nat) (a hh : Int) (w : World) :
    CallsIn Fence.wide n Try.prog 30 #[.pointer (some ⟨gv, 0, none⟩), .agg #[.int .i64 a, .int .i64 hh]] w fun e w' => e = .returned (.func (.func 59) #[] #[.pointer (some ⟨w.heap.size, 0, none⟩), .pointer (some ⟨w.heap.size + 1, 0, none⟩)]) ∧ w' = (w.alloc (.cells #[.pointer (some ⟨gv, 0, none⟩)] 61)).alloc (.cells #[.int .i64 a, .int .i64 hh] 63) := by
  refine callsIn_of_wp Try.func30 rfl trivial ?_ rfl
  simp only [Try.ntmps30, List.size_toArray, List.length_cons, List.length_nil, Nat.reduceAdd, Nat.reduceSub, Array.replicate_succ, Array.replicate_zero, List.push_toArray, List.append_toArray, List.nil_append, List.cons_append]
  gi_wp2
  go_ret
  exact ⟨rfl, rfl⟩

set_option maxRecDepth 100000 in
set_option maxHeartbeats 4000000 in
theorem entriesF_seq (m gv n₀ g gen p a hh B1 B2 : Nat) (U V : List Bool) {B N gs gn Ls cs cn : Nat} {rw : Value} {st nw : List UInt8} {ws : List (Nat × List UInt8)} (C : World → Nat → Prop) (w0 : World) (hn₀ : n₀ = w0.heap.size)
    (hv : ViewAt w0 gv g gen (p : Int) U V) (hd : Dk w0 B N g gs gn rw Ls cs cn st nw ws true (-1)) (es : List EntD) (ht : TreeR nw Ls a hh es) (hc : cntR hh es.length ≤ 1000000) :
    SeqT Fence.wide m Try.prog 59 #[.pointer (some ⟨B1, 0, none⟩), .pointer (some ⟨B2, 0, none⟩)] (fun x => #[enV x, .int .i64 0]) (TL n₀) (KpC n₀ C) (OkC n₀ C) (CcC C)
      (fun W => Below w0.heap.size w0 W ∧ W.heap[B1]? = some (.cells #[.pointer (some ⟨gv, 0, none⟩)] 61 (0, 0)) ∧ W.heap[B2]? = some (.cells #[.int .i64 (a : Int), .int .i64 (hh : Int)] 63 (0, 0)))
      (fun xs W => xs = es) (fun q W => ∃ r, es = q ++ r ∧ q ≠ []) es.length := by
  rintro l J Jx W ⟨hb, hb1, hb2⟩ hJT hOk hCc hY h0
  have hO := hOk _ _ h0
  have hCX : ∀ X, Below W.heap.size W X → TL n₀ W X := fun X hX => ⟨hX.mono hO.1, fun k o hk _ => (hX.block k (Array.getElem?_eq_some_iff.1 hk).1).trans hk⟩
  have HB1 := Lib.hid hb1
  have HB2 := Lib.hid hb2
  obtain ⟨gl, hgl⟩ : ∃ gl, gl = W.heap.size := ⟨_, rfl⟩
  obtain ⟨W1, hW1⟩ : ∃ W1, W1 = W.alloc (.cells #[.pointer (some ⟨gv, 0, none⟩), .int .i64 0] 121) := ⟨_, rfl⟩
  have B01 := Lib.hid (alloc_bel hW1)
  have L1 : Hid (Lk W1 gl gv 0) := Lib.hid (by rw [hW1, hgl]; exact heap_alloc_new _ _)
  have Z1 : Hid (W1.heap.size = gl + 1) := Lib.hid (by rw [hW1, hgl]; simp)
  have R1 : Hid (W1.heap[B2]? = some (.cells #[.int .i64 (a : Int), .int .i64 (hh : Int)] 63 (0, 0))) := Lib.hid (row_stays hb2 B01.out)
  have HGL := Lib.hid hgl
  have HW1 := Lib.hid hW1
  have HRUN : Hid (∀ (q : Nat) (W2 : World), W2 = (W1.alloc (.cells #[.pointer (some ⟨gl, 0, none⟩)] 152)).alloc (.cells #[.int .i64 (a : Int), .int .i64 (hh : Int)] 63) → CallsIn Fence.wide q Try.prog 82 (#[.func (.yield l) #[] #[]] ++ #[.pointer (some ⟨W1.heap.size, 0, none⟩), .pointer (some ⟨W1.heap.size + 1, 0, none⟩)]) W2 fun e W' => (∃ v, e = .returned v) ∧ ((∃ xs, xs = es ∧ J xs W') ∨ ∃ pre, (∃ r, es = pre ++ r ∧ pre ≠ []) ∧ Jx pre W')) := Lib.hid (fun q W2 hW2 => by
    have hB12 : Below W1.heap.size W1 W2 := by rw [hW2]; exact ((Below.refl _ _).alloc (Nat.le_refl _) _).alloc (by simp) _
    have hB02 : Below W.heap.size W W2 := B01.out.trans (hB12.mono B01.out.size)
    have x1 : W2.heap[W1.heap.size]? = some (.cells #[.pointer (some ⟨gl, 0, none⟩)] 152 (0, 0)) := by rw [hW2]; exact row_stays (heap_alloc_new _ _) (alloc_bel rfl)
    have x2 : W2.heap[W1.heap.size + 1]? = some (.cells #[.int .i64 (a : Int), .int .i64 (hh : Int)] 63 (0, 0)) := by
      rw [hW2]
      have h1 := heap_alloc_new (W1.alloc (.cells #[.pointer (some ⟨gl, 0, none⟩)] 152)) (.cells #[.int .i64 (a : Int), .int .i64 (hh : Int)] 63)
      rw [World.size_alloc] at h1
      exact h1
    have hT2 := hCX W2 hB02
    refine (entries1_seq q gl gv n₀ g gen p a hh 0 W1.heap.size (W1.heap.size + 1) U V C w0 hn₀ (by rw [hgl]; exact hO.1) hv hd es ht (by omega) l J Jx W2 ⟨hb.trans (hB02.mono hb.size), row_stays L1.out hB12, fun hx => ?_, x1, x2⟩ hJT hOk hCc (fun pre x Wz hj hl => yieldAny (hY pre x Wz hj hl)) (hJT _ _ _ h0 hT2)).mono ?_
    · have h1 := hO.2 _ (hCc _ _ _ h0 hT2 _ hx)
      rw [hgl] at h1
      exact Nat.lt_irrefl _ h1
    · rintro e W' ⟨h1, ⟨xs, ⟨h2, _⟩, h3⟩ | ⟨pre, ⟨r, h2, h3, _⟩, h4⟩⟩
      · exact ⟨h1, .inl ⟨xs, h2, h3⟩⟩
      · exact ⟨h1, .inr ⟨pre, ⟨r, h2, h3⟩, h4⟩⟩)
  clear hb hb1 hb2 hJT hOk hCc hY h0 hCX hv hd ht hO hgl hW1
  have k1 := nd_cell HB1.out 0 (.pointer (some ⟨gv, 0, none⟩)) rfl
  refine callsIn_of_wp Try.func59 rfl trivial ?_ rfl
  simp only [Try.ntmps59, List.size_toArray, List.length_cons, List.length_nil, Nat.reduceAdd, Nat.reduceSub, Array.replicate_succ, Array.replicate_zero, List.push_toArray, List.append_toArray, List.nil_append, List.cons_append]
  gi_wp2_with (first
    | (refine wideIn_store_row rfl 121 (.tmp 4) (.tmp 6) rfl W.heap.size #[.pointer (some ⟨gv, 0, none⟩), .int .i64 0] rfl rfl 121 _ (heap_alloc_new _ _) (by kernel_rfl) rfl (by simp [Value.oneCell']) ?_; rw [World.setRow_alloc_new, ← HW1.out, ← HGL.out])
    | (refine wideIn_load_row rfl 63 (.tmp 2) rfl B2 rfl 63 _ (0, 0) _ R1.out Try.underlying63 rfl (by kernel_rfl) ?_))
  refine ⟨trivial, fun h => (by cases h), (entries_mk _ gl (a : Int) (hh : Int) W1).mono ?_⟩
  rintro e W2 ⟨rfl, hw2⟩
  have HW2 := Lib.hid hw2
  clear hw2
  gi_wp2
  refine ⟨trivial, fun h => (by cases h), (HRUN.out _ W2 HW2.out).mono ?_⟩
  rintro e W3 ⟨⟨v, rfl⟩, h⟩
  gi_wp2
  go_end0
  exact ⟨⟨_, rfl⟩, h⟩
end Go.Proofs.Ytgkddhncfaeidaa

namespace Go.Proofs.Ytgkddhncfaeidaa
open Go.RowKit Go.Shelf CrcM PageM
set_option linter.unusedVariables false
attribute [local go_sem] Oper.semAt_some

theorem results_cellsA2 {P : Program} {fn : Func} {p q : Tmp} {t1 t2 : TypeId} (h : fn.results = #[.cell p t1, .cell q t2]) (tmps : Array Value) (w : World) (a1 a2 : Addr) (v1 v2 : Value)
    (h1 : tmps.getD p undef = .pointer (some a1)) (h2 : tmps.getD q undef = .pointer (some a2)) (l1 : (loadVar t1 a1).run P w = .ok v1 w) (l2 : (loadVar t2 a2).run P w = .ok v2 w) :
    (results fn tmps).run P w = .ok (.tuple #[v1, v2]) w := by
  have e1 : tmps[p]?.getD undef = .pointer (some a1) := by simpa using h1
  have e2 : tmps[q]?.getD undef = .pointer (some a2) := by simpa using h2
  simp [results, h, e1, e2, asAddr, l1, l2]
end Go.Proofs.Ytgkddhncfaeidaa

namespace Go.Proofs.Ytgkddhncfaeidaa
open Go.RowKit Go.ChangeShapes Go.WideShapes Go.ChangeAt CrcM PageM
set_option linter.unusedVariables false
attribute [local go_sem] Oper.semAt_some

end Go.Proofs.Ytgkddhncfaeidaa

namespace Go.Proofs.Ytgkddhncfaeidaa
open Go.RowKit Go.Shelf CrcM PageM
set_option linter.unusedVariables false
attribute [local go_sem] Oper.semAt_some

/-- Is an entry one of them? Is there none behind it? -/
def selB (S f t : Int) (x : EntD) : Bool := x.se == S && (decide (x.st ≤ t) && decide (f ≤ x.en))
def brkP (S t : Int) (x : EntD) : Prop := S < x.se ∨ x.se = S ∧ t ≤ x.en
/-- Between two rounds of Spans. -/
structure SpI (Bl : Nat) (w : World) (S f t : Int) (pre : List EntD) (W : World) : Prop where
  bel : Below w.heap.size w W
  lst : ∃ v, Boxed W Bl 31 v ∧ W.ownsRow w.heap.size 77 8 v (pre.filter (selB S f t)).length ((pre.filter (selB S f t)).flatMap enC)
  c1 : W.heap[w.heap.size + 1]? = some (.cells #[.int .i64 S] 3 (0, 0))
  c2 : W.heap[w.heap.size + 1 + 1]? = some (.cells #[.int .i64 f] 2 (0, 0))
  c3 : W.heap[w.heap.size + 1 + 1 + 1]? = some (.cells #[.int .i64 t] 2 (0, 0))
  c4 : W.heap[w.heap.size + 1 + 1 + 1 + 1]? = some (.cells #[.slice none 0 0] 31 (0, 0))
  c5 : W.heap[w.heap.size + 1 + 1 + 1 + 1 + 1]? = some (.cells #[.int .i64 0] 28 (0, 0))
theorem SpI.ck {Bl : Nat} {w A B : World} {S f t : Int} {pre : List EntD} (h : SpI Bl w S f t pre A) (k : CK w.heap.size A B) : SpI Bl w S f t pre B where
  bel := h.bel.trans k.bel
  lst := by
    obtain ⟨v, h1, h2⟩ := h.lst
    exact ⟨v, (k.keep _ _ _ _ h1 (by decide)).trans h1, row_keep h2 (fun i cur _ hc => k.keep _ _ _ _ hc (by decide))⟩
  c1 := (k.keep _ _ _ _ h.c1 (by decide)).trans h.c1
  c2 := (k.keep _ _ _ _ h.c2 (by decide)).trans h.c2
  c3 := (k.keep _ _ _ _ h.c3 (by decide)).trans h.c3
  c4 := (k.keep _ _ _ _ h.c4 (by decide)).trans h.c4
  c5 := (k.keep _ _ _ _ h.c5 (by decide)).trans h.c5
theorem SpI.ok {Bl : Nat} {w A : World} {S f t : Int} {pre : List EntD} (h : SpI Bl w S f t pre A) : OkC w.heap.size (ownTk Bl) A := ⟨h.bel.size, fun k hk => by
  obtain ⟨v, h1, h2⟩ := h.lst
  rcases hk with rfl | ⟨u, hu, ho⟩
  · exact h1.lt
  · rw [h1.cell] at hu
    cases hu
    exact (World.ownsRow.lt h2 k ho).2⟩
theorem SpI.cc {Bl : Nat} {w A B : World} {S f t : Int} {pre : List EntD} (h : SpI Bl w S f t pre A) (k : TL w.heap.size A B) : CcC (ownTk Bl) A B := fun i hi => by
  obtain ⟨v, h1, _⟩ := h.lst
  exact ownTk_same (k.ck.keep _ _ _ _ h1 (by decide)) hi
theorem SpI.app {Bl : Nat} {w W w1 : World} {S f t : Int} {pre : List EntD} {x : EntD} {v v' : Value} {tmp : Obj} {m : Nat} {us : List Value} (h : SpI Bl w S f t pre W) (hB : w.heap.size + 6 ≤ Bl) (hv : Boxed W Bl 31 v) (hm : m = (pre.filter (selB S f t)).length) (hus : us = (pre.filter (selB S f t)).flatMap enC) (hrow : W.ownsRow w.heap.size 77 8 v m us) (hs : selB S f t x = true)
    (hown' : w1.ownsRow w.heap.size 77 8 v' (m + 1) (us ++ enC x)) (hgrow : (W.alloc tmp).grownBy w1 v.ownBlock) (hblk : v'.ownBlock = v.ownBlock ∨ v'.ownBlock = some (W.alloc tmp).heap.size) : SpI Bl w S f t (pre ++ [x]) (w1.setCell ⟨Bl, 0, none⟩ v') := by
  have hk := kpTk_app hv (by decide) hrow h.bel.size (by omega) hown' hgrow hblk
  obtain ⟨_, hv2, hr2, _, hb2⟩ := hv.appended (by decide) hrow h.bel.size (by omega) hown' hgrow
  have hno : ∀ (k : Nat) (T : TypeId) (u : Value), Boxed W k T u → T ≠ 77 → k ≠ Bl → ¬ ownTk Bl W k := fun k T u hb ht hne ho => by
    rcases ho with ho | ⟨u', hu, ho⟩
    · exact hne ho
    · rw [hv.cell] at hu
      cases hu
      exact hb.not_row ht hrow ho.symm
  have hf : (pre ++ [x]).filter (selB S f t) = pre.filter (selB S f t) ++ [x] := by simp [List.filter_append, hs]
  exact ⟨h.bel.trans hb2, ⟨v', hv2, by rw [hf, List.length_append, List.flatMap_append, ← hm, ← hus]; simpa using hr2⟩,
(hk.keep _ _ _ _ h.c1 (hno _ _ _ h.c1 (by decide) (by omega))).trans h.c1, (hk.keep _ _ _ _ h.c2 (hno _ _ _ h.c2 (by decide) (by omega))).trans h.c2, (hk.keep _ _ _ _ h.c3 (hno _ _ _ h.c3 (by decide) (by omega))).trans h.c3, (hk.keep _ _ _ _ h.c4 (hno _ _ _ h.c4 (by decide) (by omega))).trans h.c4, (hk.keep _ _ _ _ h.c5 (hno _ _ _ h.c5 (by decide) (by omega))).trans h.c5⟩
theorem SpI.same {Bl : Nat} {w W : World} {S f t : Int} {pre : List EntD} {x : EntD} (h : SpI Bl w S f t pre W) (hs : selB S f t x = false) : SpI Bl w S f t (pre ++ [x]) W := by
  have hf : (pre ++ [x]).filter (selB S f t) = pre.filter (selB S f t) := by simp [List.filter_append, hs]
  exact ⟨h.bel, by rw [hf]; exact h.lst, h.c1, h.c2, h.c3, h.c4, h.c5⟩

set_option maxRecDepth 100000 in
set_option maxHeartbeats 8000000 in
theorem spans_go (gv g gen p a hh : Nat) (U V : List Bool) {B N gs gn Ls cs cn : Nat} {rw : Value} {st nw : List UInt8} {ws : List (Nat × List UInt8)} (es : List EntD) (ht : TreeR nw Ls a hh es) (hle : es.length ≤ 1000) (hcm : cntR hh es.length ≤ 900000) (S f t : Int) (hft : f ≤ t) (hbrk : ∀ q x r, es = q ++ x :: r → brkP S t x → ∀ y ∈ r, selB S f t y = false)
    (w : World) (hv : ViewAt w gv g gen (p : Int) U V) (hd : Dk w B N g gs gn rw Ls cs cn st nw ws true (-1)) :
    CallsIn Fence.wide 3 Try.prog 32 #[.pointer (some ⟨gv, 0, none⟩), .agg #[.int .i64 (a : Int), .int .i64 (hh : Int)], .int .i64 S, .int .i64 f, .int .i64 t] w fun e w' => (∃ A c, e = .returned (.tuple #[.slice A (es.filter (selB S f t)).length c, .int .i64 0]) ∧ w'.ownsRow w.heap.size 77 8 (.slice A (es.filter (selB S f t)).length c) (es.filter (selB S f t)).length ((es.filter (selB S f t)).flatMap enC)) ∧ Below w.heap.size w w' := by
  have hh5 : hh ≤ 5 := by
    rcases ht with ⟨_, h⟩ | ⟨h, n, e1, e2, _⟩ <;> omega
  have hd1 : decide (f > t) = false := by simp; omega
  refine callsIn_of_wp_marks Try.func32 rfl trivial ?_ rfl
  simp only [Try.ntmps32, List.size_toArray, List.length_cons, List.length_nil, Nat.reduceAdd, Nat.reduceSub, Array.replicate_succ, Array.replicate_zero, List.push_toArray, List.append_toArray, List.nil_append, List.cons_append]
  have HT := Lib.hid ht
  have HV := Lib.hid hv
  have HD := Lib.hid hd
  have HBK := Lib.hid hbrk
  clear ht hv hd hbrk hft
  gi_wp2
  obtain ⟨w6, hw6⟩ : ∃ w6, w6 = ((((((w.alloc (.cells #[.int .i64 (a : Int), .int .i64 (hh : Int)] 63)).alloc (.cells #[.int .i64 S] 3)).alloc (.cells #[.int .i64 f] 2)).alloc (.cells #[.int .i64 t] 2)).alloc (.cells #[.slice none 0 0] 31)).alloc (.cells #[.int .i64 0] 28)) := ⟨_, rfl⟩
  have Z6 : Hid (w6.heap.size = w.heap.size + 6) := Lib.hid (by rw [hw6]; simp)
  have B6 : Hid (Below w.heap.size w w6) := Lib.hid (by rw [hw6]; exact ((((((Below.refl _ _).alloc (Nat.le_refl _) _).alloc (by simp) _).alloc (by simp; omega) _).alloc (by simp; omega) _).alloc (by simp; omega) _).alloc (by simp; omega) _)
  have G0 : Hid (w6.heap[w.heap.size]? = some (.cells #[.int .i64 (a : Int), .int .i64 (hh : Int)] 63 (0, 0))) := Lib.hid (by
    rw [hw6]
    have h1 := heap_alloc_new w (.cells #[.int .i64 (a : Int), .int .i64 (hh : Int)] 63)
    exact (row_stays (row_stays (row_stays (row_stays (row_stays h1 (alloc_bel rfl)) (alloc_bel rfl)) (alloc_bel rfl)) (alloc_bel rfl)) (alloc_bel rfl)))
  have G1 : Hid (w6.heap[w.heap.size + 1]? = some (.cells #[.int .i64 S] 3 (0, 0))) := Lib.hid (by
    rw [hw6]
    have h1 := heap_alloc_new (w.alloc (.cells #[.int .i64 (a : Int), .int .i64 (hh : Int)] 63)) (.cells #[.int .i64 S] 3)
    rw [World.size_alloc] at h1
    exact (row_stays (row_stays (row_stays (row_stays h1 (alloc_bel rfl)) (alloc_bel rfl)) (alloc_bel rfl)) (alloc_bel rfl)))
  have G2 : Hid (w6.heap[w.heap.size + 1 + 1]? = some (.cells #[.int .i64 f] 2 (0, 0))) := Lib.hid (by
    rw [hw6]
    have h1 := heap_alloc_new ((w.alloc (.cells #[.int .i64 (a : Int), .int .i64 (hh : Int)] 63)).alloc (.cells #[.int .i64 S] 3)) (.cells #[.int .i64 f] 2)
    rw [World.size_alloc, World.size_alloc] at h1
    exact (row_stays (row_stays (row_stays h1 (alloc_bel rfl)) (alloc_bel rfl)) (alloc_bel rfl)))
  have G3 : Hid (w6.heap[w.heap.size + 1 + 1 + 1]? = some (.cells #[.int .i64 t] 2 (0, 0))) := Lib.hid (by
    rw [hw6]
    have h1 := heap_alloc_new (((w.alloc (.cells #[.int .i64 (a : Int), .int .i64 (hh : Int)] 63)).alloc (.cells #[.int .i64 S] 3)).alloc (.cells #[.int .i64 f] 2)) (.cells #[.int .i64 t] 2)
    rw [World.size_alloc, World.size_alloc, World.size_alloc] at h1
    exact (row_stays (row_stays h1 (alloc_bel rfl)) (alloc_bel rfl)))
  have G4 : Hid (w6.heap[w.heap.size + 1 + 1 + 1 + 1]? = some (.cells #[.slice none 0 0] 31 (0, 0))) := Lib.hid (by
    rw [hw6]
    have h1 := heap_alloc_new ((((w.alloc (.cells #[.int .i64 (a : Int), .int .i64 (hh : Int)] 63)).alloc (.cells #[.int .i64 S] 3)).alloc (.cells #[.int .i64 f] 2)).alloc (.cells #[.int .i64 t] 2)) (.cells #[.slice none 0 0] 31)
    rw [World.size_alloc, World.size_alloc, World.size_alloc, World.size_alloc] at h1
    exact (row_stays h1 (alloc_bel rfl)))
  have G5 : Hid (w6.heap[w.heap.size + 1 + 1 + 1 + 1 + 1]? = some (.cells #[.int .i64 0] 28 (0, 0))) := Lib.hid (by
    rw [hw6]
    have h1 := heap_alloc_new (((((w.alloc (.cells #[.int .i64 (a : Int), .int .i64 (hh : Int)] 63)).alloc (.cells #[.int .i64 S] 3)).alloc (.cells #[.int .i64 f] 2)).alloc (.cells #[.int .i64 t] 2)).alloc (.cells #[.slice none 0 0] 31)) (.cells #[.int .i64 0] 28)
    rw [World.size_alloc, World.size_alloc, World.size_alloc, World.size_alloc, World.size_alloc] at h1
    exact h1)
  have HW6 := Lib.hid hw6
  clear hw6
  rw [← HW6.out]
  refine ⟨trivial, (callsIn_wide.2 (refused_ok gv (a : Int) (hh : Int) (by omega) (by omega) w6)).mono ?_⟩
  rintro e w7 ⟨rfl, hb7⟩
  have E0 := Lib.hid (row_stays G0.out hb7)
  have E1 := Lib.hid (row_stays G1.out hb7)
  have E2 := Lib.hid (row_stays G2.out hb7)
  have E3 := Lib.hid (row_stays G3.out hb7)
  have E4 := Lib.hid (row_stays G4.out hb7)
  have E5 := Lib.hid (row_stays G5.out hb7)
  have B7 := Lib.hid (B6.out.trans (hb7.mono B6.out.size))
  have Z7 : Hid (w.heap.size + 6 ≤ w7.heap.size) := Lib.hid (by rw [← Z6.out]; exact hb7.size)
  have k2 : w7.cell? ⟨w.heap.size + 1 + 1, 0, none⟩ = some (.int .i64 f) := nd_cell E2.out 0 _ rfl
  have k3 : w7.cell? ⟨w.heap.size + 1 + 1 + 1, 0, none⟩ = some (.int .i64 t) := nd_cell E3.out 0 _ rfl
  clear hb7 G0 G1 G2 G3 G4 G5 HW6
  obtain ⟨Bl, hBl⟩ : ∃ Bl, Bl = w7.heap.size := ⟨_, rfl⟩
  obtain ⟨w8, hw8⟩ : ∃ w8, w8 = w7.alloc (.cells #[.slice none 0 0] 31) := ⟨_, rfl⟩
  have L8 : Hid (Boxed w8 Bl 31 (.slice none 0 0)) := Lib.hid (by rw [hw8, hBl]; exact heap_alloc_new _ _)
  have B78 := Lib.hid (alloc_bel hw8)
  have R8 := Lib.hid (row_stays E0.out B78.out)
  have HBL := Lib.hid hBl
  have HW8 := Lib.hid hw8
  clear hBl hw8
  gi_wp2_with (rw [← HW8.out, ← HBL.out]; refine wideIn_load_row rfl 63 (.tmp 6) rfl w.heap.size rfl 63 _ (0, 0) _ R8.out Try.underlying63 rfl (by kernel_rfl) ?_)
  refine ⟨trivial, (entriesF_mk _ gv (a : Int) (hh : Int) w8).mono ?_⟩
  rintro e w9 ⟨rfl, hw9⟩
  have B89 : Hid (Below w8.heap.size w8 w9) := Lib.hid (by rw [hw9]; exact ((Below.refl _ _).alloc (Nat.le_refl _) _).alloc (by simp) _)
  have X1 : Hid (w9.heap[w8.heap.size]? = some (.cells #[.pointer (some ⟨gv, 0, none⟩)] 61 (0, 0))) := Lib.hid (by rw [hw9]; exact row_stays (heap_alloc_new _ _) (alloc_bel rfl))
  have X2 : Hid (w9.heap[w8.heap.size + 1]? = some (.cells #[.int .i64 (a : Int), .int .i64 (hh : Int)] 63 (0, 0))) := Lib.hid (by
    rw [hw9]
    have h1 := heap_alloc_new (w8.alloc (.cells #[.pointer (some ⟨gv, 0, none⟩)] 61)) (.cells #[.int .i64 (a : Int), .int .i64 (hh : Int)] 63)
    rw [World.size_alloc] at h1
    exact h1)
  clear hw9 k2 k3
  have B79 : Hid (Below w7.heap.size w7 w9) := Lib.hid (B78.out.trans (B89.out.mono B78.out.size))
  have B9 : Hid (Below w.heap.size w w9) := Lib.hid (B7.out.trans (B79.out.mono B7.out.size))
  have I9 : Hid (SpI Bl w S f t [] w9) := Lib.hid ⟨B9.out, ⟨.slice none 0 0, row_stays L8.out B89.out, World.ownsRow_nil _ _ _ _⟩, row_stays E1.out B79.out, row_stays E2.out B79.out, row_stays E3.out B79.out, row_stays E4.out B79.out, row_stays E5.out B79.out⟩
  have hN9 : w.heap.size ≤ w9.heap.size := B9.out.size
  have hBl9 : Bl < w9.heap.size := (show Boxed w9 Bl _ _ from row_stays L8.out B89.out).lt
  have hB6 : w.heap.size + 6 ≤ Bl := by have := HBL.out; have := Z7.out; omega
  have hBlw : w.heap.size ≤ Bl := by omega
  gi_wp2
  refine wpIn_rangeFunc_T rfl (by decide) (gf := 59) (lb := #[.pointer (some ⟨w8.heap.size, 0, none⟩), .pointer (some ⟨w8.heap.size + 1, 0, none⟩)]) rfl trivial (enters_of Try.func59 (by kernel_rfl) rfl)
    (entriesF_seq 2 gv w.heap.size g gen p a hh w8.heap.size (w8.heap.size + 1) U V (ownTk Bl) w rfl HV.out HD.out es HT.out (by omega))
    (fun A B l o hl ho hc h => h.keep l o ho (fun cs fr e => by subst e; cases hc)) KpC.trans (fun W l o o' hl ho hc => kpTk_put hBl9 hN9 W l o o' hl ho hc) (fun _ => rfl)
    (fun W1 hb hz => ⟨B9.out.trans (hb.mono hN9), row_stays X1.out hb, row_stays X2.out hb⟩)
    (fun xs s A B row hs hg hr => hs) (fun xs s A B row hs hg hr => hs)
    (fun pre W => SpI Bl w S f t pre W) (fun cd pre W => cd = .exit 0 ∧ SpI Bl w S f t pre W ∧ ∃ q x, pre = q ++ [x] ∧ brkP S t x)
    (ownFrom_ck hN9 (fun s A h => h.bel.size) (fun s A B h k => h.ck k))
    (fun c => ownFrom_ck hN9 (fun s A h => h.2.1.bel.size) (fun s A B h k => ⟨h.1, h.2.1.ck k, h.2.2⟩))
    (fun s A B h k => h.ck k.ck) (fun s A h => h.ok) (fun s A B h k => h.cc k) I9.out
    (fun x a' W => ∃ Bx u, W.heap[Bx]? = some (.cells #[.int .i64 x.se, .int .i64 x.st, .int .i64 x.en, .int .i64 x.ad, .int .i64 x.le, .int .i64 x.cn, .int .i64 x.co, .int .u32 x.cr] 77 (0, 0)) ∧ Boxed W Bl 31 u ∧ u.ownBlock ≠ some Bx ∧ Bx ≠ Bl ∧ a' = { tmps := #[.pointer (some ⟨gv, 0, none⟩), .agg #[.int .i64 (a : Int), .int .i64 (hh : Int)], .int .i64 S, .int .i64 f, .int .i64 t, undef, .pointer (some ⟨w.heap.size, 0, none⟩), .pointer (some ⟨w.heap.size + 1, 0, none⟩), .pointer (some ⟨w.heap.size + 1 + 1, 0, none⟩), .pointer (some ⟨w.heap.size + 1 + 1 + 1, 0, none⟩), .pointer (some ⟨w.heap.size + 1 + 1 + 1 + 1, 0, none⟩), .pointer (some ⟨w.heap.size + 1 + 1 + 1 + 1 + 1, 0, none⟩), .int .i64 0, .pointer (some ⟨Bl, 0, none⟩), .pointer (some ⟨Bx, 0, none⟩), .int .i64 0, .pointer (some ⟨gv, 0, none⟩), .agg #[.int .i64 (a : Int), .int .i64 (hh : Int)], .int .i64 0, .int .i64 0, .bool false, .bool false, .int .i64 f, .int .i64 t, .bool false, .bool false, undef, .pointer (some ⟨gv, 0, none⟩), .agg #[.int .i64 (a : Int), .int .i64 (hh : Int)], .func (.func 59) #[] #[.pointer (some ⟨w8.heap.size, 0, none⟩), .pointer (some ⟨w8.heap.size + 1, 0, none⟩)], .agg #[.int .i64 x.se, .int .i64 x.st, .int .i64 x.en, .int .i64 x.ad, .int .i64 x.le, .int .i64 x.cn, .int .i64 x.co, .int .u32 x.cr], .int .i64 0, undef, undef, undef, undef, undef, undef, undef, undef, undef, undef, undef, undef, undef, undef, undef, undef, undef, undef, undef, undef, undef, undef, undef, undef, undef, undef, undef, undef, undef, undef, undef, undef, undef, undef, undef, undef, undef, undef, undef, undef, undef, undef, undef, undef], defers := [] })
    (fun x a' s A B row hs hg hr => by
      obtain ⟨Bx, u, h1, h3, h2⟩ := hs
      have hkeep : ∀ k cs T, A.heap[k]? = some (Obj.cells cs T (0, 0)) → B.heap[k]? = A.heap[k]? := fun k cs T hk => hg.block k (Array.getElem?_eq_some_iff.1 hk).1 (fun e => by
        obtain ⟨_, o, ho, hc⟩ := hr k e.symm
        rw [hk] at ho
        cases ho
        cases hc)
      exact ⟨Bx, u, (hkeep _ _ _ h1).trans h1, (hkeep _ _ _ h3).trans h3, h2⟩) ?assign ?body ?done ?stop
  case assign =>
    rintro l pre x W K hi hK
    have HK := Lib.hid hK
    clear hK
    dsimp only [enV]
    gi_wp2_with (refine inF_store_row rfl 77 (.tmp 14) (.tmp 30) rfl W.heap.size #[.int .i64 x.se, .int .i64 x.st, .int .i64 x.en, .int .i64 x.ad, .int .i64 x.le, .int .i64 x.cn, .int .i64 x.co, .int .u32 x.cr] rfl rfl 77 _ (heap_alloc_new _ _) (by kernel_rfl) rfl (by simp [Value.oneCell']) ?_; rw [World.setRow_alloc_new])
    refine HK.out _ _ ((KeepsOthers.alloc _ _).from _) (kpTk_below (alloc_bel rfl) hi.bel.size (by obtain ⟨v, h1, _⟩ := hi.lst; exact h1.lt)) (hi.ck (ck_below (alloc_bel rfl) hi.bel.size)) (by
      obtain ⟨v, h1, h2⟩ := hi.lst
      exact ⟨W.heap.size, v, heap_alloc_new _ _, row_stays h1 (alloc_bel rfl), fun e => Nat.lt_irrefl _ (World.ownsRow.lt h2 _ e).2, fun e => Nat.lt_irrefl _ (show W.heap.size < W.heap.size by have := h1.lt; omega), rfl⟩)
  case body =>
    rintro l pre x a' W hl ⟨r, hr⟩ hi ⟨Bx, u0, hBx, hu0, hnO, hneB, rfl⟩ hNlt
    have NOX : Hid (¬ ownTk Bl W Bx) := Lib.hid (fun ho => by
      rcases ho with e | ⟨u', hu, ho⟩
      · exact hneB e
      · rw [hu0.cell] at hu
        cases hu
        exact hnO ho)
    clear hu0 hnO hneB
    obtain ⟨v, hv, hrow⟩ := hi.lst
    obtain ⟨Av, cv, rfl⟩ := row_form hrow
    obtain ⟨m, hm⟩ : ∃ m, m = (pre.filter (selB S f t)).length := ⟨_, rfl⟩
    obtain ⟨us, hus⟩ : ∃ us, us = (pre.filter (selB S f t)).flatMap enC := ⟨_, rfl⟩
    rw [← hm, ← hus] at hrow
    rw [← hm] at hv
    have hmle : m ≤ 1000 := by rw [hm]; exact Nat.le_trans (List.length_filter_le _ _) (by omega)
    have hc := hv.cell
    have hf := hv.frozen
    have k1 : W.cell? ⟨w.heap.size + 1, 0, none⟩ = some (.int .i64 S) := nd_cell hi.c1 0 _ rfl
    have k2 : W.cell? ⟨w.heap.size + 1 + 1, 0, none⟩ = some (.int .i64 f) := nd_cell hi.c2 0 _ rfl
    have k3 : W.cell? ⟨w.heap.size + 1 + 1 + 1, 0, none⟩ = some (.int .i64 t) := nd_cell hi.c3 0 _ rfl
    have x0 : W.cell? ⟨Bx, 0, none⟩ = some (.int .i64 x.se) := nd_cell hBx 0 _ rfl
    have x1 : W.cell? ⟨Bx, 1, none⟩ = some (.int .i64 x.st) := nd_cell hBx 1 _ rfl
    have x2 : W.cell? ⟨Bx, 2, none⟩ = some (.int .i64 x.en) := nd_cell hBx 2 _ rfl
    obtain ⟨i0, hi0, hz0, hz1, hz2⟩ := info_parts infoEnt
    have HIT := Lib.hid hi
    have HV2 := Lib.hid hv
    have HROW := Lib.hid hrow
    have HBX := Lib.hid hBx
    have HM := Lib.hid hm
    have HUS := Lib.hid hus
    clear hi hv hrow hBx hNlt hr hm hus
    by_cases h1 : x.se = S
    · have q1 : (x.se == S) = true := by rw [h1]; exact beq_self_eq_true _
      have q2 : decide (x.se > S) = false := by simp; omega
      have H1 := Lib.hid h1
      by_cases h4 : t ≤ x.en
      · have q4 : decide (x.en ≥ t) = true := by simpa using h4
        have HBP : Hid (brkP S t x) := Lib.hid (.inr ⟨h1, h4⟩)
        clear h1 h4
        by_cases h2 : x.st ≤ t
        · have q5 : decide (x.st ≤ t) = true := by simpa using h2
          by_cases h3 : f ≤ x.en
          · have q6 : decide (x.en ≥ f) = true := by simpa using h3
            have HSE : Hid (selB S f t x = true) := Lib.hid (by unfold selB; rw [q1, q5, decide_eq_true h3]; rfl)
            clear h2 h3
            gi_wp2_with (first
              | (refine inF_load_row rfl 77 (.tmp 14) rfl Bx rfl 77 #[.int .i64 x.se, .int .i64 x.st, .int .i64 x.en, .int .i64 x.ad, .int .i64 x.le, .int .i64 x.cn, .int .i64 x.co, .int .u32 x.cr] (0, 0) _ HBX.out Try.underlying77 rfl (by kernel_rfl) ?_)
              | (gi_at_builtin; refine wpListIn_append_own_at _ rfl _ _ 31 rfl w.heap.size 77 i0 (.agg #[.int .i64 0, .int .i64 0, .int .i64 0, .int .i64 0, .int .i64 0, .int .i64 0, .int .i64 0, .int .u32 0]) 8 64 Try.underlying31 hi0 hz0 hz1 hz2 (by rfl) (by decide) _ _ _ rfl (HROW.out.alloc _) ⟨W.heap.size, 0, none⟩ 1 1 (enC x) rfl (by rfl) (cells_new W (enC x) _) (enC_oneT x) (by unfold maxLen; omega) (by omega) (by have := HIT.out.bel.size; rw [World.size_alloc]; omega) ?_; intro v' w1 hown' hgrow _ hblk; obtain ⟨g', cap', rfl⟩ := ownsRow_succ hown'; have HTK := Lib.hid (HIT.out.app hB6 HV2.out HM.out HUS.out HROW.out HSE.out hown' hgrow hblk); have HKP := Lib.hid (kpTk_app HV2.out (by decide) HROW.out HIT.out.bel.size hBlw hown' hgrow hblk); have happ := HV2.out.appended (by decide) HROW.out HIT.out.bel.size hBlw hown' hgrow; have HKO := Lib.hid happ.2.2.2.1; have hc1 := happ.1.cell; have hf1 := happ.1.frozen; have y0 := nd_cell (HTK.out.c1) 0 (.int .i64 S) rfl; have y2 := nd_cell (HTK.out.c2) 0 (.int .i64 f) rfl; have y3 := nd_cell (HTK.out.c3) 0 (.int .i64 t) rfl; have HBX2 := Lib.hid ((HKP.out.keep _ _ _ _ HBX.out (fun ho => NOX.out ho)).trans HBX.out); have z0 := nd_cell HBX2.out 0 (.int .i64 x.se) rfl; have z1 := nd_cell HBX2.out 1 (.int .i64 x.st) rfl; have z2 := nd_cell HBX2.out 2 (.int .i64 x.en) rfl; clear happ hown' hgrow hblk))
            exact ⟨HKO.out.from _, HKP.out, rfl, HTK.out, ⟨_, _, rfl, HBP.out⟩⟩
          · have q6 : decide (x.en ≥ f) = false := by simpa using h3
            have HSE : Hid (selB S f t x = false) := Lib.hid (by unfold selB; rw [q1, q5, decide_eq_false h3]; rfl)
            clear h2 h3
            gi_wp2
            exact ⟨KeepsFrom.refl _ _, kpTk_below (Below.refl _ _) HIT.out.bel.size HV2.out.lt, rfl, HIT.out.same HSE.out, ⟨_, _, rfl, HBP.out⟩⟩
        · have q5 : decide (x.st ≤ t) = false := by simpa using h2
          have HSE : Hid (selB S f t x = false) := Lib.hid (by unfold selB; rw [q1, q5]; rfl)
          clear h2
          gi_wp2
          exact ⟨KeepsFrom.refl _ _, kpTk_below (Below.refl _ _) HIT.out.bel.size HV2.out.lt, rfl, HIT.out.same HSE.out, ⟨_, _, rfl, HBP.out⟩⟩
      · have q4 : decide (x.en ≥ t) = false := by simpa using h4
        clear h1 h4
        by_cases h2 : x.st ≤ t
        · have q5 : decide (x.st ≤ t) = true := by simpa using h2
          by_cases h3 : f ≤ x.en
          · have q6 : decide (x.en ≥ f) = true := by simpa using h3
            have HSE : Hid (selB S f t x = true) := Lib.hid (by unfold selB; rw [q1, q5, decide_eq_true h3]; rfl)
            clear h2 h3
            gi_wp2_with (first
              | (refine inF_load_row rfl 77 (.tmp 14) rfl Bx rfl 77 #[.int .i64 x.se, .int .i64 x.st, .int .i64 x.en, .int .i64 x.ad, .int .i64 x.le, .int .i64 x.cn, .int .i64 x.co, .int .u32 x.cr] (0, 0) _ HBX.out Try.underlying77 rfl (by kernel_rfl) ?_)
              | (gi_at_builtin; refine wpListIn_append_own_at _ rfl _ _ 31 rfl w.heap.size 77 i0 (.agg #[.int .i64 0, .int .i64 0, .int .i64 0, .int .i64 0, .int .i64 0, .int .i64 0, .int .i64 0, .int .u32 0]) 8 64 Try.underlying31 hi0 hz0 hz1 hz2 (by rfl) (by decide) _ _ _ rfl (HROW.out.alloc _) ⟨W.heap.size, 0, none⟩ 1 1 (enC x) rfl (by rfl) (cells_new W (enC x) _) (enC_oneT x) (by unfold maxLen; omega) (by omega) (by have := HIT.out.bel.size; rw [World.size_alloc]; omega) ?_; intro v' w1 hown' hgrow _ hblk; obtain ⟨g', cap', rfl⟩ := ownsRow_succ hown'; have HTK := Lib.hid (HIT.out.app hB6 HV2.out HM.out HUS.out HROW.out HSE.out hown' hgrow hblk); have HKP := Lib.hid (kpTk_app HV2.out (by decide) HROW.out HIT.out.bel.size hBlw hown' hgrow hblk); have happ := HV2.out.appended (by decide) HROW.out HIT.out.bel.size hBlw hown' hgrow; have HKO := Lib.hid happ.2.2.2.1; have hc1 := happ.1.cell; have hf1 := happ.1.frozen; have y0 := nd_cell (HTK.out.c1) 0 (.int .i64 S) rfl; have y2 := nd_cell (HTK.out.c2) 0 (.int .i64 f) rfl; have y3 := nd_cell (HTK.out.c3) 0 (.int .i64 t) rfl; have HBX2 := Lib.hid ((HKP.out.keep _ _ _ _ HBX.out (fun ho => NOX.out ho)).trans HBX.out); have z0 := nd_cell HBX2.out 0 (.int .i64 x.se) rfl; have z1 := nd_cell HBX2.out 1 (.int .i64 x.st) rfl; have z2 := nd_cell HBX2.out 2 (.int .i64 x.en) rfl; clear happ hown' hgrow hblk))
            exact ⟨HKO.out.from _, HKP.out, HTK.out⟩
          · have q6 : decide (x.en ≥ f) = false := by simpa using h3
            have HSE : Hid (selB S f t x = false) := Lib.hid (by unfold selB; rw [q1, q5, decide_eq_false h3]; rfl)
            clear h2 h3
            gi_wp2
            exact ⟨KeepsFrom.refl _ _, kpTk_below (Below.refl _ _) HIT.out.bel.size HV2.out.lt, HIT.out.same HSE.out⟩
        · have q5 : decide (x.st ≤ t) = false := by simpa using h2
          have HSE : Hid (selB S f t x = false) := Lib.hid (by unfold selB; rw [q1, q5]; rfl)
          clear h2
          gi_wp2
          exact ⟨KeepsFrom.refl _ _, kpTk_below (Below.refl _ _) HIT.out.bel.size HV2.out.lt, HIT.out.same HSE.out⟩
    · have q1 : (x.se == S) = false := beq_eq_false_iff_ne.2 h1
      have HSE : Hid (selB S f t x = false) := Lib.hid (by unfold selB; rw [q1]; rfl)
      by_cases h5 : S < x.se
      · have q2 : decide (x.se > S) = true := by simpa using h5
        have HBP : Hid (brkP S t x) := Lib.hid (.inl h5)
        clear h1 h5
        gi_wp2
        exact ⟨KeepsFrom.refl _ _, kpTk_below (Below.refl _ _) HIT.out.bel.size HV2.out.lt, rfl, HIT.out.same HSE.out, _, _, rfl, HBP.out⟩
      · have q2 : decide (x.se > S) = false := by simpa using h5
        clear h1 h5
        gi_wp2
        exact ⟨KeepsFrom.refl _ _, kpTk_below (Below.refl _ _) HIT.out.bel.size HV2.out.lt, HIT.out.same HSE.out⟩
  case done =>
    rintro D ys W hD rfl hi hK
    have hfl : ys.filter (selB S f t) = ys.filter (selB S f t) := rfl
    obtain ⟨v, hv, hrow⟩ := hi.lst
    obtain ⟨Av, cv, rfl⟩ := row_form hrow
    rw [hfl] at hv hrow
    obtain ⟨ln, hln⟩ : ∃ ln, ln = ((ys).filter (selB S f t)).length := ⟨_, rfl⟩
    rw [← hln] at hv hrow
    have HLN := Lib.hid hln
    have hc := hv.cell
    have h4 : Boxed W (w.heap.size + 1 + 1 + 1 + 1) 31 (.slice none 0 0) := hi.c4
    have h5 : Boxed W (w.heap.size + 1 + 1 + 1 + 1 + 1) 28 (.int .i64 0) := hi.c5
    have c4 := h4.cell
    have f4 := h4.frozen
    have c5 := h5.cell
    have f5 := h5.frozen
    have HI := Lib.hid hi
    have HROW := Lib.hid hrow
    have HK := Lib.hid hK
    have H4 := Lib.hid h4
    have H5 := Lib.hid h5
    have HDD := Lib.hid hD
    clear hi hv hrow hK h4 h5 hD hfl hln
    gi_wp2
    rw [← HLN.out]
    obtain ⟨u1, hu1⟩ : ∃ u1, u1 = W.setCell ⟨w.heap.size + 1 + 1 + 1 + 1, 0, none⟩ (.slice Av ln cv) := ⟨_, rfl⟩
    obtain ⟨u2, hu2⟩ : ∃ u2, u2 = u1.setCell ⟨w.heap.size + 1 + 1 + 1 + 1 + 1, 0, none⟩ (.int .i64 0) := ⟨_, rfl⟩
    have O1 : OuterX (fun k => k = w.heap.size + 1 + 1 + 1 + 1 ∨ k = w.heap.size + 1 + 1 + 1 + 1 + 1) W u1 := by rw [hu1]; exact (OuterX.refl _ W).grown (grownBy_setCell' _ _ _) (fun k hk => .inl (by cases hk; exact .inl rfl))
    have O2 : OuterX (fun k => k = w.heap.size + 1 + 1 + 1 + 1 ∨ k = w.heap.size + 1 + 1 + 1 + 1 + 1) W u2 := by rw [hu2]; exact O1.grown (grownBy_setCell' _ _ _) (fun k hk => .inl (by cases hk; exact .inr rfl))
    have p4 : Boxed u2 (w.heap.size + 1 + 1 + 1 + 1) 31 (.slice Av ln cv) := by rw [hu2, hu1]; exact Boxed.other (H4.out.set _) (by omega) _
    have p5 : Boxed u2 (w.heap.size + 1 + 1 + 1 + 1 + 1) 28 (.int .i64 0) := by
      have q5 : Boxed u1 (w.heap.size + 1 + 1 + 1 + 1 + 1) 28 (.int .i64 0) := by rw [hu1]; exact Boxed.other H5.out (by omega) _
      rw [hu2]
      exact q5.set _
    have hkd : u2.heap[D]? = some (.deferred (some [])) := O2.heap HK.out (by have := HDD.out; omega)
    rw [← hu1, ← hu2]
    clear hu1 hu2 c4 f4 c5 f5 hc
    refine ⟨by simp, .inl ⟨_, _, rfl, run_takeDeferred hkd, ?_⟩⟩
    have hpg := grownBy_putObj' u2 D (.deferred none)
    have hnD : ∀ k t u, Boxed u2 k t u → some k ≠ some D := fun k t u hb e => by
      cases e
      rw [show u2.heap[D]? = _ from hb] at hkd
      cases hkd
    have r4 := p4.kept hpg (hnD _ _ _ p4)
    have r5 := p5.kept hpg (hnD _ _ _ p5)
    refine ⟨.tuple #[.slice Av ln cv, .int .i64 0], results_cellsA2 (p := 10) (q := 11) rfl _ _ ⟨w.heap.size + 1 + 1 + 1 + 1, 0, none⟩ ⟨w.heap.size + 1 + 1 + 1 + 1 + 1, 0, none⟩ _ _ rfl rfl (run_loadVar_one _ _ _ _ _ Try.underlying31 rfl r4.cell) (run_loadVar_one _ _ _ _ _ Try.underlying28 rfl r5.cell), ⟨Av, cv, rfl, ?_⟩, ?_⟩
    · refine row_keep HROW.out (fun k cur hb hc => ?_)
      have hkX : ¬ (k = w.heap.size + 1 + 1 + 1 + 1 ∨ k = w.heap.size + 1 + 1 + 1 + 1 + 1) := by
        rintro (e | e)
        · rw [e, HI.out.c4] at hc; cases hc
        · rw [e, HI.out.c5] at hc; cases hc
      have h2 := O2.heap hc hkX
      exact ((hpg.block k (Array.getElem?_eq_some_iff.1 h2).1 (fun e => by cases e; rw [hkd] at h2; cases h2)).trans h2).trans hc.symm
    · refine ⟨O2.os.trans HI.out.bel.os, O2.tape.trans HI.out.bel.tape, O2.output.trans HI.out.bel.output, Nat.le_trans HI.out.bel.size (Nat.le_trans O2.size hpg.size), fun k hk => ?_⟩
      have h1 := HI.out.bel.block k hk
      have h2 := O2.block k (Nat.lt_of_lt_of_le hk HI.out.bel.size) (by omega)
      have h3 := hpg.block k (Nat.lt_of_lt_of_le (Nat.lt_of_lt_of_le hk HI.out.bel.size) O2.size) (fun e => by cases e; have := HDD.out; omega)
      exact h3.trans (h2.trans h1)
  case stop =>
    rintro D cd pre W hD ⟨r, he, hne⟩ ⟨rfl, hi, q, x, hq, hb⟩ hK
    have hfl : pre.filter (selB S f t) = es.filter (selB S f t) := by
      rw [he, List.filter_append]
      have h1 : r.filter (selB S f t) = [] := List.filter_eq_nil_iff.2 (fun y hy => by
        have h2 := HBK.out q x r (by rw [he, hq]; simp) hb y hy
        rw [h2]
        decide)
      rw [h1, List.append_nil]
    clear hq hne
    obtain ⟨v, hv, hrow⟩ := hi.lst
    obtain ⟨Av, cv, rfl⟩ := row_form hrow
    rw [hfl] at hv hrow
    obtain ⟨ln, hln⟩ : ∃ ln, ln = ((es).filter (selB S f t)).length := ⟨_, rfl⟩
    rw [← hln] at hv hrow
    have HLN := Lib.hid hln
    have hc := hv.cell
    have h4 : Boxed W (w.heap.size + 1 + 1 + 1 + 1) 31 (.slice none 0 0) := hi.c4
    have h5 : Boxed W (w.heap.size + 1 + 1 + 1 + 1 + 1) 28 (.int .i64 0) := hi.c5
    have c4 := h4.cell
    have f4 := h4.frozen
    have c5 := h5.cell
    have f5 := h5.frozen
    have HI := Lib.hid hi
    have HROW := Lib.hid hrow
    have HK := Lib.hid hK
    have H4 := Lib.hid h4
    have H5 := Lib.hid h5
    have HDD := Lib.hid hD
    clear hi hv hrow hK h4 h5 hD hfl hln
    gi_wp2
    rw [← HLN.out]
    obtain ⟨u1, hu1⟩ : ∃ u1, u1 = W.setCell ⟨w.heap.size + 1 + 1 + 1 + 1, 0, none⟩ (.slice Av ln cv) := ⟨_, rfl⟩
    obtain ⟨u2, hu2⟩ : ∃ u2, u2 = u1.setCell ⟨w.heap.size + 1 + 1 + 1 + 1 + 1, 0, none⟩ (.int .i64 0) := ⟨_, rfl⟩
    have O1 : OuterX (fun k => k = w.heap.size + 1 + 1 + 1 + 1 ∨ k = w.heap.size + 1 + 1 + 1 + 1 + 1) W u1 := by rw [hu1]; exact (OuterX.refl _ W).grown (grownBy_setCell' _ _ _) (fun k hk => .inl (by cases hk; exact .inl rfl))
    have O2 : OuterX (fun k => k = w.heap.size + 1 + 1 + 1 + 1 ∨ k = w.heap.size + 1 + 1 + 1 + 1 + 1) W u2 := by rw [hu2]; exact O1.grown (grownBy_setCell' _ _ _) (fun k hk => .inl (by cases hk; exact .inr rfl))
    have p4 : Boxed u2 (w.heap.size + 1 + 1 + 1 + 1) 31 (.slice Av ln cv) := by rw [hu2, hu1]; exact Boxed.other (H4.out.set _) (by omega) _
    have p5 : Boxed u2 (w.heap.size + 1 + 1 + 1 + 1 + 1) 28 (.int .i64 0) := by
      have q5 : Boxed u1 (w.heap.size + 1 + 1 + 1 + 1 + 1) 28 (.int .i64 0) := by rw [hu1]; exact Boxed.other H5.out (by omega) _
      rw [hu2]
      exact q5.set _
    have hkd : u2.heap[D]? = some (.deferred (some [])) := O2.heap HK.out (by have := HDD.out; omega)
    rw [← hu1, ← hu2]
    clear hu1 hu2 c4 f4 c5 f5 hc
    refine ⟨by simp, .inl ⟨_, _, rfl, run_takeDeferred hkd, ?_⟩⟩
    have hpg := grownBy_putObj' u2 D (.deferred none)
    have hnD : ∀ k t u, Boxed u2 k t u → some k ≠ some D := fun k t u hb e => by
      cases e
      rw [show u2.heap[D]? = _ from hb] at hkd
      cases hkd
    have r4 := p4.kept hpg (hnD _ _ _ p4)
    have r5 := p5.kept hpg (hnD _ _ _ p5)
    refine ⟨.tuple #[.slice Av ln cv, .int .i64 0], results_cellsA2 (p := 10) (q := 11) rfl _ _ ⟨w.heap.size + 1 + 1 + 1 + 1, 0, none⟩ ⟨w.heap.size + 1 + 1 + 1 + 1 + 1, 0, none⟩ _ _ rfl rfl (run_loadVar_one _ _ _ _ _ Try.underlying31 rfl r4.cell) (run_loadVar_one _ _ _ _ _ Try.underlying28 rfl r5.cell), ⟨Av, cv, rfl, ?_⟩, ?_⟩
    · refine row_keep HROW.out (fun k cur hb hc => ?_)
      have hkX : ¬ (k = w.heap.size + 1 + 1 + 1 + 1 ∨ k = w.heap.size + 1 + 1 + 1 + 1 + 1) := by
        rintro (e | e)
        · rw [e, HI.out.c4] at hc; cases hc
        · rw [e, HI.out.c5] at hc; cases hc
      have h2 := O2.heap hc hkX
      exact ((hpg.block k (Array.getElem?_eq_some_iff.1 h2).1 (fun e => by cases e; rw [hkd] at h2; cases h2)).trans h2).trans hc.symm
    · refine ⟨O2.os.trans HI.out.bel.os, O2.tape.trans HI.out.bel.tape, O2.output.trans HI.out.bel.output, Nat.le_trans HI.out.bel.size (Nat.le_trans O2.size hpg.size), fun k hk => ?_⟩
      have h1 := HI.out.bel.block k hk
      have h2 := O2.block k (Nat.lt_of_lt_of_le hk HI.out.bel.size) (by omega)
      have h3 := hpg.block k (Nat.lt_of_lt_of_le (Nat.lt_of_lt_of_le hk HI.out.bel.size) O2.size) (fun e => by cases e; have := HDD.out; omega)
      exact h3.trans (h2.trans h1)
end Go.Proofs.Ytgkddhncfaeidaa
