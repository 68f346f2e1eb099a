/- Several texts in one: entries: a tree's entries, as an iterator. The laws' Back and Same, over rows of entries. -/
import Derived.Test.YtgkddhncfaeidaaTvBe
import Derived.Test.YtgkddhncfaeidaaPart10
import Derived.Test.YtgkddhncfaeidaaPart13
set_option linter.unusedSimpArgs false
set_option linter.unusedVariables false
namespace Go.Proofs.Ytgkddhncfaeidaa
open Go.RowKit Go.Shelf CrcM PageM
set_option linter.unusedVariables false
attribute [local go_sem] Oper.semAt_some

theorem beneath_in (l gl gv n₀ NN g gen p : Nat) (U V : List Bool) {B N gs gn Ls cs cn : Nat} {rw : Value} {st nw : List UInt8} {ws : List (Nat × List UInt8)} (C : World → Nat → Prop) (J Jx : List EntD → World → Prop) (w0 : World) (hn₀ : n₀ = w0.heap.size) (hgl : n₀ ≤ gl)
    (hv : ViewAt w0 gv g gen (p : Int) U V) (hd : Dk w0 B N g gs gn rw Ls cs cn st nw ws true (-1))
    (hJT : ∀ s A B, J s A → TL n₀ A B → J s B) (hJC : ∀ s A, J s A → n₀ ≤ A.heap.size ∧ ∀ k, C A k → k < A.heap.size) (hCT : ∀ s A B, J s A → TL n₀ A B → ∀ k, C B k → C A k)
    (hY : ∀ m pre x W, J pre W → pre.length < NN → YieldAt Fence.wide m Try.prog l #[enV x, .int .i64 0] W fun e W' => (e = .returned (.bool true) ∧ J (pre ++ [x]) W' ∧ KpC n₀ C W W') ∨ (e = .returned (.bool false) ∧ Jx (pre ++ [x]) W' ∧ KpC n₀ C W W')) :
    ∀ (h : Nat) (n : NodeD) (es : List EntD) (a : Nat), Sub (rdP nw Ls) h n es → rdP nw Ls a n → h ≤ 4 → 1 ≤ es.length → es.length ≤ capH h → BeC l gl gv n₀ NN C J Jx w0 h a es
  | 0, n, es, a, hs, hr, h4, h1, hc => by
    obtain ⟨s1, s2, s3⟩ := hs
    exact beneath_node l gl gv n₀ NN g gen p U V C J Jx w0 hn₀ hgl hv hd hJT hJC hCT hY 0 a n es h4 hr [] s3 (by rw [s1]; rfl) (by simp [s2]) h1 hc (fun _ => rfl) (fun h => absurd rfl h) (fun x hx => by cases hx)
  | h + 1, n, es, a, hs, hr, h4, h1, hc => by
    obtain ⟨s1, s2, parts, s3, s4, s5, s6, s7, s8⟩ := hs
    exact beneath_node l gl gv n₀ NN g gen p U V C J Jx w0 hn₀ hgl hv hd hJT hJC hCT hY (h + 1) a n es h4 hr parts s3 (by rw [s1]; simp) (by rw [s2, s5]; rfl) h1 hc (fun h0 => by omega) (fun _ => ⟨s2, s6, s7, s8⟩) (fun x hx => by
      have hb := s6.2 x.2.2.length (List.mem_map.2 ⟨x, hx, rfl⟩)
      exact beneath_in l gl gv n₀ NN g gen p U V C J Jx w0 hn₀ hgl hv hd hJT hJC hCT hY h x.2.1 x.2.2 x.1 (s4 x hx).2 (s4 x hx).1 (by omega) hb.1 hb.2)

set_option maxRecDepth 100000 in
theorem refused_ok (gv : Nat) (a h : Int) (h0 : 0 ≤ h) (h5 : h ≤ 5) (w : World) :
    Calls Try.prog 57 #[.pointer (some ⟨gv, 0, none⟩), .agg #[.int .i64 a, .int .i64 h]] w fun e w' => e = .returned (.int .i64 0) ∧ Below w.heap.size w w' := by
  have d1 : decide (h < 0) = false := by simp; omega
  have d2 : decide (h > 5) = false := by simp; omega
  go_enter Try.func57, Try.ntmps57
  go_wp2_with fail
  go_ret
  exact ⟨rfl, (Below.refl _ _).alloc (Nat.le_refl _) _⟩
theorem yieldAny {m m' : Nat} {P : Program} {l : Nat} {args : Array Value} {W : World} {R : Ending → World → Prop} (h : YieldAt Fence.wide m P l args W R) : YieldAt Fence.wide m' P l args W R := by
  obtain ⟨fn, tmps, assign, body, hy, hR⟩ := h
  exact ⟨fn, tmps, assign, body, hy, ⟨hR.1, fun c cs _ => hR.2 c cs (room_wide _)⟩⟩
/-- A tree, its root's page and height. -/
def TreeR (nw : List UInt8) (Ls a hh : Nat) (es : List EntD) : Prop :=
  (es = [] ∧ hh = 0) ∨ ∃ h n, hh = h + 1 ∧ h ≤ 4 ∧ Sub (rdP nw Ls) h n es ∧ rdP nw Ls a n ∧ 1 ≤ es.length ∧ es.length ≤ capH h ∧ ∀ j, j < h → capH j < es.length
/-- How many nodes are read for k entries. -/
def cntR (hh k : Nat) : Nat := if k = 0 then 0 else ND (hh - 1) k
def OkC (n₀ : Nat) (C : World → Nat → Prop) (A : World) : Prop := n₀ ≤ A.heap.size ∧ ∀ k, C A k → k < A.heap.size
def CcC (C : World → Nat → Prop) (A B : World) : Prop := ∀ k, C B k → C A k

set_option maxRecDepth 100000 in
set_option maxHeartbeats 4000000 in
theorem entries1_seq (m gl gv n₀ g gen p a hh c B1 B2 : Nat) (U V : List Bool) {B N gs gn Ls cs cn : Nat} {rw : Value} {st nw : List UInt8} {ws : List (Nat × List UInt8)} (C : World → Nat → Prop) (w0 : World) (hn₀ : n₀ = w0.heap.size) (hgl : n₀ ≤ gl)
    (hv : ViewAt w0 gv g gen (p : Int) U V) (hd : Dk w0 B N g gs gn rw Ls cs cn st nw ws true (-1)) (es : List EntD) (ht : TreeR nw Ls a hh es) (hc : c + cntR hh es.length ≤ 1000000) :
    SeqT Fence.wide m Try.prog 82 #[.pointer (some ⟨B1, 0, none⟩), .pointer (some ⟨B2, 0, none⟩)] (fun x => #[enV x, .int .i64 0]) (TL n₀) (KpC n₀ C) (OkC n₀ C) (CcC C)
      (fun W => Below w0.heap.size w0 W ∧ Lk W gl gv c ∧ ¬ C W gl ∧ W.heap[B1]? = some (.cells #[.pointer (some ⟨gl, 0, none⟩)] 152 (0, 0)) ∧ W.heap[B2]? = some (.cells #[.int .i64 (a : Int), .int .i64 (hh : Int)] 63 (0, 0)))
      (fun xs W => xs = es ∧ Lk W gl gv (c + cntR hh es.length)) (fun q W => ∃ r, es = q ++ r ∧ q ≠ [] ∧ Lk W gl gv (c + cntR hh q.length)) es.length := by
  rintro l J Jx W ⟨hb, hlk, hng, hb1, hb2⟩ hJT hOk hCc hY h0
  have hh5 : hh ≤ 5 := by
    rcases ht with ⟨_, h⟩ | ⟨h, n, e1, e2, _⟩ <;> omega
  have hCX : ∀ X, Below W.heap.size W X → TL n₀ W X := fun X hX => (TG.of_below hX (hOk _ _ h0).1).tl hlk
  have HW := Lib.hid h0
  have HB := Lib.hid hb
  have HLK := Lib.hid hlk
  have HB1 := Lib.hid hb1
  have HB2 := Lib.hid hb2
  have HBE : Hid (∀ X, Below W.heap.size W X → hh ≠ 0 → CallsIn Fence.wide (m - 1) Try.prog 83 #[.pointer (some ⟨gl, 0, none⟩), .agg #[.int .i64 (a : Int), .int .i64 (hh : Int)], .func (.yield l) #[] #[]] X fun e W' => (e = .returned (.bool true) ∧ J es W' ∧ Lk W' gl gv (c + cntR hh es.length)) ∨ (e = .returned (.bool false) ∧ ∃ q r, es = q ++ r ∧ q ≠ [] ∧ Jx q W' ∧ Lk W' gl gv (c + cntR hh q.length))) := Lib.hid (fun X hX hh0 => by
    rcases ht with ⟨_, h⟩ | ⟨h, n, e1, e2, e3, e4, e5, e6, _⟩
    · exact absurd h hh0
    · have hm : hh - 1 = h := by omega
      have hce : ∀ k, 1 ≤ k → cntR hh k = ND h k := fun k hk => by rw [cntR, if_neg (by omega), hm]
      rw [hce _ e5] at hc ⊢
      have h1 := beneath_in l gl gv n₀ es.length g gen p U V C J Jx w0 hn₀ hgl hv hd hJT hOk hCc (fun m pre x W hj hl => yieldAny (hY pre x W hj hl)) h n es a e3 e4 e2 e5 e6 (m - 1) [] X c (hJT _ _ _ h0 (hCX X hX)) (hb.trans (hX.mono hb.size)) (row_stays hlk hX) (fun hx => hng (hCc _ _ _ h0 (hCX X hX) _ hx)) (by simp) hc
      rw [← e1] at h1
      refine h1.mono ?_
      rintro e W' (⟨r1, r2, r3, r4⟩ | ⟨r1, q, r, r2, r3, r4, r5, r6⟩)
      · exact .inl ⟨r1, r2, r4⟩
      · have hq : 1 ≤ q.length := by
          cases q with
          | nil => exact absurd rfl r3
          | cons y q => simp
        exact .inr ⟨r1, q, r, r2, r3, r4, by rw [hce _ hq]; exact r6⟩)
  have HJX : Hid (∀ X, Below W.heap.size W X → J [] X) := Lib.hid (fun X hX => hJT _ _ _ h0 (hCX X hX))
  have HT := Lib.hid ht
  have HH5 := Lib.hid hh5
  clear hb hlk hng hb1 hb2 hJT hOk hCc hY h0 hCX hv hd ht hc hh5
  refine callsIn_of_wp Try.func82 rfl trivial ?_ rfl
  simp only [Try.ntmps82, List.size_toArray, List.length_cons, List.length_nil, Nat.reduceAdd, Nat.reduceSub, Array.replicate_succ, Array.replicate_zero, List.push_toArray, List.append_toArray, List.nil_append, List.cons_append]
  gi_wp2
  refine wpIn_wide.2 ?_
  have g1 : ∀ y : SubW W.heap.size W, y.at_.cell? ⟨B1, 0, none⟩ = some (.pointer (some ⟨gl, 0, none⟩)) := fun y => nd_cell (row_stays HB1.out y.ok_) 0 _ rfl
  have g2 : ∀ y : SubW W.heap.size W, y.at_.cell? ⟨gl, 0, none⟩ = some (.pointer (some ⟨gv, 0, none⟩)) := fun y => nd_cell (row_stays HLK.out y.ok_) 0 _ rfl
  have g3 : ∀ y : SubW W.heap.size W, y.at_.heap[B2]? = some (.cells #[.int .i64 (a : Int), .int .i64 (hh : Int)] 63 (0, 0)) := fun y => row_stays HB2.out y.ok_
  refine region_below W.heap.size W (Below.refl _ _) (by kernel_rfl) (by kernel_rfl) ?_
  repeat (first
    | (go_big_quiet_want; refine quiet_load_row 63 (.tmp 2) rfl B2 rfl 63 _ (0, 0) _ g3 Try.underlying63 rfl (by kernel_rfl) ?_; simp only [Act.put, List.setIfInBounds_toArray, List.set_cons_zero, List.set_cons_succ]; go_big_quiet_on)
    | go_big_quiet_step (first | (go_at_call 57; exact calls_sub (Nat.le_refl _) (refused_ok gv (a : Int) (hh : Int) (by omega) (by have := HH5.out; omega) _))))
  refine wpQuiet_nil ?_
  rintro w' ⟨y, rfl⟩
  have HY := Lib.hid y.ok_
  have k1 := g1 y
  have G2 := Lib.hid (g3 y)
  have k2 : y.at_.cell? ⟨B2, 1, none⟩ = some (.int .i64 (hh : Int)) := nd_cell G2.out 1 _ rfl
  clear g1 g2 g3
  by_cases hz : hh = 0
  · have hk : decide ((hh : Int) > 0) = false := by simp; omega
    have hes : es = [] := by
      rcases HT.out with ⟨h, _⟩ | ⟨h, n, e1, _⟩
      · exact h
      · omega
    gi_wp2
    go_end0
    refine ⟨⟨_, rfl⟩, .inl ⟨[], ⟨hes.symm, ?_⟩, HJX.out _ HY.out⟩⟩
    rw [hes]
    exact row_stays HLK.out HY.out
  · have hk : decide ((hh : Int) > 0) = true := by simp; omega
    gi_wp2_with (refine wideIn_load_row rfl 63 (.tmp 2) rfl B2 rfl 63 _ (0, 0) _ G2.out Try.underlying63 rfl (by kernel_rfl) ?_)
    refine ⟨trivial, fun h => (by cases h), (HBE.out _ HY.out hz).mono ?_⟩
    rintro e W3 (⟨rfl, h1, h2⟩ | ⟨rfl, q, r, h1, h2, h3, h4⟩)
    · gi_wp2
      go_end0
      exact ⟨⟨_, rfl⟩, .inl ⟨es, ⟨rfl, h2⟩, h1⟩⟩
    · gi_wp2
      go_end0
      exact ⟨⟨_, rfl⟩, .inr ⟨q, ⟨r, h1, h2, h4⟩, h3⟩⟩
end Go.Proofs.Ytgkddhncfaeidaa

namespace Go.Proofs.Ytgkddhncfaeidaa
open Go.ChangeShapes Go.WideShapes Go.ChangeAt Go.RowKit CrcM PageM
set_option linter.unusedVariables false

set_option maxRecDepth 100000 in
set_option maxHeartbeats 4000000 in
theorem back_list (es : List EntD) (A : Option Addr) (n c : Nat) (w : World) (hn : es.length = n) (hm : n ≤ 1000000) (h : EnAt w A es) :
    Calls Try.prog 27 #[.slice A n c] w fun e w' => ∃ A' c', e = .returned (.slice A' n c') ∧ w'.ownsRow w.heap.size 51 8 (.slice A' n c') n (es.flatMap enC) ∧ Below w.heap.size w w' := by
  have HN := Lib.hid hn
  have H := Lib.hid h
  have HM := Lib.hid hm
  obtain ⟨ie, hie, hiez, hies, hieb⟩ := info_parts (infoEnt_from_any)
  clear hn h
  go_enter Try.func27, Try.ntmps27
  go_upto_region 3 with fail
  go_loopw [3, 4] (fun o i wr => ∃ (k : Nat) (A' : Option Addr) (c' : Nat), k ≤ n ∧ o = .slice A' k c' ∧ i = .int .i64 k ∧ Hid (wr.ownsRow w.heap.size 51 8 (.slice A' k c') k ((es.take k).flatMap enC)) ∧ Hid (Below w.heap.size w wr)) (fun _ i _ => n - (intOf i).toNat)
  case atStart => exact ⟨0, none, 0, by omega, rfl, rfl, Lib.hid (by simpa using World.ownsRow_nil w w.heap.size 51 8), Lib.hid (Below.refl _ _)⟩
  case round =>
    obtain ⟨k, A', c', hk, rfl, rfl, HR, HB⟩ := hrel
    obtain ⟨W0, rfl⟩ : ∃ W0, W0 = wr := ⟨_, rfl⟩
    by_cases hlt : k < n
    · obtain ⟨e, he⟩ : ∃ e, es[k]? = some e := ⟨_, List.getElem?_eq_getElem (by rw [HN.out]; exact hlt)⟩
      obtain ⟨b, off, rfl, hc⟩ := H.out (by intro e'; have h' := HN.out; rw [e'] at h'; simp at h'; omega)
      obtain ⟨c0, c1, c2, c3, c4, c5, c6, c7⟩ := hc k e he
      have hl0 := World.block_lt_of_cell? _ _ c0
      have HE := Lib.hid he
      clear he hc
      have z0 : W0.cell? ⟨b, off + k * 8, none⟩ = some (.int .i64 e.se) := (HB.out.cell (p := ⟨b, off + k * 8, none⟩) hl0).trans c0
      have z1 : W0.cell? ⟨b, off + k * 8 + 1, none⟩ = some (.int .i64 e.st) := (HB.out.cell (p := ⟨b, off + k * 8 + 1, none⟩) hl0).trans c1
      have z2 : W0.cell? ⟨b, off + k * 8 + 2, none⟩ = some (.int .i64 e.en) := (HB.out.cell (p := ⟨b, off + k * 8 + 2, none⟩) hl0).trans c2
      have z3 : W0.cell? ⟨b, off + k * 8 + 3, none⟩ = some (.int .i64 e.ad) := (HB.out.cell (p := ⟨b, off + k * 8 + 3, none⟩) hl0).trans c3
      have z4 : W0.cell? ⟨b, off + k * 8 + 4, none⟩ = some (.int .i64 e.le) := (HB.out.cell (p := ⟨b, off + k * 8 + 4, none⟩) hl0).trans c4
      have z5 : W0.cell? ⟨b, off + k * 8 + 5, none⟩ = some (.int .i64 e.cn) := (HB.out.cell (p := ⟨b, off + k * 8 + 5, none⟩) hl0).trans c5
      have z6 : W0.cell? ⟨b, off + k * 8 + 6, none⟩ = some (.int .i64 e.co) := (HB.out.cell (p := ⟨b, off + k * 8 + 6, none⟩) hl0).trans c6
      have z7 : W0.cell? ⟨b, off + k * 8 + 7, none⟩ = some (.int .u32 e.cr) := (HB.out.cell (p := ⟨b, off + k * 8 + 7, none⟩) hl0).trans c7
      clear c0 c1 c2 c3 c4 c5 c6 c7 hl0
      have hfill : Hid (Instr.fill (fun i => some (i * ie.size, ie.size)) ((Array.range (1 * ie.size)).map ((Value.agg #[.int .i64 0, .int .i64 0, .int .i64 0, .int .i64 0, .int .i64 0, .int .i64 0, .int .i64 0, .int .u32 0]).cells[· % (Value.agg #[.int .i64 0, .int .i64 0, .int .i64 0, .int .i64 0, .int .i64 0, .int .i64 0, .int .i64 0, .int .u32 0]).cells.size]!)) [(0, .agg #[.int .i64 e.se, .int .i64 e.st, .int .i64 e.en, .int .i64 e.ad, .int .i64 e.le, .int .i64 e.cn, .int .i64 e.co, .int .u32 e.cr])] = some #[.int .i64 e.se, .int .i64 e.st, .int .i64 e.en, .int .i64 e.ad, .int .i64 e.le, .int .i64 e.cn, .int .i64 e.co, .int .u32 e.cr]) := Lib.hid (by rw [hies]; exact fill_eight _ _ rfl (by simp))
      go_wp2_with (first
        | (go_at_call 31; refine (back_any e _).mono ?_; rintro e' x1 ⟨rfl, hb1⟩; have B1 := Lib.hid (HB.out.trans (hb1.mono HB.out.size)); have R1 := Lib.hid (row_below HR.out hb1); clear hb1)
        | (refine wpList_buildSlice rfl 22 51 1 _ rfl #[.int .i64 e.se, .int .i64 e.st, .int .i64 e.en, .int .i64 e.ad, .int .i64 e.le, .int .i64 e.cn, .int .i64 e.co, .int .u32 e.cr] ie _ Try.underlying22 hie hiez (by rw [hies]; decide) (by rw [hies]; decide) (by rw [Array.toList_map]; exact hfill.out) ?_)
        | (at_builtin; refine wpList_append_own_at _ rfl (.tmp 11) (.tmp 17) 22 rfl w.heap.size 51 ie _ 8 64 Try.underlying22 hie hiez hies hieb rfl (by omega) _ k ((es.take k).flatMap enC) rfl (row_below R1.out ((Below.refl _ _).alloc (Nat.le_refl _) (.cells #[.int .i64 e.se, .int .i64 e.st, .int .i64 e.en, .int .i64 e.ad, .int .i64 e.le, .int .i64 e.cn, .int .i64 e.co, .int .u32 e.cr] 51))) ⟨x1.heap.size, 0, none⟩ 1 1 (enC e) rfl rfl (fun j u hj => by rw [Addr.add_mid, World.cell?_alloc_new]; simpa [enC] using hj) (enC_one e) (by have := HM.out; unfold maxLen; omega) (by have := HM.out; omega) (by have := B1.out.size; simp; omega) ?_; intro v3 x3 ho3 hg3 _ _; obtain ⟨A3, c3, rfl⟩ := row_form ho3; have HR3 := Lib.hid ho3; have HB3 := Lib.hid (((B1.out.alloc B1.out.size (.cells #[.int .i64 e.se, .int .i64 e.st, .int .i64 e.en, .int .i64 e.ad, .int .i64 e.le, .int .i64 e.cn, .int .i64 e.co, .int .u32 e.cr] 51))).grown hg3 (by have := B1.out.size; simp; omega) (fun j hj => (World.ownsRow.lt R1.out j hj).1)); clear ho3 hg3))
      go_roundw
      case rel => exact ⟨k + 1, A3, c3, by omega, rfl, by go_num, Lib.hid (by rw [flat_takeV HE.out]; exact HR3.out), HB3⟩
      case measure => first | (simp [intOf]; done) | (simp [intOf]; omega)
    · obtain rfl : k = n := by omega
      have hdk : decide ((k : Int) < (k : Int)) = false := by simp
      go_wp2_with fail
      go_ret
      exact ⟨_, _, rfl, by have := HR.out; rwa [← HN.out, List.take_length, HN.out] at this, HB.out⟩

set_option maxRecDepth 100000 in
set_option maxHeartbeats 4000000 in
theorem same_list (es : List EntD) (A A2 : Option Addr) (n c c2 : Nat) (w : World) (hn : es.length = n) (hm : n ≤ 1000000) (h1 : EnAt w A es) (h2 : EnAt w A2 es) :
    Calls Try.prog 26 #[.slice A n c, .slice A2 n c2] w fun e w' => e = .returned (.bool true) ∧ Below w.heap.size w w' := by
  have HN := Lib.hid hn
  have H1 := Lib.hid h1
  have H2 := Lib.hid h2
  clear hn h1 h2
  go_enter Try.func26, Try.ntmps26
  go_upto_region 4 with fail
  go_loopw [5] (fun i wr => ∃ k : Nat, k ≤ n ∧ i = .int .i64 k ∧ Hid (Below w.heap.size w wr)) (fun i _ => n - (intOf i).toNat)
  case atStart => exact ⟨0, by omega, rfl, Lib.hid (Below.refl _ _)⟩
  case round =>
    obtain ⟨k, hk, rfl, HBR⟩ := hrel
    obtain ⟨W0, rfl⟩ : ∃ W0, W0 = wr := ⟨_, rfl⟩
    by_cases hlt : k < n
    · obtain ⟨e, he⟩ : ∃ e, es[k]? = some e := ⟨_, List.getElem?_eq_getElem (by rw [HN.out]; exact hlt)⟩
      obtain ⟨b1, o1, rfl, hc0⟩ := (H1.out.below HBR.out) (by intro e'; have h' := HN.out; rw [e'] at h'; simp at h'; omega)
      obtain ⟨b2, o2, rfl, hc1⟩ := (H2.out.below HBR.out) (by intro e'; have h' := HN.out; rw [e'] at h'; simp at h'; omega)
      obtain ⟨z00, z01, z02, z03, z04, z05, z06, z07⟩ := hc0 k e he
      have hl0 := World.block_lt_of_cell? _ _ z00
      have P0 : ∀ y : SubW W0.heap.size W0, y.at_.cell? ⟨b1, o1 + k * 8, none⟩ = some (.int .i64 e.se) := fun y => (y.ok_.cell (p := ⟨b1, o1 + k * 8, none⟩) hl0).trans z00
      have P1 : ∀ y : SubW W0.heap.size W0, y.at_.cell? ⟨b1, o1 + k * 8 + 1, none⟩ = some (.int .i64 e.st) := fun y => (y.ok_.cell (p := ⟨b1, o1 + k * 8 + 1, none⟩) hl0).trans z01
      have P2 : ∀ y : SubW W0.heap.size W0, y.at_.cell? ⟨b1, o1 + k * 8 + 2, none⟩ = some (.int .i64 e.en) := fun y => (y.ok_.cell (p := ⟨b1, o1 + k * 8 + 2, none⟩) hl0).trans z02
      have P3 : ∀ y : SubW W0.heap.size W0, y.at_.cell? ⟨b1, o1 + k * 8 + 3, none⟩ = some (.int .i64 e.ad) := fun y => (y.ok_.cell (p := ⟨b1, o1 + k * 8 + 3, none⟩) hl0).trans z03
      have P4 : ∀ y : SubW W0.heap.size W0, y.at_.cell? ⟨b1, o1 + k * 8 + 4, none⟩ = some (.int .i64 e.le) := fun y => (y.ok_.cell (p := ⟨b1, o1 + k * 8 + 4, none⟩) hl0).trans z04
      have P5 : ∀ y : SubW W0.heap.size W0, y.at_.cell? ⟨b1, o1 + k * 8 + 5, none⟩ = some (.int .i64 e.cn) := fun y => (y.ok_.cell (p := ⟨b1, o1 + k * 8 + 5, none⟩) hl0).trans z05
      have P6 : ∀ y : SubW W0.heap.size W0, y.at_.cell? ⟨b1, o1 + k * 8 + 6, none⟩ = some (.int .i64 e.co) := fun y => (y.ok_.cell (p := ⟨b1, o1 + k * 8 + 6, none⟩) hl0).trans z06
      have P7 : ∀ y : SubW W0.heap.size W0, y.at_.cell? ⟨b1, o1 + k * 8 + 7, none⟩ = some (.int .u32 e.cr) := fun y => (y.ok_.cell (p := ⟨b1, o1 + k * 8 + 7, none⟩) hl0).trans z07
      obtain ⟨z10, z11, z12, z13, z14, z15, z16, z17⟩ := hc1 k e he
      have hl1 := World.block_lt_of_cell? _ _ z10
      have Q0 : ∀ y : SubW W0.heap.size W0, y.at_.cell? ⟨b2, o2 + k * 8, none⟩ = some (.int .i64 e.se) := fun y => (y.ok_.cell (p := ⟨b2, o2 + k * 8, none⟩) hl1).trans z10
      have Q1 : ∀ y : SubW W0.heap.size W0, y.at_.cell? ⟨b2, o2 + k * 8 + 1, none⟩ = some (.int .i64 e.st) := fun y => (y.ok_.cell (p := ⟨b2, o2 + k * 8 + 1, none⟩) hl1).trans z11
      have Q2 : ∀ y : SubW W0.heap.size W0, y.at_.cell? ⟨b2, o2 + k * 8 + 2, none⟩ = some (.int .i64 e.en) := fun y => (y.ok_.cell (p := ⟨b2, o2 + k * 8 + 2, none⟩) hl1).trans z12
      have Q3 : ∀ y : SubW W0.heap.size W0, y.at_.cell? ⟨b2, o2 + k * 8 + 3, none⟩ = some (.int .i64 e.ad) := fun y => (y.ok_.cell (p := ⟨b2, o2 + k * 8 + 3, none⟩) hl1).trans z13
      have Q4 : ∀ y : SubW W0.heap.size W0, y.at_.cell? ⟨b2, o2 + k * 8 + 4, none⟩ = some (.int .i64 e.le) := fun y => (y.ok_.cell (p := ⟨b2, o2 + k * 8 + 4, none⟩) hl1).trans z14
      have Q5 : ∀ y : SubW W0.heap.size W0, y.at_.cell? ⟨b2, o2 + k * 8 + 5, none⟩ = some (.int .i64 e.cn) := fun y => (y.ok_.cell (p := ⟨b2, o2 + k * 8 + 5, none⟩) hl1).trans z15
      have Q6 : ∀ y : SubW W0.heap.size W0, y.at_.cell? ⟨b2, o2 + k * 8 + 6, none⟩ = some (.int .i64 e.co) := fun y => (y.ok_.cell (p := ⟨b2, o2 + k * 8 + 6, none⟩) hl1).trans z16
      have Q7 : ∀ y : SubW W0.heap.size W0, y.at_.cell? ⟨b2, o2 + k * 8 + 7, none⟩ = some (.int .u32 e.cr) := fun y => (y.ok_.cell (p := ⟨b2, o2 + k * 8 + 7, none⟩) hl1).trans z17
      clear hc0 hc1 hl0 hl1 he z00 z01 z02 z03 z04 z05 z06 z07 z10 z11 z12 z13 z14 z15 z16 z17
      go_upto_region 6 with fail
      refine region_below W0.heap.size W0 (Below.refl _ _) (by kernel_rfl) (by kernel_rfl) ?_
      repeat (first
        | (go_big_quiet_want; refine quiet_binOpN .neq 51 (.tmp 20) (.tmp 24) 51 rfl (.agg #[.int .i64 e.se, .int .i64 e.st, .int .i64 e.en, .int .i64 e.ad, .int .i64 e.le, .int .i64 e.cn, .int .i64 e.co, .int .u32 e.cr]) (.agg #[.int .i64 e.se, .int .i64 e.st, .int .i64 e.en, .int .i64 e.ad, .int .i64 e.le, .int .i64 e.cn, .int .i64 e.co, .int .u32 e.cr]) (.bool false) rfl rfl (fun W => guard_ent _ _ _ _ _ W) (fun W => neq_ent e W) ?_; simp only [Act.put, List.setIfInBounds_toArray, List.set_cons_zero, List.set_cons_succ]; go_big_quiet_on)
        | go_big_quiet_step (fail))
      refine wpQuiet_nil ?_
      rintro w' ⟨y, rfl⟩
      have HY := Lib.hid (HBR.out.trans (y.ok_.mono HBR.out.size))
      clear P0 P1 P2 P3 P4 P5 P6 P7 Q0 Q1 Q2 Q3 Q4 Q5 Q6 Q7
      go_wp2_with fail
      go_roundw
      case rel => exact ⟨k + 1, by omega, by go_num, HY⟩
      case measure => first | (simp [intOf]; done) | (simp [intOf]; omega)
    · obtain rfl : k = n := by omega
      have hdk : decide ((k : Int) < (k : Int)) = false := by simp
      go_wp2_with fail
      go_ret
      exact ⟨rfl, HBR.out⟩
end Go.Proofs.Ytgkddhncfaeidaa
