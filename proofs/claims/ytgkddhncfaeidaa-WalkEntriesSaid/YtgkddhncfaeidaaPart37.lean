/- Several texts in one: How many nodes the reference says are read. Entries: a tree's entries as an iterator that lays its looker itself. A region that draws its order, in a round of a range over a function. No program is named here. -/
import Derived.Test.YtgkddhncfaeidaaPart36
import Derived.Test.YtgkddhncfaeidaaPart28
import Derived.Test.YtgkddhncfaeidaaTvTa
import Derived.RangeFuncCalls
import Derived.OwnWalkIn
import Derived.OrdersIn
import Derived.Test.YtgkddhncfaeidaaPart00
set_option linter.unusedSimpArgs false
set_option linter.unusedVariables false
namespace Go.Proofs.Ytgkddhncfaeidaa
open Go.RowKit
set_option linter.unusedVariables false

theorem wrap_small {x : Int} (h0 : 0 ≤ x) (h1 : x ≤ 1000000) : wrap64 x = x := by unfold wrap64; omega

set_option maxRecDepth 100000 in
set_option maxHeartbeats 2000000 in
theorem nodes_seq (A S D : Nat → Nat) (g all sm : Nat) (h0 : all ≠ 0) (h1 : sm ≠ 0) (ha : all ≤ 1000) (hs : sm ≤ 1000) (hA0 : A 0 = (all + 6) / 7) (hS0 : S 0 = (sm + 6) / 7) (hD0 : D 0 = 0)
    (hA : ∀ j, A (j + 1) = (A j + 15) / 16) (hS : ∀ j, S (j + 1) = (S j + 15) / 16) (hD : ∀ j, D (j + 1) = D j + S j) (hg : A g = 1) (hlt : ∀ j, j < g → 2 ≤ A j)
    (bA : ∀ j, A j ≤ 1000) (bS : ∀ j, S j ≤ 1000) (bD : ∀ j, j ≤ g → D j ≤ 100000) (w : World) :
    Calls Try.prog 28 #[.int .i64 (all : Int), .int .i64 (sm : Int)] w fun e w' => e = .returned (.int .i64 (D (g + 1) : Int)) ∧ Below w.heap.size w w' := by
  have HA0 := Lib.hid hA0
  have HS0 := Lib.hid hS0
  have HD0 := Lib.hid hD0
  have HA := Lib.hid hA
  have HS := Lib.hid hS
  have HD := Lib.hid hD
  have HG := Lib.hid hg
  have HL := Lib.hid hlt
  have BA := Lib.hid bA
  have BS := Lib.hid bS
  have BD := Lib.hid bD
  clear hA0 hS0 hD0 hA hS hD hg hlt bA bS bD
  have d1 : ((all : Int) == 0) = false := by simp; omega
  have d2 : ((sm : Int) == 0) = false := by simp; omega
  go_enter Try.func28, Try.ntmps28
  go_upto_region 5 with fail
  clear d1 d2
  go_loopw [5, 6, 7] (fun u a b wr => ∃ j : Nat, j ≤ g ∧ u = .int .i64 (D j : Int) ∧ a = .int .i64 (A j : Int) ∧ b = .int .i64 (S j : Int) ∧ Hid (wr = w))
    (fun _ a _ _ => (intOf a).toNat)
  case atStart => exact ⟨0, Nat.zero_le _, by rw [HD0.out]; rfl, (by rw [HA0.out]; rfl), (by rw [HS0.out]; rfl), Lib.hid rfl⟩
  case round =>
    obtain ⟨j, hj, rfl, rfl, rfl, HW⟩ := hrel
    have b1 := BA.out j
    have b2 := BS.out j
    have b3 := BD.out j hj
    obtain ⟨a, ea⟩ : ∃ a, a = A j := ⟨_, rfl⟩
    obtain ⟨b, eb⟩ : ∃ b, b = S j := ⟨_, rfl⟩
    obtain ⟨d, ed⟩ : ∃ d, d = D j := ⟨_, rfl⟩
    obtain ⟨d', ed'⟩ : ∃ d', d' = D (j + 1) := ⟨_, rfl⟩
    obtain ⟨a', ea'⟩ : ∃ a', a' = A (j + 1) := ⟨_, rfl⟩
    obtain ⟨b', eb'⟩ : ∃ b', b' = S (j + 1) := ⟨_, rfl⟩
    have hd' : d' = d + b := by rw [ed', HD.out, ed, eb]
    have ha' : a' = (a + 15) / 16 := by rw [ea', HA.out, ea]
    have hb' : b' = (b + 15) / 16 := by rw [eb', HS.out, eb]
    rw [← ea] at b1 ⊢
    rw [← eb] at b2 ⊢
    rw [← ed] at b3 ⊢
    by_cases hlt : j = g
    · have h1 : a = 1 := by rw [ea, hlt]; exact HG.out
      subst h1
      have hdd : d' = D (g + 1) := by rw [ed', hlt]
      have HDD : Hid (((d : Int) + (b : Int)) = (D (g + 1) : Int)) := Lib.hid (by rw [← hdd, hd']; rfl)
      clear ed hd' ha' hb' ea' eb' ea eb ed' hdd
      go_wp2_with fail
      go_ret
      exact ⟨by rw [← HDD.out]; rfl, by rw [HW.out]; exact Below.refl _ _⟩
    · have h2 : 2 ≤ a := by rw [ea]; exact HL.out j (by omega)
      have hk : ((a : Int) == 1) = false := by rw [beq_eq_false_iff_ne]; omega
      have hdec : a' < a := by rw [ha']; omega
      have EA : Hid ((((a : Int) + 15) / 16) = (A (j + 1) : Int)) := Lib.hid (by rw [← ea', ha']; omega)
      have EB : Hid ((((b : Int) + 15) / 16) = (S (j + 1) : Int)) := Lib.hid (by rw [← eb', hb']; omega)
      have ED : Hid (((d : Int) + (b : Int)) = (D (j + 1) : Int)) := Lib.hid (by rw [← ed', hd']; rfl)
      have HDE : Hid ((a + 15) / 16 < a) := Lib.hid (by rw [← ha']; exact hdec)
      clear ea eb ed ea' eb' ed' hd' ha' hb' hdec
      go_wp2_with fail
      go_roundw
      case rel => exact ⟨j + 1, by omega, by rw [← ED.out], by rw [← EA.out], by rw [← EB.out], HW⟩
      case measure => have := HDE.out; simp only [intOf]; omega

theorem cl_7 (x : Nat) : cl x (capH 0) = (x + 6) / 7 := rfl
theorem refNodes_tree (hh all sm : Nat) (ha : 1 ≤ all) (hs : 1 ≤ sm) (hle : sm ≤ all) (hall : all ≤ 1000) (h5 : hh ≤ 4) (h1 : all ≤ capH hh) (h2 : ∀ j, j < hh → capH j < all) (w : World) :
    Calls Try.prog 28 #[.int .i64 (all : Int), .int .i64 (sm : Int)] w fun e w' => e = .returned (.int .i64 (cntR (hh + 1) sm : Int)) ∧ Below w.heap.size w w' := by
  have e : cntR (hh + 1) sm = NDp sm (hh + 1) := by rw [NDp_ND]; unfold cntR; rw [if_neg (by omega)]; rfl
  rw [e]
  refine nodes_seq (fun j => cl all (capH j)) (fun j => cl sm (capH j)) (NDp sm) hh all sm (by omega) (by omega) hall (by omega) (cl_7 all) (cl_7 sm) rfl (fun j => ?_) (fun j => ?_) (fun j => rfl) (ceil_one ha h1) (fun j hj => ?_) (fun j => Nat.le_trans (cl_le all _ (capH_pos j)) hall) (fun j => Nat.le_trans (cl_le sm _ (capH_pos j)) (by omega)) (fun j hj => Nat.le_trans (NDp_le sm j) (Nat.le_trans (Nat.mul_le_mul (by omega : j ≤ 4) (by omega : sm ≤ 1000)) (by decide))) w
  · have e := cl_up all (capH j) (capH_pos j)
    rw [← capH_succ] at e
    exact e.symm
  · have e := cl_up sm (capH j) (capH_pos j)
    rw [← capH_succ] at e
    exact e.symm
  · have h3 := h2 j hj
    exact (Nat.le_div_iff_mul_le (capH_pos j)).2 (by omega)
theorem refNodes_zero (all sm : Nat) (h : all = 0 ∨ sm = 0) (w : World) :
    Calls Try.prog 28 #[.int .i64 (all : Int), .int .i64 (sm : Int)] w fun e w' => e = .returned (.int .i64 0) ∧ Below w.heap.size w w' := by
  by_cases h1 : all = 0
  · subst h1
    go_enter Try.func28, Try.ntmps28
    go_wp2_with fail
    go_ret
    exact ⟨rfl, Below.refl _ _⟩
  · obtain rfl : sm = 0 := by omega
    have d1 : ((all : Int) == 0) = false := by simp; omega
    go_enter Try.func28, Try.ntmps28
    go_wp2_with fail
    go_ret
    exact ⟨rfl, Below.refl _ _⟩
end Go.Proofs.Ytgkddhncfaeidaa

namespace Go.Proofs.Ytgkddhncfaeidaa
open Go.RowKit Go.Shelf CrcM PageM
set_option linter.unusedVariables false
attribute [local go_sem] Oper.semAt_some

set_option maxRecDepth 100000 in
theorem entriesF_mk (n gv : Nat) (a hh : Int) (w : World) :
    CallsIn Fence.wide n Try.prog 30 #[.pointer (some ⟨gv, 0, none⟩), .agg #[.int .i64 a, .int .i64 hh]] w fun e w' => e = .returned (.func (.func 59) #[] #[.pointer (some ⟨w.heap.size, 0, none⟩), .pointer (some ⟨w.heap.size + 1, 0, none⟩)]) ∧ w' = (w.alloc (.cells #[.pointer (some ⟨gv, 0, none⟩)] 61)).alloc (.cells #[.int .i64 a, .int .i64 hh] 63) := by
  refine callsIn_of_wp Try.func30 rfl trivial ?_ rfl
  simp only [Try.ntmps30, List.size_toArray, List.length_cons, List.length_nil, Nat.reduceAdd, Nat.reduceSub, Array.replicate_succ, Array.replicate_zero, List.push_toArray, List.append_toArray, List.nil_append, List.cons_append]
  gi_wp2
  go_ret
  exact ⟨rfl, rfl⟩

set_option maxRecDepth 100000 in
set_option maxHeartbeats 4000000 in
theorem entriesF_seq (m gv n₀ g gen p a hh B1 B2 : Nat) (U V : List Bool) {B N gs gn Ls cs cn : Nat} {rw : Value} {st nw : List UInt8} {ws : List (Nat × List UInt8)} (C : World → Nat → Prop) (w0 : World) (hn₀ : n₀ = w0.heap.size)
    (hv : ViewAt w0 gv g gen (p : Int) U V) (hd : Dk w0 B N g gs gn rw Ls cs cn st nw ws true (-1)) (es : List EntD) (ht : TreeR nw Ls a hh es) (hc : cntR hh es.length ≤ 1000000) :
    SeqT Fence.wide m Try.prog 59 #[.pointer (some ⟨B1, 0, none⟩), .pointer (some ⟨B2, 0, none⟩)] (fun x => #[enV x, .int .i64 0]) (TL n₀) (KpC n₀ C) (OkC n₀ C) (CcC C)
      (fun W => Below w0.heap.size w0 W ∧ W.heap[B1]? = some (.cells #[.pointer (some ⟨gv, 0, none⟩)] 61 (0, 0)) ∧ W.heap[B2]? = some (.cells #[.int .i64 (a : Int), .int .i64 (hh : Int)] 63 (0, 0)))
      (fun xs W => xs = es) (fun q W => ∃ r, es = q ++ r ∧ q ≠ []) es.length := by
  rintro l J Jx W ⟨hb, hb1, hb2⟩ hJT hOk hCc hY h0
  have hO := hOk _ _ h0
  have hCX : ∀ X, Below W.heap.size W X → TL n₀ W X := fun X hX => ⟨hX.mono hO.1, fun k o hk _ => (hX.block k (Array.getElem?_eq_some_iff.1 hk).1).trans hk⟩
  have HB1 := Lib.hid hb1
  have HB2 := Lib.hid hb2
  obtain ⟨gl, hgl⟩ : ∃ gl, gl = W.heap.size := ⟨_, rfl⟩
  obtain ⟨W1, hW1⟩ : ∃ W1, W1 = W.alloc (.cells #[.pointer (some ⟨gv, 0, none⟩), .int .i64 0] 121) := ⟨_, rfl⟩
  have B01 := Lib.hid (alloc_bel hW1)
  have L1 : Hid (Lk W1 gl gv 0) := Lib.hid (by rw [hW1, hgl]; exact heap_alloc_new _ _)
  have Z1 : Hid (W1.heap.size = gl + 1) := Lib.hid (by rw [hW1, hgl]; simp)
  have R1 : Hid (W1.heap[B2]? = some (.cells #[.int .i64 (a : Int), .int .i64 (hh : Int)] 63 (0, 0))) := Lib.hid (row_stays hb2 B01.out)
  have HGL := Lib.hid hgl
  have HW1 := Lib.hid hW1
  have HRUN : Hid (∀ (q : Nat) (W2 : World), W2 = (W1.alloc (.cells #[.pointer (some ⟨gl, 0, none⟩)] 152)).alloc (.cells #[.int .i64 (a : Int), .int .i64 (hh : Int)] 63) → CallsIn Fence.wide q Try.prog 82 (#[.func (.yield l) #[] #[]] ++ #[.pointer (some ⟨W1.heap.size, 0, none⟩), .pointer (some ⟨W1.heap.size + 1, 0, none⟩)]) W2 fun e W' => (∃ v, e = .returned v) ∧ ((∃ xs, xs = es ∧ J xs W') ∨ ∃ pre, (∃ r, es = pre ++ r ∧ pre ≠ []) ∧ Jx pre W')) := Lib.hid (fun q W2 hW2 => by
    have hB12 : Below W1.heap.size W1 W2 := by rw [hW2]; exact ((Below.refl _ _).alloc (Nat.le_refl _) _).alloc (by simp) _
    have hB02 : Below W.heap.size W W2 := B01.out.trans (hB12.mono B01.out.size)
    have x1 : W2.heap[W1.heap.size]? = some (.cells #[.pointer (some ⟨gl, 0, none⟩)] 152 (0, 0)) := by rw [hW2]; exact row_stays (heap_alloc_new _ _) (alloc_bel rfl)
    have x2 : W2.heap[W1.heap.size + 1]? = some (.cells #[.int .i64 (a : Int), .int .i64 (hh : Int)] 63 (0, 0)) := by
      rw [hW2]
      have h1 := heap_alloc_new (W1.alloc (.cells #[.pointer (some ⟨gl, 0, none⟩)] 152)) (.cells #[.int .i64 (a : Int), .int .i64 (hh : Int)] 63)
      rw [World.size_alloc] at h1
      exact h1
    have hT2 := hCX W2 hB02
    refine (entries1_seq q gl gv n₀ g gen p a hh 0 W1.heap.size (W1.heap.size + 1) U V C w0 hn₀ (by rw [hgl]; exact hO.1) hv hd es ht (by omega) l J Jx W2 ⟨hb.trans (hB02.mono hb.size), row_stays L1.out hB12, fun hx => ?_, x1, x2⟩ hJT hOk hCc (fun pre x Wz hj hl => yieldAny (hY pre x Wz hj hl)) (hJT _ _ _ h0 hT2)).mono ?_
    · have h1 := hO.2 _ (hCc _ _ _ h0 hT2 _ hx)
      rw [hgl] at h1
      exact Nat.lt_irrefl _ h1
    · rintro e W' ⟨h1, ⟨xs, ⟨h2, _⟩, h3⟩ | ⟨pre, ⟨r, h2, h3, _⟩, h4⟩⟩
      · exact ⟨h1, .inl ⟨xs, h2, h3⟩⟩
      · exact ⟨h1, .inr ⟨pre, ⟨r, h2, h3⟩, h4⟩⟩)
  clear hb hb1 hb2 hJT hOk hCc hY h0 hCX hv hd ht hO hgl hW1
  have k1 := nd_cell HB1.out 0 (.pointer (some ⟨gv, 0, none⟩)) rfl
  refine callsIn_of_wp Try.func59 rfl trivial ?_ rfl
  simp only [Try.ntmps59, List.size_toArray, List.length_cons, List.length_nil, Nat.reduceAdd, Nat.reduceSub, Array.replicate_succ, Array.replicate_zero, List.push_toArray, List.append_toArray, List.nil_append, List.cons_append]
  gi_wp2_with (first
    | (refine wideIn_store_row rfl 121 (.tmp 4) (.tmp 6) rfl W.heap.size #[.pointer (some ⟨gv, 0, none⟩), .int .i64 0] rfl rfl 121 _ (heap_alloc_new _ _) (by kernel_rfl) rfl (by simp [Value.oneCell']) ?_; rw [World.setRow_alloc_new, ← HW1.out, ← HGL.out])
    | (refine wideIn_load_row rfl 63 (.tmp 2) rfl B2 rfl 63 _ (0, 0) _ R1.out Try.underlying63 rfl (by kernel_rfl) ?_))
  refine ⟨trivial, fun h => (by cases h), (entries_mk _ gl (a : Int) (hh : Int) W1).mono ?_⟩
  rintro e W2 ⟨rfl, hw2⟩
  have HW2 := Lib.hid hw2
  clear hw2
  gi_wp2
  refine ⟨trivial, fun h => (by cases h), (HRUN.out _ W2 HW2.out).mono ?_⟩
  rintro e W3 ⟨⟨v, rfl⟩, h⟩
  gi_wp2
  go_end0
  exact ⟨⟨_, rfl⟩, h⟩
end Go.Proofs.Ytgkddhncfaeidaa

namespace Go.Proofs.Ytgkddhncfaeidaa
open Go.RowKit
set_option linter.unusedVariables false

def noDefer (ops : List Oper) : Bool := ops.all fun o => match o.op with | .defer _ => false | _ => true
theorem noDefer_at {ops : List Oper} (h : noDefer ops = true) {i : Nat} {o : Oper} (ho : ops.toArray[i]? = some o) (c : Call) : o.op ≠ .defer c := fun e => by
  have hm : o ∈ ops := by
    have h1 : ops[i]? = some o := by simpa using ho
    exact List.mem_of_getElem? h1
  have h2 := List.all_eq_true.1 h o hm
  simp only [e] at h2
  exact absurd h2 (by decide)
theorem rows_round {l n : Nat} {P : Program} {row : String} {args : Array Value} {w : World} {R : Value → World → Prop} (h : Rows P row args w R) : RowsIn (Fence.wide.inRound l) n P row args w R :=
  fun c cs _ => let ⟨v, w', r, s⟩ := h c cs; ⟨v, w', r, stepsIn_wide.2 s⟩
theorem oper_round {l n : Nat} {P : Program} {o : Oper} {a : Act} {w : World} {next : Act → World → Prop} {Q : Exit → Act → World → Prop} (hd : ∀ c, o.op ≠ .defer c) (h : o.wp P a w next Q) : o.wpIn (Fence.wide.inRound l) n P a w next Q := by
  refine ⟨fun _ _ => trivial, ?_⟩
  rw [Oper.semAt_plain _ _ _ hd]
  unfold Oper.wp at h
  generalize (execOp a.eval o).run P w = r at h ⊢
  cases r with
  | ok nx w' =>
    cases nx with
    | value v => exact h
    | skip => exact h
    | defer d => exact h
    | enter f args => exact ⟨fun h' => (by cases h'), CallsIn.inRound l ((callsIn_wide.2 h).mono fun e w'' hh => by cases e <;> exact hh)⟩
    | row r args => exact ⟨fun h' => (by cases h'), rows_round h⟩
    | _ => exact h.elim
  | halt x w' =>
    cases x <;> first | exact h | exact h.elim
theorem ops_round {l n : Nat} {P : Program} {ops : Array Oper} {Q : Exit → Act → World → Prop} (hd : ∀ (i : Nat) (o : Oper), ops[i]? = some o → ∀ c, o.op ≠ .defer c) (hL : ¬ LetsOut Q) :
    ∀ (ls : List Nat) (a : Act) (w : World), wpOps P ops Q ls a w → wpOpsIn (Fence.wide.inRound l) n P ops Q ls a w
  | [], a, w, h => h
  | i :: rest, a, w, h => by
    unfold wpOps at h
    unfold wpOpsIn
    cases hi : ops[i]? with
    | none =>
      rw [hi] at h
      exact ops_round hd hL rest a w h
    | some o =>
      rw [hi] at h
      simp only at h ⊢
      by_cases hw : Region.wanted o (yielded ops a.tmps) = true
      · rw [if_pos hw] at h ⊢
        rcases h with h | ⟨_, h⟩
        · exact oper_round (hd i o hi) (Oper.wp_mono (fun a w => ops_round hd hL rest a w) h)
        · exact absurd h hL
      · rw [if_neg hw] at h ⊢
        exact ⟨fun _ _ => trivial, ops_round hd hL rest _ _ h⟩
/-- region_below in a round. -/
theorem region_below_round {P : Program} {id l n : Nat} {Q : Exit → Act → World → Prop} {a : Act} {w : World} {ls : List Oper} (B : Nat) (w0 : World) (hb : Below B w0 w)
    (hm : P.follows .mixedOrders = true) (hB : Region.lexB .any ls.toArray = true) (hd : noDefer ls = true) (hL : ¬ LetsOut Q)
    (h : wpQuiet P ls.toArray (fun w' => ∃ x : SubW B w0, w' = x.at_) (fun a' => ∀ w', (∃ x : SubW B w0, w' = x.at_) → Q .normal a' w') ls a) : (Code.region id ls.toArray true).wpIn (Fence.wide.inRound l) n P Q a w := by
  simp only [Region.lexB, Bool.and_eq_true] at hB
  refine wpIn_region_draw fun t => ?_
  simp only [Region.schedule, hm, Bool.true_or, if_true]
  refine ops_round (fun i o ho => noDefer_at hd ho) hL _ _ _ (wpAny_sound ls.toArray.size t _ a _ ?_)
  refine wpAny_of_quiet (C := fun w' => ∃ x : SubW B w0, w' = x.at_) (Q := fun a' => ∀ w', (∃ x : SubW B w0, w' = x.at_) → Q .normal a' w') (fun _ w' hw' h => h w' hw') _ _ _ _ ⟨⟨_, below_drewN hb 1⟩, rfl⟩ ?_
  have := wpAnyQ_lex (C := fun w' => ∃ x : SubW B w0, w' = x.at_) (md := .any) hB.1 ls 0 (Array.replicate ls.toArray.size false) a (by simp) (by simpa using hB.2) h
  simpa using this
end Go.Proofs.Ytgkddhncfaeidaa
