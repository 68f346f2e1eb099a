/- NodePuts: of a node that can't be nothing is told. -/
import Derived.Test.YtgkddhncfaeidaaNgO
import Derived.Test.YtgkddhncfaeidaaNfW
import Derived.Test.YtgkddhncfaeidaaNdY
import Derived.Test.YtgkddhncfaeidaaNfQ
import Derived.Test.YtgkddhncfaeidaaNdTo
import Derived.Test.YtgkddhncfaeidaaNdFr
import Derived.Test.YtgkddhncfaeidaaNdPuts
namespace Go.Proofs.Ytgkddhncfaeidaa
open Go.ChangeShapes Go.WideShapes Go.ChangeAt Go.RowKit CrcM PageM
set_option linter.unusedVariables false

theorem lsize_any (n : NodeD) (l : NdL) (w : World) :
    Calls Try.prog 16 #[.agg #[.bool n.leaf, .slice l.EA n.es.length l.ec, .slice l.KA n.ks.length l.kc, .slice l.DA n.ds.length l.dc]] w fun e w' => e = .returned (.int .i64 (n.size : Int)) ∧ Below w.heap.size w w' := by
  obtain ⟨lf, es, ks, ds⟩ := n
  obtain ⟨EA, ec, KA, kc, DA, dc⟩ := l
  dsimp only
  cases lf with
  | true =>
    go_enter Try.func16, Try.ntmps16
    go_wp2_with fail
    go_ret
    exact ⟨rfl, (Below.refl _ _).alloc (Nat.le_refl _) _⟩
  | false =>
    go_enter Try.func16, Try.ntmps16
    go_wp2_with fail
    go_ret
    exact ⟨rfl, (Below.refl _ _).alloc (Nat.le_refl _) _⟩
theorem row_stays {w w' : World} {k : Nat} {o : Obj} (h : w.heap[k]? = some o) (hb : Below w.heap.size w w') : w'.heap[k]? = some o := (hb.block k (Array.getElem?_eq_some_iff.1 h).1).trans h
/-- A node whose rows are no longer than what a machine can lay anew. -/
structure FitsN (n : NodeD) : Prop where
  e : n.es.length * 64 ≤ 140737488355328
  k : n.ks.length * 16 ≤ 140737488355328
  d : n.ds.length * 8 ≤ 140737488355328

set_option maxRecDepth 100000 in
set_option maxHeartbeats 4000000 in
theorem nodePuts_no (n : NodeD) (l : NdL) (hn : ¬ okNode n) (hf : FitsN n) (w : World) (h : NodeAt w n l) :
    Calls Try.prog 3 #[.agg #[.bool n.leaf, .slice l.EA n.es.length l.ec, .slice l.KA n.ks.length l.kc, .slice l.DA n.ds.length l.dc]] w fun e w' => e = .returned (.bool true) ∧ Below w.heap.size w w' := by
  obtain ⟨W, eW⟩ : ∃ W, W = w.alloc (.cells #[.bool n.leaf, .slice l.EA n.es.length l.ec, .slice l.KA n.ks.length l.kc, .slice l.DA n.ds.length l.dc] 26) := ⟨_, rfl⟩
  have hbW : Below w.heap.size w W := by rw [eW]; exact (Below.refl _ _).alloc (Nat.le_refl _) _
  have hg : W.heap[w.heap.size]? = some (.cells #[.bool n.leaf, .slice l.EA n.es.length l.ec, .slice l.KA n.ks.length l.kc, .slice l.DA n.ds.length l.dc] 26 (0, 0)) := by rw [eW]; exact heap_alloc_new _ _
  have HG := Lib.hid hg
  have HN := Lib.hid (h.below hbW)
  have HBW := Lib.hid hbW
  have HNO := Lib.hid hn
  have HF := Lib.hid hf
  have HEQ : Hid (((n.size : Int) == (n.size : Int)) = true) := Lib.hid (by simp)
  clear hbW hg h hn hf
  go_enter Try.func3, Try.ntmps3
  go_upto_region 1 with fail
  rw [← eW]
  clear eW
  go_upto_region 3 with (first
    | (refine wpList_load_row rfl 26 (.tmp 1) rfl w.heap.size rfl 26 _ (0, 0) _ HG.out Try.underlying26 rfl (by kernel_rfl) ?_)
    | (refine wpList_load_row rfl 26 (.tmp 1) rfl w.heap.size rfl 26 _ (0, 0) _ HG2.out Try.underlying26 rfl (by kernel_rfl) ?_)
    | (go_at_call 10; refine (to_any n l _ HN.out HF.out.e HF.out.k HF.out.d).mono ?_; rintro e w1 ⟨l1, rfl, hn1, hb1⟩; have HN1 := Lib.hid hn1; have HB1 := Lib.hid hb1; clear hn1 hb1)
    | (go_at_call 9; refine (put_no n l1 HNO.out _ HN1.out).mono ?_; rintro e w2 ⟨rfl, hb2⟩; have HB2 := Lib.hid (HB1.out.trans (hb2.mono HB1.out.size)); clear hb2; have HG2 := Lib.hid (row_stays HG.out HB2.out); have HN2 := Lib.hid (HN.out.below HB2.out))
    | (go_at_call 11; refine (refPut_no n l HNO.out _ HN2.out).mono ?_; rintro e w3 ⟨rfl, hb3⟩; have HB3 := Lib.hid hb3; clear hb3))
  have HG3 := Lib.hid (row_stays HG2.out HB3.out)
  have HN3 := Lib.hid (HN2.out.below HB3.out)
  have HW3 : Hid (Below w.heap.size w w3) := Lib.hid (HBW.out.trans ((HB2.out.trans (HB3.out.mono HB2.out.size)).mono HBW.out.size))
  clear HB3 HN2 HG2 HB2 HN1 HB1 HG HN HBW
  have f1 : Hid (∀ y : SubW w3.heap.size w3, y.at_.heap[w.heap.size]? = some (.cells #[.bool n.leaf, .slice l.EA n.es.length l.ec, .slice l.KA n.ks.length l.kc, .slice l.DA n.ds.length l.dc] 26 (0, 0))) := Lib.hid (fun y => row_stays HG3.out y.ok_)
  have t1 : Hid (∀ y : SubW w3.heap.size w3, (convert 27 9 (.slice none 0 0)).run Try.prog y.at_ = .ok (.string ⟨#[]⟩) y.at_) := Lib.hid (fun y => text_nd (w := y.at_) none 0 0 [] rfl (BytesAt.nil _ _))
  refine region_overB w3.heap.size (Nat.le_refl _) [([], 0), ([1, 2, 3, 6], 4), ([], 5), ([], 7), ([8, 9, 10, 11, 12, 13, 14, 15, 16, 17, 18, 19, 20, 21, 22, 23, 24, 27], 25), ([], 26), ([], 28)] [29, 30] (by kernel_rfl) (by kernel_rfl) ?_
  rintro wd hbd
  rw [wpBl_cons]
  simp only [List.map_nil, opAt, List.getElem?_toArray, List.getElem?_cons_zero, Option.getD_some]
  refine wpQuiet_nil ?_
  go_wp2_with (go_at_call 12; refine (ndputs_any _).mono ?_; rintro e w5 ⟨rfl, hb5⟩)
  have HB5 := Lib.hid (hbd.trans (hb5.mono hbd.size))
  clear hbd hb5
  refine ⟨⟨⟨_, HB5.out⟩, rfl⟩, ?_⟩
  rw [wpBl_cons]
  simp only [List.map_cons, List.map_nil, opAt, List.getElem?_toArray, List.getElem?_cons_zero, List.getElem?_cons_succ, Option.getD_some]
  repeat (first
    | (go_big_quiet_want; refine quiet_load_row 26 (.tmp 1) rfl w.heap.size rfl 26 _ (0, 0) _ f1.out Try.underlying26 rfl (by kernel_rfl) ?_; simp only [Act.put, List.setIfInBounds_toArray, List.set_cons_zero, List.set_cons_succ]; go_big_quiet_on)
    | go_big_quiet_step (fail))
  refine wpQuiet_nil ?_
  go_wp2_with (go_at_call 10; refine (to_any n l _ (HN3.out.below HB5.out) HF.out.e HF.out.k HF.out.d).mono ?_; rintro e w6 ⟨l6, rfl, hn6, hb6⟩; have HN6 := Lib.hid hn6; have HB6 := Lib.hid (HB5.out.trans (hb6.mono HB5.out.size)); clear hn6 hb6)
  refine ⟨⟨⟨_, HB6.out⟩, rfl⟩, ?_⟩
  rw [wpBl_cons]
  simp only [List.map_nil, opAt, List.getElem?_toArray, List.getElem?_cons_zero, List.getElem?_cons_succ, Option.getD_some]
  refine wpQuiet_nil ?_
  go_wp2_with (go_at_call 13; refine (right_any n l6 false (IsB.mkF HNO.out) _ HN6.out).mono ?_; rintro e w7 ⟨rfl, hb7⟩; have HB7 := Lib.hid (HB6.out.trans (hb7.mono HB6.out.size)); clear hb7)
  refine ⟨⟨⟨_, HB7.out⟩, rfl⟩, ?_⟩
  rw [wpBl_cons]
  simp only [List.map_nil, opAt, List.getElem?_toArray, List.getElem?_cons_zero, List.getElem?_cons_succ, Option.getD_some]
  refine wpQuiet_nil ?_
  go_wp2_with (go_at_call 14; refine (refRight_any n l false (IsB.mkF HNO.out) _ (HN3.out.below HB7.out)).mono ?_; rintro e w8 ⟨rfl, hb8⟩; have HB8 := Lib.hid (HB7.out.trans (hb8.mono HB7.out.size)); clear hb8)
  refine ⟨⟨⟨_, HB8.out⟩, rfl⟩, ?_⟩
  rw [wpBl_cons]
  simp only [List.map_cons, List.map_nil, opAt, List.getElem?_toArray, List.getElem?_cons_zero, List.getElem?_cons_succ, Option.getD_some]
  have t2 := t1.out
  repeat (first
    | (go_big_quiet_want; refine quiet_load_row 26 (.tmp 1) rfl w.heap.size rfl 26 _ (0, 0) _ f1.out Try.underlying26 rfl (by kernel_rfl) ?_; simp only [Act.put, List.setIfInBounds_toArray, List.set_cons_zero, List.set_cons_succ]; go_big_quiet_on)
    | go_big_quiet_step (fail))
  refine wpQuiet_nil ?_
  go_wp2_with (go_at_call 10; refine (to_any n l _ (HN3.out.below HB8.out) HF.out.e HF.out.k HF.out.d).mono ?_; rintro e w9 ⟨l9, rfl, hn9, hb9⟩; have HN9 := Lib.hid hn9; have HB9 := Lib.hid (HB8.out.trans (hb9.mono HB8.out.size)); clear hn9 hb9)
  refine ⟨⟨⟨_, HB9.out⟩, rfl⟩, ?_⟩
  rw [wpBl_cons]
  simp only [List.map_nil, opAt, List.getElem?_toArray, List.getElem?_cons_zero, List.getElem?_cons_succ, Option.getD_some]
  refine wpQuiet_nil ?_
  go_wp2_with (go_at_call 15; refine (size_any n l9 _).mono ?_; rintro e w10 ⟨rfl, hb10⟩; have HB10 := Lib.hid (HB9.out.trans (hb10.mono HB9.out.size)); clear hb10)
  refine ⟨⟨⟨_, HB10.out⟩, rfl⟩, ?_⟩
  rw [wpBl_cons]
  simp only [List.map_nil, opAt, List.getElem?_toArray, List.getElem?_cons_zero, List.getElem?_cons_succ, Option.getD_some]
  refine wpQuiet_nil ?_
  go_wp2_with (go_at_call 16; refine (lsize_any n l _).mono ?_; rintro e w11 ⟨rfl, hb11⟩; have HB11 := Lib.hid (HB10.out.trans (hb11.mono HB10.out.size)); clear hb11)
  refine ⟨⟨⟨_, HB11.out⟩, rfl⟩, ?_⟩
  rw [wpBl_nil]
  simp only [List.map_cons, List.map_nil, opAt, List.getElem?_toArray, List.getElem?_cons_zero, List.getElem?_cons_succ, Option.getD_some]
  have heq := HEQ.out
  repeat (go_big_quiet_step (fail))
  refine wpQuiet_nil ?_
  clear heq
  go_wp2_with fail
  go_ret
  exact ⟨rfl, HW3.out.trans (HB11.out.mono HW3.out.size)⟩
end Go.Proofs.Ytgkddhncfaeidaa
