/- Several texts in one: take: a page to which a node may be written. slices.Chunk of entries: an iterator that tells parts of so many. -/
import Derived.Test.YtgkddhncfaeidaaPart14
import Derived.Test.YtgkddhncfaeidaaPart15
import Derived.Test.YtgkddhncfaeidaaPart18
import Derived.RangeFuncNested
import Derived.RangeFuncBound
import Derived.RangeFuncCalls
import Derived.RangeFuncLeaves
import Derived.RangeFuncBox
import Derived.Shelf.Abstract
import Derived.Shelf.RegionOpen
import Derived.WalkKit
import Derived.OwnWalkIn
import Derived.TacticsInMore
import Derived.LoopNIn
import Derived.LoopIn
import Derived.Test.YtgkddhncfaeidaaPart08
import Derived.Test.YtgkddhncfaeidaaPart05
set_option linter.unusedSimpArgs false
set_option linter.unusedVariables false
namespace Go.Proofs.Ytgkddhncfaeidaa
open Go.RowKit Go.ChangeShapes Go.WideShapes Go.ChangeAt CrcM PageM
set_option linter.unusedVariables false

theorem infoMapL (p : Int) {U : List Bool} (h : U.length = 512) : (Try.prog.info? 115).map (·.size) = some (mapL p U).length := by rw [mapL_len p h]; exact infoMap

set_option maxRecDepth 100000 in
set_option maxHeartbeats 4000000 in
theorem take_yes (gc gv p : Nat) (U V : List Bool) (lv : Value) (hU : U.length = 512) (hV : V.length = 512) (okU : okM (p : Int) U) (okV : okM (p : Int) V) (a : Nat) (hf : fits p U V 1 a) (hl : ∀ a', a' < a → ¬ fits p U V 1 a') (w : World) (h : ChgAt w gc gv (p : Int) U V lv) :
    Calls Try.prog 102 #[.pointer (some ⟨gc, 0, none⟩)] w fun e w' => e = .returned (.tuple #[.int .i64 (a : Int), .int .i64 0]) ∧ ChgAt w' gc gv (p : Int) (markN U a true 1) V lv ∧ OuterX (fun k => k = gc) w w' := by
  have H := Lib.hid h
  have HU := Lib.hid hU
  have HV := Lib.hid hV
  have HOU := Lib.hid okU
  have HOV := Lib.hid okV
  have HF := Lib.hid hf
  have HL := Lib.hid hl
  obtain ⟨U', hU'⟩ : ∃ U', U' = markN U a true 1 := ⟨_, rfl⟩
  have HU' : Hid (U'.length = 512) := Lib.hid (by rw [hU', length_markN]; exact hU)
  have HUE := Lib.hid hU'
  rw [← hU']
  have HT : Hid (∀ W : World, Calls Try.prog 109 #[.agg (mapL (p : Int) U).toArray, .agg (mapL (p : Int) V).toArray, .int .i64 1] W fun e w' => e = .returned (.tuple #[.agg (mapC (p : Int) U'), .int .i64 (a : Int), .int .i64 0]) ∧ Below W.heap.size W w') := Lib.hid (fun W => by
    refine (take_bm p U V hU hV okU okV 1 (by decide) W _ _ (mapL_arr _ _) (mapL_arr _ _)).mono ?_
    rintro e w' ⟨⟨b, hb, hbl, rfl⟩ | ⟨hn, _⟩, hbw⟩
    · have hab : b = a := by
        rcases Nat.lt_trichotomy b a with h1 | h1 | h1
        · exact absurd hb (hl b h1)
        · exact h1
        · exact absurd hf (hbl a h1)
      subst hab
      rw [hU']
      exact ⟨rfl, hbw⟩
    · exact absurd hf (hn a))
  clear hU' h hU hV okU okV hf hl
  obtain ⟨C, hC⟩ : ∃ C, C = mapC (p : Int) U' := ⟨_, rfl⟩
  have HC1 : Hid (C.size = 513) := Lib.hid (by rw [hC]; exact size_mapC HU'.out)
  have HC2 : Hid (C.all (·.oneCell') = true) := Lib.hid (by rw [hC]; exact one_mapC _ _)
  have HCL : Hid (C.toList = mapL (p : Int) U') := Lib.hid (by rw [hC]; rfl)
  rw [← hC] at HT
  clear hC
  go_enter Try.func102, Try.ntmps102
  go_upto_region 1 with fail
  have g1 : ∀ y : SubW w.heap.size w, y.at_.rangeAt gc 1 (mapL (p : Int) U) := fun y => (H.out.below y.ok_).cm
  have g2 : ∀ y : SubW w.heap.size w, y.at_.rangeAt gc 514 (mapL (p : Int) V) := fun y => (H.out.below y.ok_).cb HU.out
  refine region_ways4 w.heap.size (Nat.le_refl _) (.two [0, 1, 2, 3, 4, 5, 6, 7] 8 (.one [9, 10, 11, 12] 13 (.one [] 14 (.done [15, 16]))) 13 (.one [] 8 (.one [9, 10, 11, 12] 14 (.done [15, 16])))) (by kernel_rfl) (by kernel_rfl) ?_
  rintro wd hbd
  have B0 := Lib.hid hbd
  clear hbd
  rw [wpWays_two4]
  try simp only [List.map_cons, List.map_nil, opAt, List.getElem?_toArray, List.getElem?_cons_zero, List.getElem?_cons_succ, Option.getD_some]
  repeat (first
    | (go_big_quiet_want; refine quiet_load_mid 115 (.tmp 10) rfl gc 1 rfl (mapL (p : Int) U) _ g1 Try.underlying115 rfl (infoMapL _ HU.out) ?_; simp only [Act.put, List.setIfInBounds_toArray, List.set_cons_zero, List.set_cons_succ]; go_big_quiet_on)
    | (go_big_quiet_want; refine quiet_load_mid 115 (.tmp 14) rfl gc 514 rfl (mapL (p : Int) V) _ g2 Try.underlying115 rfl (infoMapL _ HV.out) ?_; simp only [Act.put, List.setIfInBounds_toArray, List.set_cons_zero, List.set_cons_succ]; go_big_quiet_on)
    | go_big_quiet_step (fail))
  clear g1 g2
  refine wpQuiet_nil ⟨?_, ?_⟩
  · go_wp2_with (go_at_call 109; refine (HT.out _).mono ?_; rintro e x1 ⟨rfl, hb1⟩; have B1 := Lib.hid (B0.out.trans (hb1.mono B0.out.size)); clear hb1)
    refine ⟨⟨⟨_, B1.out⟩, rfl⟩, ?_⟩
    try simp only [Act.put, List.setIfInBounds_toArray, List.set_cons_zero, List.set_cons_succ]
    rw [wpWays_one4]
    try simp only [List.map_cons, List.map_nil, opAt, List.getElem?_toArray, List.getElem?_cons_zero, List.getElem?_cons_succ, Option.getD_some]
    repeat (first
      | go_big_quiet_step (fail))
    refine wpQuiet_nil ?_
    go_wp2_with fail
    obtain ⟨gb, hgb⟩ : ∃ gb, gb = x1.heap.size := ⟨_, rfl⟩
    obtain ⟨x2, hx2⟩ : ∃ x2, x2 = x1.alloc (.cells (Try.zeroCells115) 115) := ⟨_, rfl⟩
    have G2 : Hid (x2.heap[gb]? = some (.cells (Try.zeroCells115) 115 (0, 0))) := Lib.hid (by rw [hx2, hgb]; exact heap_alloc_new _ _)
    have B2 := Lib.hid (B1.out.trans ((alloc_bel hx2).mono B1.out.size))
    have L2 : Hid (w.heap.size ≤ gb) := Lib.hid (by rw [hgb]; exact B1.out.size)
    rw [← hx2, ← hgb]
    clear hx2 hgb
    refine ⟨⟨⟨_, B2.out⟩, rfl⟩, ?_⟩
    try simp only [Act.put, List.setIfInBounds_toArray, List.set_cons_zero, List.set_cons_succ]
    rw [wpWays_one4]
    try simp only [List.map_cons, List.map_nil, opAt, List.getElem?_toArray, List.getElem?_cons_zero, List.getElem?_cons_succ, Option.getD_some]
    refine wpQuiet_nil ?_
    go_wp2_with (refine wpList_store_row rfl 115 (.tmp 4) (.tmp 17) rfl gb C rfl rfl 115 _ G2.out (by rw [HC1.out]; exact infoMap) (by rw [HC1.out]; exact size_zeroMap) HC2.out ?_)
    have B3 := Lib.hid (below_setRow B2.out L2.out C)
    have G3 := Lib.hid (setRow_heap _ gb _ C _ _ G2.out)
    refine ⟨⟨⟨_, B3.out⟩, rfl⟩, ?_⟩
    try simp only [Act.put, List.setIfInBounds_toArray, List.set_cons_zero, List.set_cons_succ]
    rw [wpWays_done4]
    try simp only [List.map_cons, List.map_nil, opAt, List.getElem?_toArray, List.getElem?_cons_zero, List.getElem?_cons_succ, Option.getD_some]
    repeat (first
      | go_big_quiet_step (fail))
    refine wpQuiet_nil ?_
    obtain ⟨x5, hx5⟩ : ∃ x5, x5 = World.setRow x2 gb C := ⟨_, rfl⟩
    rw [← hx5] at B3 G3 ⊢
    have HCG := Lib.hid (H.out.below B3.out)
    have HTH : Hid (x5.there gc 1 C.size) := Lib.hid (HCG.out.thM HU.out HV.out _ HC1.out)
    clear hx5
    go_wp2_with (first
      | (refine wpList_load_row rfl 115 (.tmp 4) rfl gb rfl 115 C (0, 0) _ G3.out Try.underlying115 rfl (by rw [HC1.out]; exact infoMap) ?_)
      | (refine wpList_store_mid rfl 115 (.tmp 44) (.tmp 42) rfl gc 1 C rfl rfl HTH.out (by rw [HC1.out]; exact infoMap) HC2.out ?_))
    go_ret2
    refine ⟨rfl, ?_, ?_⟩
    · rw [HCL.out]
      exact HCG.out.setM (by rw [HU'.out, HU.out])
    · exact (outerX_of_below B3.out).grown (grown_setCells gc _ _ _) (fun k hk => .inl (by cases hk; rfl))
  · go_wp2_with fail
    obtain ⟨gb, hgb⟩ : ∃ gb, gb = wd.heap.size := ⟨_, rfl⟩
    obtain ⟨x2, hx2⟩ : ∃ x2, x2 = wd.alloc (.cells (Try.zeroCells115) 115) := ⟨_, rfl⟩
    have G1 : Hid (x2.heap[gb]? = some (.cells (Try.zeroCells115) 115 (0, 0))) := Lib.hid (by rw [hx2, hgb]; exact heap_alloc_new _ _)
    have B1 := Lib.hid (B0.out.trans ((alloc_bel hx2).mono B0.out.size))
    have L2 : Hid (w.heap.size ≤ gb) := Lib.hid (by rw [hgb]; exact B0.out.size)
    rw [← hx2, ← hgb]
    clear hx2 hgb
    refine ⟨⟨⟨_, B1.out⟩, rfl⟩, ?_⟩
    try simp only [Act.put, List.setIfInBounds_toArray, List.set_cons_zero, List.set_cons_succ]
    rw [wpWays_one4]
    try simp only [List.map_cons, List.map_nil, opAt, List.getElem?_toArray, List.getElem?_cons_zero, List.getElem?_cons_succ, Option.getD_some]
    refine wpQuiet_nil ?_
    go_wp2_with (go_at_call 109; refine (HT.out _).mono ?_; rintro e x3 ⟨rfl, hb1⟩; have B2 := Lib.hid (B1.out.trans (hb1.mono B1.out.size)); have G2 := Lib.hid (row_stays G1.out hb1); clear hb1)
    refine ⟨⟨⟨_, B2.out⟩, rfl⟩, ?_⟩
    try simp only [Act.put, List.setIfInBounds_toArray, List.set_cons_zero, List.set_cons_succ]
    rw [wpWays_one4]
    try simp only [List.map_cons, List.map_nil, opAt, List.getElem?_toArray, List.getElem?_cons_zero, List.getElem?_cons_succ, Option.getD_some]
    repeat (first
      | go_big_quiet_step (fail))
    refine wpQuiet_nil ?_
    go_wp2_with (refine wpList_store_row rfl 115 (.tmp 4) (.tmp 17) rfl gb C rfl rfl 115 _ G2.out (by rw [HC1.out]; exact infoMap) (by rw [HC1.out]; exact size_zeroMap) HC2.out ?_)
    have B3 := Lib.hid (below_setRow B2.out L2.out C)
    have G3 := Lib.hid (setRow_heap _ gb _ C _ _ G2.out)
    refine ⟨⟨⟨_, B3.out⟩, rfl⟩, ?_⟩
    try simp only [Act.put, List.setIfInBounds_toArray, List.set_cons_zero, List.set_cons_succ]
    rw [wpWays_done4]
    try simp only [List.map_cons, List.map_nil, opAt, List.getElem?_toArray, List.getElem?_cons_zero, List.getElem?_cons_succ, Option.getD_some]
    repeat (first
      | go_big_quiet_step (fail))
    refine wpQuiet_nil ?_
    obtain ⟨x5, hx5⟩ : ∃ x5, x5 = World.setRow x3 gb C := ⟨_, rfl⟩
    rw [← hx5] at B3 G3 ⊢
    have HCG := Lib.hid (H.out.below B3.out)
    have HTH : Hid (x5.there gc 1 C.size) := Lib.hid (HCG.out.thM HU.out HV.out _ HC1.out)
    clear hx5
    go_wp2_with (first
      | (refine wpList_load_row rfl 115 (.tmp 4) rfl gb rfl 115 C (0, 0) _ G3.out Try.underlying115 rfl (by rw [HC1.out]; exact infoMap) ?_)
      | (refine wpList_store_mid rfl 115 (.tmp 44) (.tmp 42) rfl gc 1 C rfl rfl HTH.out (by rw [HC1.out]; exact infoMap) HC2.out ?_))
    go_ret2
    refine ⟨rfl, ?_, ?_⟩
    · rw [HCL.out]
      exact HCG.out.setM (by rw [HU'.out, HU.out])
    · exact (outerX_of_below B3.out).grown (grown_setCells gc _ _ _) (fun k hk => .inl (by cases hk; rfl))
end Go.Proofs.Ytgkddhncfaeidaa

namespace Go.Proofs.Ytgkddhncfaeidaa
open Go.RowKit Go.Shelf
set_option linter.unusedVariables false
attribute [local go_sem] Oper.semAt_some

/-- The parts that have come when k rounds are over: where each begins, and how many it has. -/
def chs (m len k : Nat) : List (Nat × Nat) := (List.range k).map fun i => (m * i, min m (len - m * i))
theorem chs_succ (m len k : Nat) : chs m len (k + 1) = chs m len k ++ [(m * k, min m (len - m * k))] := by simp [chs, List.range_succ]
theorem chs_length (m len k : Nat) : (chs m len k).length = k := by simp [chs]

def encCh (b off : Nat) (x : Nat × Nat) : Array Value := #[.slice (some ⟨b, off + x.1 * 8, none⟩) x.2 x.2]

/-- What a round keeps: what lay below n₀, and the two boxes. -/
def KpCh (n₀ Bs Bn : Nat) (sv : Value) (W W' : World) : Prop := Below n₀ W W' ∧ (Boxed W Bs 31 sv → Boxed W' Bs 31 sv) ∧ (Boxed W Bn 3 (.int .i64 7) → Boxed W' Bn 3 (.int .i64 7))
theorem KpCh.trans {n₀ Bs Bn : Nat} {sv : Value} {A B C : World} (h : KpCh n₀ Bs Bn sv A B) (k : KpCh n₀ Bs Bn sv B C) : KpCh n₀ Bs Bn sv A C := ⟨h.1.trans k.1, fun x => k.2.1 (h.2.1 x), fun x => k.2.2 (h.2.2 x)⟩

theorem abides_below {β : Type} {J : β → World → Prop} {B : Nat} (h : AbidesFrom B J) {s : β} {W W' : World} (hs : J s W) (hb : Below W.heap.size W W') : J s W' :=
  h s W W' none hs ⟨hb.os, hb.tape, hb.output, hb.size, fun k hk _ => hb.block k hk⟩ (fun r e => by cases e)
theorem boxed_below {W W' : World} {B : Nat} {t : TypeId} {v : Value} (h : Boxed W B t v) (hb : Below W.heap.size W W') : Boxed W' B t v := (hb.block B h.lt).trans h

set_option maxRecDepth 100000 in
set_option maxHeartbeats 4000000 in
theorem chunk1_in (n : Nat) (hn : 1 ≤ n) (l Bs Bn n₀ b off len cap : Nat) (A : Option Addr) (hA : 0 < len → A = some ⟨b, off, none⟩) (hlc : len ≤ cap) (hm : len ≤ 100000000) (hcm : cap ≤ maxLen) (J Jx : List (Nat × Nat) → World → Prop) (B0 : Nat) (hJ : AbidesFrom B0 J)
    (hY : ∀ pre x W, J pre W → pre.length < (len + 6) / 7 → YieldAt Fence.wide (n - 1) Try.prog l (encCh b off x) W fun e W' =>
      (e = .returned (.bool true) ∧ J (pre ++ [x]) W' ∧ KpCh n₀ Bs Bn (.slice A len cap) W W') ∨ (e = .returned (.bool false) ∧ Jx (pre ++ [x]) W'))
    (W : World) (hBs : Boxed W Bs 31 (.slice A len cap)) (hBn : Boxed W Bn 3 (.int .i64 7)) (h0 : J [] W) :
    CallsIn Fence.wide n Try.prog 103 #[.func (.yield l) #[] #[], .pointer (some ⟨Bs, 0, none⟩), .pointer (some ⟨Bn, 0, none⟩)] W fun e W' => (∃ v, e = .returned v) ∧
      ((∃ ys, ys = chs 7 len ((len + 6) / 7) ∧ J ys W') ∨ (∃ pre, (∃ k, k ≤ (len + 6) / 7 ∧ pre = chs 7 len k) ∧ Jx pre W')) := by
  have hro : Fence.wide.round = none := rfl
  refine callsIn_of_wp Try.func103 rfl trivial ?_ hro
  simp only [Try.ntmps103, List.size_toArray, List.length_cons, List.length_nil, Nat.reduceAdd, Nat.reduceSub, Array.replicate_succ, Array.replicate_zero, List.push_toArray, List.append_toArray, List.nil_append, List.cons_append]
  gi_wp2
  gi_loopw [4] (fun i wr => ∃ k : Nat, k ≤ (len + 6) / 7 ∧ i = .int .i64 ((7 * k : Nat) : Int) ∧ Hid (J (chs 7 len k) wr ∧ Boxed wr Bs 31 (.slice A len cap) ∧ Boxed wr Bn 3 (.int .i64 7)))
    (fun i _ => len + 7 - (intOf i).toNat)
  case atStart => exact ⟨0, Nat.zero_le _, rfl, Lib.hid ⟨h0, hBs, hBn⟩⟩
  case round =>
    obtain ⟨k, hk, rfl, HK⟩ := hrel
    have c1 := HK.out.2.1.cell
    have c2 := HK.out.2.2.cell
    by_cases hlt : 7 * k < len
    · obtain rfl := hA (by omega)
      obtain ⟨q, hq⟩ : ∃ q, min 7 (len - 7 * k) = q := ⟨_, rfl⟩
      have hlti : decide (((7 * k : Nat) : Int) < (len : Int)) = true := by simp; omega
      gi_wp2
      refine wpIn_wide.2 ?_
      refine region_below wr.heap.size wr (Below.refl _ _) (by kernel_rfl) (by kernel_rfl) ?_
      have g1 : ∀ y : SubW wr.heap.size wr, y.at_.cell? ⟨Bs, 0, none⟩ = some (.slice (some ⟨b, off, none⟩) len cap) := fun y => (boxed_below HK.out.2.1 y.ok_).cell
      have g2 : ∀ y : SubW wr.heap.size wr, y.at_.cell? ⟨Bn, 0, none⟩ = some (.int .i64 7) := fun y => (boxed_below HK.out.2.2 y.ok_).cell
      have hmq : min (7 : Int) ((len - 7 * k : Nat) : Int) = (q : Int) := by omega
      have hq1 : 7 * k + q ≤ cap := by omega
      repeat (go_big_quiet_step (fail))
      refine wpQuiet_nil ?_
      rintro w' ⟨y, rfl⟩
      have HY := Lib.hid y.ok_
      obtain ⟨fn, tmps, assign, body, hy, hR⟩ := hY (chs 7 len k) (7 * k, q) y.at_ (abides_below hJ HK.out.1 y.ok_) (by rw [chs_length]; omega)
      dsimp only [encCh] at hy
      have c3 := g1 y
      clear g1 g2
      have HBs := Lib.hid (boxed_below HK.out.2.1 HY.out)
      have HBn := Lib.hid (boxed_below HK.out.2.2 HY.out)
      have HS : Hid (chs 7 len k ++ [(7 * k, q)] = chs 7 len (k + 1)) := Lib.hid (by rw [chs_succ, hq])
      gi_wp2
      refine hR.mono ?_
      rintro e W3 (⟨rfl, hJ3, hk3⟩ | ⟨rfl, hJx3⟩)
      · have HB3 := Lib.hid (hk3.2.1 HBs.out)
        have HN3 := Lib.hid (hk3.2.2 HBn.out)
        have HJ3 := Lib.hid hJ3
        have c4 := HN3.out.cell
        clear hJ3 hk3 c1 c2 c3
        have hw7 : wrap64 (((7 * k : Nat) : Int) + 7) = ((7 * (k + 1) : Nat) : Int) := by unfold wrap64; omega
        gi_wp2
        go_roundw
        case rel => exact ⟨k + 1, by omega, rfl, Lib.hid ⟨by rw [← HS.out]; exact HJ3.out, HB3.out, HN3.out⟩⟩
        case measure => simp only [intOf]; omega
      · gi_wp2
        refine bodyPost_ret (results_none rfl _ _ _) rfl ?_
        exact ⟨⟨_, rfl⟩, .inr ⟨_, ⟨k + 1, by omega, HS.out⟩, hJx3⟩⟩
    · have hlti : decide (((7 * k : Nat) : Int) < (len : Int)) = false := by simp; omega
      have hke : k = (len + 6) / 7 := by omega
      gi_wp2
      go_end0
      exact ⟨⟨_, rfl⟩, .inl ⟨_, by rw [← hke], HK.out.1⟩⟩

set_option maxHeartbeats 1000000 in
theorem chunk_in (n : Nat) (A : Option Addr) (len cap : Nat) (w : World) :
    CallsIn Fence.wide n Try.prog 94 #[.slice A len cap, .int .i64 7] w fun e w' => e = .returned (.func (.func 103) #[] #[.pointer (some ⟨w.heap.size, 0, none⟩), .pointer (some ⟨w.heap.size + 1, 0, none⟩)]) ∧ w' = (w.alloc (.cells #[.slice A len cap] 31)).alloc (.cells #[.int .i64 7] 3) := by
  refine callsIn_of_wp Try.func94 rfl trivial ?_ rfl
  simp only [Try.ntmps94, List.size_toArray, List.length_cons, List.length_nil, Nat.reduceAdd, Nat.reduceSub, Array.replicate_succ, Array.replicate_zero, List.push_toArray, List.append_toArray, List.nil_append, List.cons_append]
  gi_wp2
  go_ret
  exact ⟨rfl, rfl⟩

theorem chunk_stops (n : Nat) (hn : 1 ≤ n) (Bs Bn n₀ b off len cap : Nat) (A : Option Addr) (hA : 0 < len → A = some ⟨b, off, none⟩) (hlc : len ≤ cap) (hm : len ≤ 100000000) (hcm : cap ≤ maxLen) (w : World)
    (hBs : Boxed w Bs 31 (.slice A len cap)) (hBn : Boxed w Bn 3 (.int .i64 7)) :
    SeqStopsK Fence.wide n Try.prog 103 #[.pointer (some ⟨Bs, 0, none⟩), .pointer (some ⟨Bn, 0, none⟩)] (encCh b off) (KpCh n₀ Bs Bn (.slice A len cap)) (fun ys => ys = chs 7 len ((len + 6) / 7))
      (fun pre => ∃ k, k ≤ (len + 6) / 7 ∧ pre = chs 7 len k) ((len + 6) / 7) w := fun l J Jx W hW hJ _ hY h0 =>
  chunk1_in n hn l Bs Bn n₀ b off len cap A hA hlc hm hcm J Jx _ hJ hY W (boxed_below hBs hW) (boxed_below hBn hW) h0
end Go.Proofs.Ytgkddhncfaeidaa
