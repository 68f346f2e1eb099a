/- Several texts in one: append to a row of elements of whatever size, of a row, or of so many noughts to no row. No program is named here. slices.Clone, Grow of no row, Concat of two rows, of entries, of keys and of numbers. Package node's Join: two rows side by side. Package node's halves: two parts of a node, of the same memory. Package node's clone: a node whose rows are one's own. What Split's parts are: plain mathematics. Package node's Split: no part, one, or the parts of both halves. Package node's Split of whatever node. -/
import Derived.Test.YtgkddhncfaeidaaNdZ
import Derived.Maps.AppendAt
import Derived.Lib.AppendZeros
import Derived.Test.YtgkddhncfaeidaaNdTo
import Derived.Lib.SliceRun
import Derived.Test.YtgkddhncfaeidaaNpW
namespace Go.Proofs.Ytgkddhncfaeidaa
open Go.RowKit
set_option linter.unusedVariables false
section
variable {P : Program} {w w2 : World} {base sz n : Nat} {E : TypeId} {us vs : List Value}

theorem row_cases {v : Value} (h : w.ownsRow base E sz v n us) : (v = .slice none 0 0 ∧ n = 0 ∧ us = []) ∨ ∃ g cap, v = .slice (some ⟨g, 0, none⟩) n cap ∧ base ≤ g ∧ n ≤ cap ∧ cap ≤ maxLen := by
  have hl := h.1
  rcases h.2 with ⟨h1, h2⟩ | ⟨g, cap, cur, hv, hb, hh, h3, h4, _⟩
  · subst h2
    rw [Nat.zero_mul] at hl
    exact .inl ⟨h1, rfl, List.eq_nil_of_length_eq_zero hl⟩
  · exact .inr ⟨g, cap, hv, hb, h3, h4⟩
theorem run_append_row (t ty : TypeId) (ht : P.underlying t = some (.slice E)) (z : Value) (bytes : Nat) (hi : (P.info? E).map (fun i => (i.zero, i.size, i.bytes)) = some (some z, sz, bytes)) (hz1 : z.cells.size = sz) (hsz : 0 < sz)
    {v : Value} (hown : w.ownsRow base E sz v n us) (A : Option Addr) (c m : Nat) (hm : vs.length = m * sz) (hA : CellsAt w A vs) (h1 : ∀ u ∈ vs, u.oneCell' = true) (hl : (n + m) * bytes ≤ 140737488355328) (h63 : n + m ≤ maxLen) (hbase : base ≤ w.heap.size) :
    ∃ A' c' w', (Builtin.append_ #[t, t] ty #[v, .slice A m c]).run P w = .ok (.slice A' (n + m) c') w' ∧ w'.ownsRow base E sz (.slice A' (n + m) c') (n + m) (us ++ vs) ∧ w.grownBy w' v.ownBlock := by
  obtain ⟨i, hi0, hz, hs, hb⟩ := info_parts hi
  by_cases hy : vs = []
  · subst hy
    have hm0 : m = 0 := by
      have : m * sz = 0 := by simpa using hm.symm
      rcases Nat.mul_eq_zero.1 this with h | h
      · exact h
      · omega
    subst hm0
    rcases row_cases hown with ⟨rfl, rfl, rfl⟩ | ⟨g, cap, rfl, h2, h3, h4⟩
    · refine ⟨none, 0, w, ?_, by simpa using World.ownsRow_nil w base E sz, World.grownBy.refl w _⟩
      cases A <;> simp [Builtin.append_, run_underlying ht, sizeOf, typeInfo, hi0, Builtin.lenOf, Builtin.firstCells, loadCells, loadCellsFrom]
    · refine ⟨some ⟨g, 0, none⟩, cap, w, ?_, by simpa using hown, World.grownBy.refl w _⟩
      cases A <;> simp [Builtin.append_, run_underlying ht, sizeOf, typeInfo, hi0, Builtin.lenOf, Builtin.firstCells, h3, storeCells, loadCells, loadCellsFrom]
  · obtain ⟨ad, rfl, hc⟩ := hA.cells hy
    obtain ⟨v', w', hr, h2, h3, _, _⟩ := run_append_own_at (P := P) w base t ty E i z sz bytes ht hi0 hz hs hb hz1 hsz v n us hown ad m c vs hm hc h1 h63 hl hbase
    rcases row_cases h2 with ⟨_, _, h4⟩ | ⟨g', cap', rfl, _⟩
    · exact absurd (List.append_eq_nil_iff.1 h4).2 hy
    · exact ⟨_, cap', w', hr, h2, h3⟩
theorem wpList_append_row {ops : Array Oper} {rest : List Oper} {o : Oper} {a : Act} {Q : Exit → Act → World → Prop} (hgd : o.guard = none) (s x : Operand) (t : TypeId)
    (ho : o.op = .call { callee := .builtin .append, args := #[s, x], argTypes := #[t, t] }) (ht : P.underlying t = some (.slice E)) (z : Value) (bytes : Nat) (hi : (P.info? E).map (fun i => (i.zero, i.size, i.bytes)) = some (some z, sz, bytes)) (hz1 : z.cells.size = sz) (hsz : 0 < sz)
    (v : Value) (hs : a.eval s = v) (hown : w.ownsRow base E sz v n us) (A : Option Addr) (c m : Nat) (hx : a.eval x = .slice A m c) (hm : vs.length = m * sz) (hA : CellsAt w A vs) (h1 : ∀ u ∈ vs, u.oneCell' = true)
    (hl : (n + m) * bytes ≤ 140737488355328) (h63 : n + m ≤ maxLen) (hbase : base ≤ w.heap.size) (k : Nat) (hk : n + m = k) (zs : List Value) (hzs : us ++ vs = zs)
    (h : ∀ A' c' w', w'.ownsRow base E sz (.slice A' k c') k zs → w.grownBy w' v.ownBlock → wpList P ops Q rest (a.put o.dst (.slice A' k c')) w') : wpList P ops Q (o :: rest) a w :=
  wpList_plain hgd fun _ hK => by
    subst hk hzs
    obtain ⟨A', c', w', hr, h2, h3⟩ := run_append_row (P := P) t o.type ht z bytes hi hz1 hsz hown A c m hm hA h1 hl h63 hbase
    unfold Oper.wp execOp
    simp only [ho, resolve, invoke, builtin, Sem.run_bind, Sem.run_pure, Result.andThen_ok, List.map_toArray, List.map_cons, List.map_nil, hs, hx, hr]
    exact hK _ _ (h A' c' w' h2 h3)
/-- append(nil, make(..)...): a row with room for so many. -/
theorem run_append_room (t tn ty : TypeId) (ht : P.underlying t = some (.slice E)) (k kn : IntKind) (htn : P.underlying tn = some (.int kn)) (z : Value) (bytes : Nat) (hi : (P.info? E).map (fun i => (i.zero, i.size, i.bytes)) = some (some z, sz, bytes)) (hz1 : z.cells.size = sz) (hsz : 0 < sz)
    (m : Nat) (h0 : 0 < m) (hl : m * bytes ≤ 140737488355328) (hm : m ≤ 140737488355328) (hby : 0 < bytes) :
    ∃ c' w', (Builtin.append_ #[t, tn] ty #[.slice none 0 0, .int k m]).run P w = .ok (.slice (some ⟨w.heap.size, 0, none⟩) m c') w' ∧ w'.ownsRow w.heap.size E sz (.slice (some ⟨w.heap.size, 0, none⟩) 0 c') 0 [] ∧ m ≤ c' ∧ Below w.heap.size w w' := by
  obtain ⟨i, hi0, hz, hs, hb⟩ := info_parts hi
  have hw : IntKind.i64.wrap (m : Int) = m := by rw [IntKind.wrap_i64]; omega
  have hneg : ¬ ((m : Int) < 0) := by omega
  have hbig : ¬ ((281474976710656 : Int) < (m : Int)) := by omega
  have hm0 : ¬ m = 0 := by omega
  have h63' : ¬ (9223372036854775807 < (m : Int)) := by omega
  have h48' : ¬ (281474976710656 < Builtin.nextslicecap m 0 * bytes) := by
    have := growslice_fits (need := m) (old := 0) (bytes := bytes) (by omega) (by omega)
    omega
  have hmb : ¬ ((281474976710656 : Int) < (m : Int) * (bytes : Int)) := by
    have : ((m * bytes : Nat) : Int) = (m : Int) * (bytes : Int) := by simp
    omega
  have hms : ¬ m * sz = 0 := by
    have := Nat.mul_pos h0 hsz
    omega
  have hsz0 : ¬ sz = 0 := by omega
  have hge := grownCap_ge w m 0 E
  have hcm2 : grownCap w m 0 E ≤ maxLen := grownCap_le_maxLen w m 0 E (by unfold maxLen; omega)
  refine ⟨grownCap w m 0 E, w.drew.alloc (.cells (Builtin.zeroCells z.cells m ++ Builtin.zeroCells z.cells (grownCap w m 0 E - m)) E), ?_, ?_, hge, ?_⟩
  · simp [Builtin.append_, run_underlying ht, run_underlying htn, sizeOf, typeInfo, zeroValue, hi0, hz, hs, hb, asInt, asIntOf, hw, hneg, hm0, hmb, hms, h63', h48', Question.forced, newRow, grownCap, Builtin.firstCells]
  · refine ⟨by simp, .inr ⟨w.heap.size, _, _, rfl, Nat.le_refl _, heap_alloc_new w.drew _, by omega, hcm2, ?_, by simp⟩⟩
    rw [Array.size_append, size_zeroCells, size_zeroCells, hz1, ← Nat.add_mul]
    congr 1
    omega
  · exact ⟨rfl, rfl, rfl, by simp, fun k hk => heap_alloc_old w.drew _ hk⟩
end
end Go.Proofs.Ytgkddhncfaeidaa

namespace Go.Proofs.Ytgkddhncfaeidaa
open Go.ChangeShapes Go.WideShapes Go.ChangeAt Go.RowKit CrcM PageM
set_option linter.unusedVariables false

set_option maxRecDepth 100000 in
theorem clone_ent (A : Option Addr) (n c : Nat) (us : List Value) (hn : us.length = n * 8) (h1 : ∀ u ∈ us, u.oneCell' = true) (hl : n * 64 ≤ 140737488355328) (hc : n ≤ c) (hm : c ≤ maxLen) (w : World) (hA : CellsAt w A us) :
    Calls Try.prog 66 #[.slice A n c] w fun e w' => ∃ A' c', e = .returned (.slice A' n c') ∧ w'.ownsRow w.heap.size 77 8 (.slice A' n c') n us ∧ Below w.heap.size w w' := by
  cases A with
  | none =>
    have hus : us = [] := by
      rcases hu : us with _ | ⟨u, r⟩
      · rfl
      · obtain ⟨b, off, h, _⟩ := hA (by rw [hu]; simp)
        cases h
    subst hus
    have hn0 : n = 0 := by simp at hn; omega
    subst hn0
    clear hn hA
    have e1 : ∀ W, (binOp .eql 31 (.slice none 0 c) (.slice none 0 0)).run Try.prog W = .ok (.bool true) W := fun W => Lib.run_eql_slice_nil W _ _ none 0 c 0 0 Try.underlying31
    go_enter Try.func66, Try.ntmps66
    go_wp2_with fail
    go_ret
    exact ⟨none, 0, rfl, World.ownsRow_nil w _ _ _, Below.refl _ _⟩
  | some ad =>
    have HN := Lib.hid hn
    have HL := Lib.hid hl
    have H1 := Lib.hid h1
    have HA := Lib.hid hA
    have HM : Hid (n ≤ maxLen) := Lib.hid (Nat.le_trans hc hm)
    clear hn hl h1 hA hc hm
    have HB : Hid (Below w.heap.size w (w.alloc (.cells #[] 77))) := Lib.hid ((Below.refl _ _).alloc (Nat.le_refl _) _)
    have HO : Hid ((w.alloc (.cells #[] 77)).ownsRow w.heap.size 77 8 (.slice (some ⟨w.heap.size, 0, none⟩) 0 0) 0 []) := Lib.hid ⟨rfl, .inr ⟨w.heap.size, 0, #[], rfl, Nat.le_refl _, heap_alloc_new _ _, Nat.le_refl _, by unfold maxLen; omega, rfl, rfl⟩⟩
    have e1 : ∀ W, (binOp .eql 31 (.slice (some ad) n c) (.slice none 0 0)).run Try.prog W = .ok (.bool false) W := fun W => Lib.run_eql_slice_nil W _ _ (some ad) n c 0 0 Try.underlying31
    go_enter Try.func66, Try.ntmps66
    go_wp2_with (at_builtin; refine wpList_append_row rfl (.tmp 5) (.tmp 6) 31 rfl Try.underlying31 (.agg #[.int .i64 0, .int .i64 0, .int .i64 0, .int .i64 0, .int .i64 0, .int .i64 0, .int .i64 0, .int .u32 0]) 64 infoEnt_to_any (by rfl) (by decide) _ rfl HO.out (some ad) c n rfl HN.out (HA.out.below HB.out) H1.out (by have := HL.out; omega) (by have := HM.out; omega) HB.out.size n (Nat.zero_add n) us (by rfl) ?_; intro A' c' w' ho hg; have HO2 := Lib.hid ho; have HG2 := Lib.hid hg; clear ho hg)
    go_ret
    exact ⟨A', c', rfl, HO2.out, HB.out.grown HG2.out HB.out.size (fun k hk => by injection hk with hk; exact Nat.le_of_eq hk)⟩
set_option maxRecDepth 100000 in
theorem grow_ent (m : Nat) (hl : m * 64 ≤ 140737488355328) (w : World) :
    Calls Try.prog 69 #[.slice none 0 0, .int .i64 (m : Int)] w fun e w' => ∃ A c, e = .returned (.slice A 0 c) ∧ w'.ownsRow w.heap.size 77 8 (.slice A 0 c) 0 [] ∧ Below w.heap.size w w' := by
  rcases Nat.eq_zero_or_pos m with h0 | h0
  · subst h0
    go_enter Try.func69, Try.ntmps69
    go_wp2_with fail
    go_ret
    exact ⟨none, 0, rfl, World.ownsRow_nil w _ _ _, Below.refl _ _⟩
  · have HL := Lib.hid hl
    have p1 : ¬ ((m : Int) < 0) := by omega
    have p2 : (0 : Int) < (m : Int) := by omega
    have p3 : decide ((m : Int) < 0) = false := by simp
    have p4 : decide ((0 : Int) < (m : Int)) = true := by simp; omega
    have p5 : wrap64 (m : Int) = (m : Int) := by unfold wrap64; omega
    obtain ⟨cg, wg, hr, ho, hcg, hb⟩ := run_append_room (P := Try.prog) (w := w) 31 3 31 Try.underlying31 .i64 .i64 Try.underlying3 (.agg #[.int .i64 0, .int .i64 0, .int .i64 0, .int .i64 0, .int .i64 0, .int .i64 0, .int .i64 0, .int .u32 0]) 64 infoEnt_to_any (by rfl) (by decide) m h0 hl (by omega) (by decide)
    have HO := Lib.hid ho
    have HB := Lib.hid hb
    have hr' := hr
    rw [← p5] at hr'
    have HR := Lib.hid hr'
    clear ho hb hr hr' hl
    go_enter Try.func69, Try.ntmps69
    go_wp2_with (at_builtin; refine Lib.wpList_append_run w rfl (.tmp 20) (.tmp 21) 31 3 rfl (.slice none 0 0) (.int .i64 (wrap64 (m : Int))) rfl rfl _ _ HR.out ?_)
    go_ret
    exact ⟨_, cg, rfl, HO.out, HB.out⟩
set_option maxRecDepth 100000 in
set_option maxHeartbeats 4000000 in
theorem concat_ent (g : Nat) (A1 A2 : Option Addr) (n1 c1 n2 c2 N : Nat) (hN : n1 + n2 = N) (us1 us2 : List Value) (l1 : us1.length = n1 * 8) (l2 : us2.length = n2 * 8) (o1 : ∀ u ∈ us1, u.oneCell' = true) (o2 : ∀ u ∈ us2, u.oneCell' = true) (hl : N * 64 ≤ 140737488355328) (w : World)
    (hg : w.heap[g]? = some (.cells #[.slice A1 n1 c1, .slice A2 n2 c2] 31 (0, 0))) (hA1 : CellsAt w A1 us1) (hA2 : CellsAt w A2 us2) :
    Calls Try.prog 49 #[.slice (some ⟨g, 0, none⟩) 2 2] w fun e w' => ∃ A c, e = .returned (.slice A N c) ∧ w'.ownsRow w.heap.size 77 8 (.slice A N c) N (us1 ++ us2) ∧ Below w.heap.size w w' := by
  have HG := Lib.hid hg
  have HA1 := Lib.hid hA1
  have HA2 := Lib.hid hA2
  have L1 := Lib.hid l1
  have L2 := Lib.hid l2
  have O1 := Lib.hid o1
  have O2 := Lib.hid o2
  have HL := Lib.hid hl
  have HN := Lib.hid hN
  have e0 : w.cell? ⟨g, 0, none⟩ = some (.slice A1 n1 c1) := nd_cell hg 0 _ rfl
  have e1 : w.cell? ⟨g, 1, none⟩ = some (.slice A2 n2 c2) := nd_cell hg 1 _ rfl
  have hgl := (Array.getElem?_eq_some_iff.1 hg).1
  have q1 : wrap64 ((0 : Int) + (n1 : Int)) = (n1 : Int) := by unfold wrap64; omega
  have q2 : wrap64 ((n1 : Int) + (n2 : Int)) = (N : Int) := by unfold wrap64; omega
  have q3 : decide ((n1 : Int) < 0) = false := by simp
  have q4 : decide ((N : Int) < 0) = false := by simp
  have Q1 := Lib.hid q1
  have Q2 := Lib.hid q2
  clear hg hA1 hA2 l1 l2 o1 o2 hl hN q1 q2
  go_enter Try.func49, Try.ntmps49
  go_upto_region 3 with fail
  go_loopw [11, 3] (fun i s wr => ∃ k z : Nat, k ≤ 2 ∧ i = .int .i64 k ∧ s = .int .i64 (z : Int) ∧ w = wr ∧ Hid (k = 0 ∧ 0 = z ∨ k = 1 ∧ n1 = z ∨ k = 2 ∧ N = z)) (fun i _ _ => 2 - (intOf i).toNat)
  case atStart => exact ⟨0, 0, by omega, rfl, rfl, rfl, Lib.hid (.inl ⟨rfl, rfl⟩)⟩
  case round =>
    obtain ⟨k, z, hk, rfl, rfl, rfl, hcase⟩ := hrel
    obtain ⟨rfl, rfl⟩ | ⟨rfl, rfl⟩ | ⟨rfl, rfl⟩ := hcase.out
    · have q1 := Q1.out
      have q1' : wrap64 (n1 : Int) = (n1 : Int) := by have := HL.out; have := HN.out; unfold wrap64; omega
      go_wp2_with fail
      go_roundw
      case rel => exact ⟨1, n1, by omega, by go_num, by go_num, (by first | rfl | trivial), Lib.hid (.inr (.inl ⟨rfl, rfl⟩))⟩
      case measure => first | (simp [intOf]; done) | (simp [intOf]; omega)
    · have q2 := Q2.out
      have q2' : wrap64 (N : Int) = (N : Int) := by have := HL.out; unfold wrap64; omega
      go_wp2_with fail
      go_roundw
      case rel => exact ⟨2, N, by omega, by go_num, by go_num, (by first | rfl | trivial), Lib.hid (.inr (.inr ⟨rfl, rfl⟩))⟩
      case measure => first | (simp [intOf]; done) | (simp [intOf]; omega)
    · go_upto_region 11 with (go_at_call 69; refine (grow_ent _ HL.out _).mono ?_; rintro e w1 ⟨A, c, rfl, ho1, hb1⟩; have HO1 := Lib.hid ho1; have HB1 := Lib.hid hb1; clear ho1 hb1)
      clear e0 e1 hcase q3 q4
      go_loopw [27, 6] (fun i s wr => ∃ (k z : Nat) (A : Option Addr) (c : Nat) (us : List Value), k ≤ 2 ∧ i = .int .i64 k ∧ s = .slice A z c ∧ Hid (Below wr.heap.size wr wr ∧ Below w.heap.size w wr ∧ wr.ownsRow w.heap.size 77 8 (.slice A z c) z us) ∧ Hid (k = 0 ∧ 0 = z ∧ [] = us ∨ k = 1 ∧ n1 = z ∧ us1 = us ∨ k = 2 ∧ N = z ∧ us1 ++ us2 = us)) (fun i _ _ => 2 - (intOf i).toNat)
      case atStart => exact ⟨0, 0, A, c, [], by omega, rfl, rfl, Lib.hid ⟨Below.refl _ _, HB1.out, HO1.out⟩, Lib.hid (.inl ⟨rfl, rfl, rfl⟩)⟩
      case round =>
        obtain ⟨k, z, A', c', us, hk, rfl, rfl, HW, hcase⟩ := hrel
        have f0 := (HW.out.2.1.cell (p := ⟨g, 0, none⟩) hgl).trans (nd_cell HG.out 0 _ rfl)
        have f1 := (HW.out.2.1.cell (p := ⟨g, 1, none⟩) hgl).trans (nd_cell HG.out 1 _ rfl)
        simp only [List.getElem_toArray, List.getElem_cons_zero, List.getElem_cons_succ] at f0 f1
        obtain ⟨rfl, rfl, rfl⟩ | ⟨rfl, rfl, rfl⟩ | ⟨rfl, rfl, rfl⟩ := hcase.out
        · go_wp2_with (at_builtin; refine wpList_append_row rfl (.tmp 31) (.tmp 32) 31 rfl Try.underlying31 (.agg #[.int .i64 0, .int .i64 0, .int .i64 0, .int .i64 0, .int .i64 0, .int .i64 0, .int .i64 0, .int .u32 0]) 64 infoEnt_to_any (by rfl) (by decide) _ rfl HW.out.2.2 A1 c1 n1 rfl L1.out (HA1.out.below HW.out.2.1) O1.out (by have := HL.out; have := HN.out; omega) (by have := HL.out; have := HN.out; unfold maxLen; omega) HW.out.2.1.size n1 (Nat.zero_add n1) us1 (by rfl) ?_; intro A3 c3 w3 ho hgr; have HO3 := Lib.hid ho; have HG3 := Lib.hid hgr; clear ho hgr)
          go_roundw
          case rel => exact ⟨1, n1, A3, c3, us1, by omega, by go_num, rfl, Lib.hid ⟨Below.refl _ _, HW.out.2.1.grown HG3.out HW.out.2.1.size (fun k hk => (World.ownsRow.lt HW.out.2.2 k hk).1), HO3.out⟩, Lib.hid (.inr (.inl ⟨rfl, rfl, rfl⟩))⟩
          case measure => first | (simp [intOf]; done) | (simp [intOf]; omega)
        · go_wp2_with (at_builtin; refine wpList_append_row rfl (.tmp 31) (.tmp 32) 31 rfl Try.underlying31 (.agg #[.int .i64 0, .int .i64 0, .int .i64 0, .int .i64 0, .int .i64 0, .int .i64 0, .int .i64 0, .int .u32 0]) 64 infoEnt_to_any (by rfl) (by decide) _ rfl HW.out.2.2 A2 c2 n2 rfl L2.out (HA2.out.below HW.out.2.1) O2.out (by have := HL.out; have := HN.out; omega) (by have := HL.out; have := HN.out; unfold maxLen; omega) HW.out.2.1.size N HN.out _ rfl ?_; intro A3 c3 w3 ho hgr; have HO3 := Lib.hid ho; have HG3 := Lib.hid hgr; clear ho hgr)
          go_roundw
          case rel => exact ⟨2, N, A3, c3, _, by omega, by go_num, rfl, Lib.hid ⟨Below.refl _ _, HW.out.2.1.grown HG3.out HW.out.2.1.size (fun k hk => (World.ownsRow.lt HW.out.2.2 k hk).1), HO3.out⟩, Lib.hid (.inr (.inr ⟨rfl, rfl, rfl⟩))⟩
          case measure => first | (simp [intOf]; done) | (simp [intOf]; omega)
        · go_wp2_with fail
          go_ret
          exact ⟨A', c', rfl, HW.out.2.2, HW.out.2.1⟩

set_option maxRecDepth 100000 in
theorem clone_key (A : Option Addr) (n c : Nat) (us : List Value) (hn : us.length = n * 2) (h1 : ∀ u ∈ us, u.oneCell' = true) (hl : n * 16 ≤ 140737488355328) (hc : n ≤ c) (hm : c ≤ maxLen) (w : World) (hA : CellsAt w A us) :
    Calls Try.prog 67 #[.slice A n c] w fun e w' => ∃ A' c', e = .returned (.slice A' n c') ∧ w'.ownsRow w.heap.size 46 2 (.slice A' n c') n us ∧ Below w.heap.size w w' := by
  cases A with
  | none =>
    have hus : us = [] := by
      rcases hu : us with _ | ⟨u, r⟩
      · rfl
      · obtain ⟨b, off, h, _⟩ := hA (by rw [hu]; simp)
        cases h
    subst hus
    have hn0 : n = 0 := by simp at hn; omega
    subst hn0
    clear hn hA
    have e1 : ∀ W, (binOp .eql 32 (.slice none 0 c) (.slice none 0 0)).run Try.prog W = .ok (.bool true) W := fun W => Lib.run_eql_slice_nil W _ _ none 0 c 0 0 Try.underlying32
    go_enter Try.func67, Try.ntmps67
    go_wp2_with fail
    go_ret
    exact ⟨none, 0, rfl, World.ownsRow_nil w _ _ _, Below.refl _ _⟩
  | some ad =>
    have HN := Lib.hid hn
    have HL := Lib.hid hl
    have H1 := Lib.hid h1
    have HA := Lib.hid hA
    have HM : Hid (n ≤ maxLen) := Lib.hid (Nat.le_trans hc hm)
    clear hn hl h1 hA hc hm
    have HB : Hid (Below w.heap.size w (w.alloc (.cells #[] 46))) := Lib.hid ((Below.refl _ _).alloc (Nat.le_refl _) _)
    have HO : Hid ((w.alloc (.cells #[] 46)).ownsRow w.heap.size 46 2 (.slice (some ⟨w.heap.size, 0, none⟩) 0 0) 0 []) := Lib.hid ⟨rfl, .inr ⟨w.heap.size, 0, #[], rfl, Nat.le_refl _, heap_alloc_new _ _, Nat.le_refl _, by unfold maxLen; omega, rfl, rfl⟩⟩
    have e1 : ∀ W, (binOp .eql 32 (.slice (some ad) n c) (.slice none 0 0)).run Try.prog W = .ok (.bool false) W := fun W => Lib.run_eql_slice_nil W _ _ (some ad) n c 0 0 Try.underlying32
    go_enter Try.func67, Try.ntmps67
    go_wp2_with (at_builtin; refine wpList_append_row rfl (.tmp 5) (.tmp 6) 32 rfl Try.underlying32 (.agg #[.int .i64 0, .int .i64 0]) 16 infoKey_to_any (by rfl) (by decide) _ rfl HO.out (some ad) c n rfl HN.out (HA.out.below HB.out) H1.out (by have := HL.out; omega) (by have := HM.out; omega) HB.out.size n (Nat.zero_add n) us (by rfl) ?_; intro A' c' w' ho hg; have HO2 := Lib.hid ho; have HG2 := Lib.hid hg; clear ho hg)
    go_ret
    exact ⟨A', c', rfl, HO2.out, HB.out.grown HG2.out HB.out.size (fun k hk => by injection hk with hk; exact Nat.le_of_eq hk)⟩
set_option maxRecDepth 100000 in
theorem grow_key (m : Nat) (hl : m * 16 ≤ 140737488355328) (w : World) :
    Calls Try.prog 70 #[.slice none 0 0, .int .i64 (m : Int)] w fun e w' => ∃ A c, e = .returned (.slice A 0 c) ∧ w'.ownsRow w.heap.size 46 2 (.slice A 0 c) 0 [] ∧ Below w.heap.size w w' := by
  rcases Nat.eq_zero_or_pos m with h0 | h0
  · subst h0
    go_enter Try.func70, Try.ntmps70
    go_wp2_with fail
    go_ret
    exact ⟨none, 0, rfl, World.ownsRow_nil w _ _ _, Below.refl _ _⟩
  · have HL := Lib.hid hl
    have p1 : ¬ ((m : Int) < 0) := by omega
    have p2 : (0 : Int) < (m : Int) := by omega
    have p3 : decide ((m : Int) < 0) = false := by simp
    have p4 : decide ((0 : Int) < (m : Int)) = true := by simp; omega
    have p5 : wrap64 (m : Int) = (m : Int) := by unfold wrap64; omega
    obtain ⟨cg, wg, hr, ho, hcg, hb⟩ := run_append_room (P := Try.prog) (w := w) 32 3 32 Try.underlying32 .i64 .i64 Try.underlying3 (.agg #[.int .i64 0, .int .i64 0]) 16 infoKey_to_any (by rfl) (by decide) m h0 hl (by omega) (by decide)
    have HO := Lib.hid ho
    have HB := Lib.hid hb
    have hr' := hr
    rw [← p5] at hr'
    have HR := Lib.hid hr'
    clear ho hb hr hr' hl
    go_enter Try.func70, Try.ntmps70
    go_wp2_with (at_builtin; refine Lib.wpList_append_run w rfl (.tmp 20) (.tmp 21) 32 3 rfl (.slice none 0 0) (.int .i64 (wrap64 (m : Int))) rfl rfl _ _ HR.out ?_)
    go_ret
    exact ⟨_, cg, rfl, HO.out, HB.out⟩
set_option maxRecDepth 100000 in
set_option maxHeartbeats 4000000 in
theorem concat_key (g : Nat) (A1 A2 : Option Addr) (n1 c1 n2 c2 N : Nat) (hN : n1 + n2 = N) (us1 us2 : List Value) (l1 : us1.length = n1 * 2) (l2 : us2.length = n2 * 2) (o1 : ∀ u ∈ us1, u.oneCell' = true) (o2 : ∀ u ∈ us2, u.oneCell' = true) (hl : N * 16 ≤ 140737488355328) (w : World)
    (hg : w.heap[g]? = some (.cells #[.slice A1 n1 c1, .slice A2 n2 c2] 32 (0, 0))) (hA1 : CellsAt w A1 us1) (hA2 : CellsAt w A2 us2) :
    Calls Try.prog 50 #[.slice (some ⟨g, 0, none⟩) 2 2] w fun e w' => ∃ A c, e = .returned (.slice A N c) ∧ w'.ownsRow w.heap.size 46 2 (.slice A N c) N (us1 ++ us2) ∧ Below w.heap.size w w' := by
  have HG := Lib.hid hg
  have HA1 := Lib.hid hA1
  have HA2 := Lib.hid hA2
  have L1 := Lib.hid l1
  have L2 := Lib.hid l2
  have O1 := Lib.hid o1
  have O2 := Lib.hid o2
  have HL := Lib.hid hl
  have HN := Lib.hid hN
  have e0 : w.cell? ⟨g, 0, none⟩ = some (.slice A1 n1 c1) := nd_cell hg 0 _ rfl
  have e1 : w.cell? ⟨g, 1, none⟩ = some (.slice A2 n2 c2) := nd_cell hg 1 _ rfl
  have hgl := (Array.getElem?_eq_some_iff.1 hg).1
  have q1 : wrap64 ((0 : Int) + (n1 : Int)) = (n1 : Int) := by unfold wrap64; omega
  have q2 : wrap64 ((n1 : Int) + (n2 : Int)) = (N : Int) := by unfold wrap64; omega
  have q3 : decide ((n1 : Int) < 0) = false := by simp
  have q4 : decide ((N : Int) < 0) = false := by simp
  have Q1 := Lib.hid q1
  have Q2 := Lib.hid q2
  clear hg hA1 hA2 l1 l2 o1 o2 hl hN q1 q2
  go_enter Try.func50, Try.ntmps50
  go_upto_region 3 with fail
  go_loopw [11, 3] (fun i s wr => ∃ k z : Nat, k ≤ 2 ∧ i = .int .i64 k ∧ s = .int .i64 (z : Int) ∧ w = wr ∧ Hid (k = 0 ∧ 0 = z ∨ k = 1 ∧ n1 = z ∨ k = 2 ∧ N = z)) (fun i _ _ => 2 - (intOf i).toNat)
  case atStart => exact ⟨0, 0, by omega, rfl, rfl, rfl, Lib.hid (.inl ⟨rfl, rfl⟩)⟩
  case round =>
    obtain ⟨k, z, hk, rfl, rfl, rfl, hcase⟩ := hrel
    obtain ⟨rfl, rfl⟩ | ⟨rfl, rfl⟩ | ⟨rfl, rfl⟩ := hcase.out
    · have q1 := Q1.out
      have q1' : wrap64 (n1 : Int) = (n1 : Int) := by have := HL.out; have := HN.out; unfold wrap64; omega
      go_wp2_with fail
      go_roundw
      case rel => exact ⟨1, n1, by omega, by go_num, by go_num, (by first | rfl | trivial), Lib.hid (.inr (.inl ⟨rfl, rfl⟩))⟩
      case measure => first | (simp [intOf]; done) | (simp [intOf]; omega)
    · have q2 := Q2.out
      have q2' : wrap64 (N : Int) = (N : Int) := by have := HL.out; unfold wrap64; omega
      go_wp2_with fail
      go_roundw
      case rel => exact ⟨2, N, by omega, by go_num, by go_num, (by first | rfl | trivial), Lib.hid (.inr (.inr ⟨rfl, rfl⟩))⟩
      case measure => first | (simp [intOf]; done) | (simp [intOf]; omega)
    · go_upto_region 11 with (go_at_call 70; refine (grow_key _ HL.out _).mono ?_; rintro e w1 ⟨A, c, rfl, ho1, hb1⟩; have HO1 := Lib.hid ho1; have HB1 := Lib.hid hb1; clear ho1 hb1)
      clear e0 e1 hcase q3 q4
      go_loopw [27, 6] (fun i s wr => ∃ (k z : Nat) (A : Option Addr) (c : Nat) (us : List Value), k ≤ 2 ∧ i = .int .i64 k ∧ s = .slice A z c ∧ Hid (Below wr.heap.size wr wr ∧ Below w.heap.size w wr ∧ wr.ownsRow w.heap.size 46 2 (.slice A z c) z us) ∧ Hid (k = 0 ∧ 0 = z ∧ [] = us ∨ k = 1 ∧ n1 = z ∧ us1 = us ∨ k = 2 ∧ N = z ∧ us1 ++ us2 = us)) (fun i _ _ => 2 - (intOf i).toNat)
      case atStart => exact ⟨0, 0, A, c, [], by omega, rfl, rfl, Lib.hid ⟨Below.refl _ _, HB1.out, HO1.out⟩, Lib.hid (.inl ⟨rfl, rfl, rfl⟩)⟩
      case round =>
        obtain ⟨k, z, A', c', us, hk, rfl, rfl, HW, hcase⟩ := hrel
        have f0 := (HW.out.2.1.cell (p := ⟨g, 0, none⟩) hgl).trans (nd_cell HG.out 0 _ rfl)
        have f1 := (HW.out.2.1.cell (p := ⟨g, 1, none⟩) hgl).trans (nd_cell HG.out 1 _ rfl)
        simp only [List.getElem_toArray, List.getElem_cons_zero, List.getElem_cons_succ] at f0 f1
        obtain ⟨rfl, rfl, rfl⟩ | ⟨rfl, rfl, rfl⟩ | ⟨rfl, rfl, rfl⟩ := hcase.out
        · go_wp2_with (at_builtin; refine wpList_append_row rfl (.tmp 31) (.tmp 32) 32 rfl Try.underlying32 (.agg #[.int .i64 0, .int .i64 0]) 16 infoKey_to_any (by rfl) (by decide) _ rfl HW.out.2.2 A1 c1 n1 rfl L1.out (HA1.out.below HW.out.2.1) O1.out (by have := HL.out; have := HN.out; omega) (by have := HL.out; have := HN.out; unfold maxLen; omega) HW.out.2.1.size n1 (Nat.zero_add n1) us1 (by rfl) ?_; intro A3 c3 w3 ho hgr; have HO3 := Lib.hid ho; have HG3 := Lib.hid hgr; clear ho hgr)
          go_roundw
          case rel => exact ⟨1, n1, A3, c3, us1, by omega, by go_num, rfl, Lib.hid ⟨Below.refl _ _, HW.out.2.1.grown HG3.out HW.out.2.1.size (fun k hk => (World.ownsRow.lt HW.out.2.2 k hk).1), HO3.out⟩, Lib.hid (.inr (.inl ⟨rfl, rfl, rfl⟩))⟩
          case measure => first | (simp [intOf]; done) | (simp [intOf]; omega)
        · go_wp2_with (at_builtin; refine wpList_append_row rfl (.tmp 31) (.tmp 32) 32 rfl Try.underlying32 (.agg #[.int .i64 0, .int .i64 0]) 16 infoKey_to_any (by rfl) (by decide) _ rfl HW.out.2.2 A2 c2 n2 rfl L2.out (HA2.out.below HW.out.2.1) O2.out (by have := HL.out; have := HN.out; omega) (by have := HL.out; have := HN.out; unfold maxLen; omega) HW.out.2.1.size N HN.out _ rfl ?_; intro A3 c3 w3 ho hgr; have HO3 := Lib.hid ho; have HG3 := Lib.hid hgr; clear ho hgr)
          go_roundw
          case rel => exact ⟨2, N, A3, c3, _, by omega, by go_num, rfl, Lib.hid ⟨Below.refl _ _, HW.out.2.1.grown HG3.out HW.out.2.1.size (fun k hk => (World.ownsRow.lt HW.out.2.2 k hk).1), HO3.out⟩, Lib.hid (.inr (.inr ⟨rfl, rfl, rfl⟩))⟩
          case measure => first | (simp [intOf]; done) | (simp [intOf]; omega)
        · go_wp2_with fail
          go_ret
          exact ⟨A', c', rfl, HW.out.2.2, HW.out.2.1⟩

set_option maxRecDepth 100000 in
theorem clone_int (A : Option Addr) (n c : Nat) (us : List Value) (hn : us.length = n * 1) (h1 : ∀ u ∈ us, u.oneCell' = true) (hl : n * 8 ≤ 140737488355328) (hc : n ≤ c) (hm : c ≤ maxLen) (w : World) (hA : CellsAt w A us) :
    Calls Try.prog 68 #[.slice A n c] w fun e w' => ∃ A' c', e = .returned (.slice A' n c') ∧ w'.ownsRow w.heap.size 3 1 (.slice A' n c') n us ∧ Below w.heap.size w w' := by
  cases A with
  | none =>
    have hus : us = [] := by
      rcases hu : us with _ | ⟨u, r⟩
      · rfl
      · obtain ⟨b, off, h, _⟩ := hA (by rw [hu]; simp)
        cases h
    subst hus
    have hn0 : n = 0 := by simp at hn; omega
    subst hn0
    clear hn hA
    have e1 : ∀ W, (binOp .eql 24 (.slice none 0 c) (.slice none 0 0)).run Try.prog W = .ok (.bool true) W := fun W => Lib.run_eql_slice_nil W _ _ none 0 c 0 0 Try.underlying24
    go_enter Try.func68, Try.ntmps68
    go_wp2_with fail
    go_ret
    exact ⟨none, 0, rfl, World.ownsRow_nil w _ _ _, Below.refl _ _⟩
  | some ad =>
    have HN := Lib.hid hn
    have HL := Lib.hid hl
    have H1 := Lib.hid h1
    have HA := Lib.hid hA
    have HM : Hid (n ≤ maxLen) := Lib.hid (Nat.le_trans hc hm)
    clear hn hl h1 hA hc hm
    have HB : Hid (Below w.heap.size w (w.alloc (.cells #[] 3))) := Lib.hid ((Below.refl _ _).alloc (Nat.le_refl _) _)
    have HO : Hid ((w.alloc (.cells #[] 3)).ownsRow w.heap.size 3 1 (.slice (some ⟨w.heap.size, 0, none⟩) 0 0) 0 []) := Lib.hid ⟨rfl, .inr ⟨w.heap.size, 0, #[], rfl, Nat.le_refl _, heap_alloc_new _ _, Nat.le_refl _, by unfold maxLen; omega, rfl, rfl⟩⟩
    have e1 : ∀ W, (binOp .eql 24 (.slice (some ad) n c) (.slice none 0 0)).run Try.prog W = .ok (.bool false) W := fun W => Lib.run_eql_slice_nil W _ _ (some ad) n c 0 0 Try.underlying24
    go_enter Try.func68, Try.ntmps68
    go_wp2_with (at_builtin; refine wpList_append_row rfl (.tmp 5) (.tmp 6) 24 rfl Try.underlying24 (.int .i64 0) 8 infoIntN (by rfl) (by decide) _ rfl HO.out (some ad) c n rfl HN.out (HA.out.below HB.out) H1.out (by have := HL.out; omega) (by have := HM.out; omega) HB.out.size n (Nat.zero_add n) us (by rfl) ?_; intro A' c' w' ho hg; have HO2 := Lib.hid ho; have HG2 := Lib.hid hg; clear ho hg)
    go_ret
    exact ⟨A', c', rfl, HO2.out, HB.out.grown HG2.out HB.out.size (fun k hk => by injection hk with hk; exact Nat.le_of_eq hk)⟩
set_option maxRecDepth 100000 in
theorem grow_int (m : Nat) (hl : m * 8 ≤ 140737488355328) (w : World) :
    Calls Try.prog 71 #[.slice none 0 0, .int .i64 (m : Int)] w fun e w' => ∃ A c, e = .returned (.slice A 0 c) ∧ w'.ownsRow w.heap.size 3 1 (.slice A 0 c) 0 [] ∧ Below w.heap.size w w' := by
  rcases Nat.eq_zero_or_pos m with h0 | h0
  · subst h0
    go_enter Try.func71, Try.ntmps71
    go_wp2_with fail
    go_ret
    exact ⟨none, 0, rfl, World.ownsRow_nil w _ _ _, Below.refl _ _⟩
  · have HL := Lib.hid hl
    have p1 : ¬ ((m : Int) < 0) := by omega
    have p2 : (0 : Int) < (m : Int) := by omega
    have p3 : decide ((m : Int) < 0) = false := by simp
    have p4 : decide ((0 : Int) < (m : Int)) = true := by simp; omega
    have p5 : wrap64 (m : Int) = (m : Int) := by unfold wrap64; omega
    obtain ⟨cg, wg, hr, ho, hcg, hb⟩ := run_append_room (P := Try.prog) (w := w) 24 3 24 Try.underlying24 .i64 .i64 Try.underlying3 (.int .i64 0) 8 infoIntN (by rfl) (by decide) m h0 hl (by omega) (by decide)
    have HO := Lib.hid ho
    have HB := Lib.hid hb
    have hr' := hr
    rw [← p5] at hr'
    have HR := Lib.hid hr'
    clear ho hb hr hr' hl
    go_enter Try.func71, Try.ntmps71
    go_wp2_with (at_builtin; refine Lib.wpList_append_run w rfl (.tmp 20) (.tmp 21) 24 3 rfl (.slice none 0 0) (.int .i64 (wrap64 (m : Int))) rfl rfl _ _ HR.out ?_)
    go_ret
    exact ⟨_, cg, rfl, HO.out, HB.out⟩
set_option maxRecDepth 100000 in
set_option maxHeartbeats 4000000 in
theorem concat_int (g : Nat) (A1 A2 : Option Addr) (n1 c1 n2 c2 N : Nat) (hN : n1 + n2 = N) (us1 us2 : List Value) (l1 : us1.length = n1 * 1) (l2 : us2.length = n2 * 1) (o1 : ∀ u ∈ us1, u.oneCell' = true) (o2 : ∀ u ∈ us2, u.oneCell' = true) (hl : N * 8 ≤ 140737488355328) (w : World)
    (hg : w.heap[g]? = some (.cells #[.slice A1 n1 c1, .slice A2 n2 c2] 24 (0, 0))) (hA1 : CellsAt w A1 us1) (hA2 : CellsAt w A2 us2) :
    Calls Try.prog 51 #[.slice (some ⟨g, 0, none⟩) 2 2] w fun e w' => ∃ A c, e = .returned (.slice A N c) ∧ w'.ownsRow w.heap.size 3 1 (.slice A N c) N (us1 ++ us2) ∧ Below w.heap.size w w' := by
  have HG := Lib.hid hg
  have HA1 := Lib.hid hA1
  have HA2 := Lib.hid hA2
  have L1 := Lib.hid l1
  have L2 := Lib.hid l2
  have O1 := Lib.hid o1
  have O2 := Lib.hid o2
  have HL := Lib.hid hl
  have HN := Lib.hid hN
  have e0 : w.cell? ⟨g, 0, none⟩ = some (.slice A1 n1 c1) := nd_cell hg 0 _ rfl
  have e1 : w.cell? ⟨g, 1, none⟩ = some (.slice A2 n2 c2) := nd_cell hg 1 _ rfl
  have hgl := (Array.getElem?_eq_some_iff.1 hg).1
  have q1 : wrap64 ((0 : Int) + (n1 : Int)) = (n1 : Int) := by unfold wrap64; omega
  have q2 : wrap64 ((n1 : Int) + (n2 : Int)) = (N : Int) := by unfold wrap64; omega
  have q3 : decide ((n1 : Int) < 0) = false := by simp
  have q4 : decide ((N : Int) < 0) = false := by simp
  have Q1 := Lib.hid q1
  have Q2 := Lib.hid q2
  clear hg hA1 hA2 l1 l2 o1 o2 hl hN q1 q2
  go_enter Try.func51, Try.ntmps51
  go_upto_region 3 with fail
  go_loopw [11, 3] (fun i s wr => ∃ k z : Nat, k ≤ 2 ∧ i = .int .i64 k ∧ s = .int .i64 (z : Int) ∧ w = wr ∧ Hid (k = 0 ∧ 0 = z ∨ k = 1 ∧ n1 = z ∨ k = 2 ∧ N = z)) (fun i _ _ => 2 - (intOf i).toNat)
  case atStart => exact ⟨0, 0, by omega, rfl, rfl, rfl, Lib.hid (.inl ⟨rfl, rfl⟩)⟩
  case round =>
    obtain ⟨k, z, hk, rfl, rfl, rfl, hcase⟩ := hrel
    obtain ⟨rfl, rfl⟩ | ⟨rfl, rfl⟩ | ⟨rfl, rfl⟩ := hcase.out
    · have q1 := Q1.out
      have q1' : wrap64 (n1 : Int) = (n1 : Int) := by have := HL.out; have := HN.out; unfold wrap64; omega
      go_wp2_with fail
      go_roundw
      case rel => exact ⟨1, n1, by omega, by go_num, by go_num, (by first | rfl | trivial), Lib.hid (.inr (.inl ⟨rfl, rfl⟩))⟩
      case measure => first | (simp [intOf]; done) | (simp [intOf]; omega)
    · have q2 := Q2.out
      have q2' : wrap64 (N : Int) = (N : Int) := by have := HL.out; unfold wrap64; omega
      go_wp2_with fail
      go_roundw
      case rel => exact ⟨2, N, by omega, by go_num, by go_num, (by first | rfl | trivial), Lib.hid (.inr (.inr ⟨rfl, rfl⟩))⟩
      case measure => first | (simp [intOf]; done) | (simp [intOf]; omega)
    · go_upto_region 11 with (go_at_call 71; refine (grow_int _ HL.out _).mono ?_; rintro e w1 ⟨A, c, rfl, ho1, hb1⟩; have HO1 := Lib.hid ho1; have HB1 := Lib.hid hb1; clear ho1 hb1)
      clear e0 e1 hcase q3 q4
      go_loopw [27, 6] (fun i s wr => ∃ (k z : Nat) (A : Option Addr) (c : Nat) (us : List Value), k ≤ 2 ∧ i = .int .i64 k ∧ s = .slice A z c ∧ Hid (Below wr.heap.size wr wr ∧ Below w.heap.size w wr ∧ wr.ownsRow w.heap.size 3 1 (.slice A z c) z us) ∧ Hid (k = 0 ∧ 0 = z ∧ [] = us ∨ k = 1 ∧ n1 = z ∧ us1 = us ∨ k = 2 ∧ N = z ∧ us1 ++ us2 = us)) (fun i _ _ => 2 - (intOf i).toNat)
      case atStart => exact ⟨0, 0, A, c, [], by omega, rfl, rfl, Lib.hid ⟨Below.refl _ _, HB1.out, HO1.out⟩, Lib.hid (.inl ⟨rfl, rfl, rfl⟩)⟩
      case round =>
        obtain ⟨k, z, A', c', us, hk, rfl, rfl, HW, hcase⟩ := hrel
        have f0 := (HW.out.2.1.cell (p := ⟨g, 0, none⟩) hgl).trans (nd_cell HG.out 0 _ rfl)
        have f1 := (HW.out.2.1.cell (p := ⟨g, 1, none⟩) hgl).trans (nd_cell HG.out 1 _ rfl)
        simp only [List.getElem_toArray, List.getElem_cons_zero, List.getElem_cons_succ] at f0 f1
        obtain ⟨rfl, rfl, rfl⟩ | ⟨rfl, rfl, rfl⟩ | ⟨rfl, rfl, rfl⟩ := hcase.out
        · go_wp2_with (at_builtin; refine wpList_append_row rfl (.tmp 31) (.tmp 32) 24 rfl Try.underlying24 (.int .i64 0) 8 infoIntN (by rfl) (by decide) _ rfl HW.out.2.2 A1 c1 n1 rfl L1.out (HA1.out.below HW.out.2.1) O1.out (by have := HL.out; have := HN.out; omega) (by have := HL.out; have := HN.out; unfold maxLen; omega) HW.out.2.1.size n1 (Nat.zero_add n1) us1 (by rfl) ?_; intro A3 c3 w3 ho hgr; have HO3 := Lib.hid ho; have HG3 := Lib.hid hgr; clear ho hgr)
          go_roundw
          case rel => exact ⟨1, n1, A3, c3, us1, by omega, by go_num, rfl, Lib.hid ⟨Below.refl _ _, HW.out.2.1.grown HG3.out HW.out.2.1.size (fun k hk => (World.ownsRow.lt HW.out.2.2 k hk).1), HO3.out⟩, Lib.hid (.inr (.inl ⟨rfl, rfl, rfl⟩))⟩
          case measure => first | (simp [intOf]; done) | (simp [intOf]; omega)
        · go_wp2_with (at_builtin; refine wpList_append_row rfl (.tmp 31) (.tmp 32) 24 rfl Try.underlying24 (.int .i64 0) 8 infoIntN (by rfl) (by decide) _ rfl HW.out.2.2 A2 c2 n2 rfl L2.out (HA2.out.below HW.out.2.1) O2.out (by have := HL.out; have := HN.out; omega) (by have := HL.out; have := HN.out; unfold maxLen; omega) HW.out.2.1.size N HN.out _ rfl ?_; intro A3 c3 w3 ho hgr; have HO3 := Lib.hid ho; have HG3 := Lib.hid hgr; clear ho hgr)
          go_roundw
          case rel => exact ⟨2, N, A3, c3, _, by omega, by go_num, rfl, Lib.hid ⟨Below.refl _ _, HW.out.2.1.grown HG3.out HW.out.2.1.size (fun k hk => (World.ownsRow.lt HW.out.2.2 k hk).1), HO3.out⟩, Lib.hid (.inr (.inr ⟨rfl, rfl, rfl⟩))⟩
          case measure => first | (simp [intOf]; done) | (simp [intOf]; omega)
        · go_wp2_with fail
          go_ret
          exact ⟨A', c', rfl, HW.out.2.2, HW.out.2.1⟩

end Go.Proofs.Ytgkddhncfaeidaa

namespace Go.Proofs.Ytgkddhncfaeidaa
open Go.ChangeShapes Go.WideShapes Go.ChangeAt Go.RowKit CrcM PageM
set_option linter.unusedVariables false

theorem row_mono {w : World} {base base' sz n : Nat} {E : TypeId} {v : Value} {us : List Value} (h : w.ownsRow base E sz v n us) (hb : base' ≤ base) : w.ownsRow base' E sz v n us :=
  ⟨h.1, h.2.imp id fun ⟨g, cap, cur, h1, h2, h3⟩ => ⟨g, cap, cur, h1, Nat.le_trans hb h2, h3⟩⟩
theorem alloc3_0 (w : World) (a b c : Obj) {x : Obj} (ha : ∀ u : World, (u.alloc a).heap[u.heap.size]? = some x) : (((w.alloc a).alloc b).alloc c).heap[w.heap.size]? = some x := by
  rw [Below.heap_alloc _ _ _ (by simp; omega), Below.heap_alloc _ _ _ (by simp)]
  exact ha w
theorem alloc3_1 (w : World) (a b c : Obj) {x : Obj} (hb : ∀ u : World, (u.alloc b).heap[u.heap.size]? = some x) : (((w.alloc a).alloc b).alloc c).heap[w.heap.size + 1]? = some x := by
  rw [Below.heap_alloc _ _ _ (by simp)]
  have := hb (w.alloc a)
  simpa using this
theorem alloc3_2 (w : World) (a b c : Obj) {x : Obj} (hc : ∀ u : World, (u.alloc c).heap[u.heap.size]? = some x) : (((w.alloc a).alloc b).alloc c).heap[w.heap.size + 2]? = some x := by
  have := hc ((w.alloc a).alloc b)
  simpa using this

set_option maxRecDepth 100000 in
set_option maxHeartbeats 8000000 in
theorem join_leaf (lb : Bool) (EA1 KA1 DA1 EA2 KA2 DA2 : Option Addr) (ne1 ec1 nk1 kc1 nd1 dc1 ne2 ec2 nk2 kc2 nd2 dc2 : Nat) (N : Nat) (hN : ne1 + ne2 = N) (us1 us2 : List Value) (l1 : us1.length = ne1 * 8) (l2 : us2.length = ne2 * 8) (o1 : ∀ u ∈ us1, u.oneCell' = true) (o2 : ∀ u ∈ us2, u.oneCell' = true) (hl : N * 64 ≤ 140737488355328) (w : World) (hA1 : CellsAt w EA1 us1) (hA2 : CellsAt w EA2 us2) :
    Calls Try.prog 22 #[.agg #[.bool true, .slice EA1 ne1 ec1, .slice KA1 nk1 kc1, .slice DA1 nd1 dc1], .agg #[.bool lb, .slice EA2 ne2 ec2, .slice KA2 nk2 kc2, .slice DA2 nd2 dc2]] w fun e w' => (∃ A c, e = .returned (.agg #[.bool true, .slice A N c, .slice none 0 0, .slice none 0 0]) ∧ w'.ownsRow w.heap.size 77 8 (.slice A N c) N (us1 ++ us2)) ∧ Below w.heap.size w w' := by
  obtain ⟨W, eW⟩ : ∃ W, W = ((w.alloc (.cells #[.bool true, .slice EA1 ne1 ec1, .slice KA1 nk1 kc1, .slice DA1 nd1 dc1] 34)).alloc (.cells #[.bool lb, .slice EA2 ne2 ec2, .slice KA2 nk2 kc2, .slice DA2 nd2 dc2] 34)).alloc (.cells #[.bool false, .slice none 0 0, .slice none 0 0, .slice none 0 0] 34) := ⟨_, rfl⟩
  have hb : Below w.heap.size w W := by rw [eW]; exact (((Below.refl _ _).alloc (Nat.le_refl _) _).alloc (by simp) _).alloc (by simp; omega) _
  have hr0 : W.heap[w.heap.size]? = some (.cells #[.bool true, .slice EA1 ne1 ec1, .slice KA1 nk1 kc1, .slice DA1 nd1 dc1] 34 (0, 0)) := by rw [eW]; exact alloc3_0 _ _ _ _ (fun u => heap_alloc_new u _)
  have hr1 : W.heap[w.heap.size + 1]? = some (.cells #[.bool lb, .slice EA2 ne2 ec2, .slice KA2 nk2 kc2, .slice DA2 nd2 dc2] 34 (0, 0)) := by rw [eW]; exact alloc3_1 _ _ _ _ (fun u => heap_alloc_new u _)
  have hr2 : W.heap[w.heap.size + 2]? = some (.cells #[.bool false, .slice none 0 0, .slice none 0 0, .slice none 0 0] 34 (0, 0)) := by rw [eW]; exact alloc3_2 _ _ _ _ (fun u => heap_alloc_new u _)
  have hWs : W.heap.size = w.heap.size + 3 := by rw [eW]; simp
  have HB := Lib.hid hb
  have HR0 := Lib.hid hr0
  have HR1 := Lib.hid hr1
  have HR2 := Lib.hid hr2
  have HWS := Lib.hid hWs

  have a0 := nd_cell hr0 0 _ rfl
  have a1 := nd_cell hr0 1 _ rfl
  have a2 := nd_cell hr1 1 _ rfl
  simp only [List.getElem_toArray, List.getElem_cons_zero, List.getElem_cons_succ] at a0 a1 a2
  have HA1 := Lib.hid (hA1.below hb)
  have HA2 := Lib.hid (hA2.below hb)
  have L1 := Lib.hid l1
  have L2 := Lib.hid l2
  have O1 := Lib.hid o1
  have O2 := Lib.hid o2
  have HL := Lib.hid hl
  have HN := Lib.hid hN
  clear hb hr0 hr1 hr2 hWs hA1 hA2 l1 l2 o1 o2 hl hN
  go_enter Try.func22, Try.ntmps22
  go_upto_region 1 with fail
  rw [← eW]
  clear eW
  have HBA := Lib.hid ((Below.refl W.heap.size W).alloc (Nat.le_refl _) (.cells #[.slice EA1 ne1 ec1, .slice EA2 ne2 ec2] 31))
  go_wp2_with (first
    | (go_at_call 49; refine (concat_ent W.heap.size EA1 EA2 ne1 ec1 ne2 ec2 N HN.out us1 us2 L1.out L2.out O1.out O2.out HL.out _ (heap_alloc_new _ _) (HA1.out.below HBA.out) (HA2.out.below HBA.out)).mono ?_; rintro e w1 ⟨A, c, rfl, ho, hb1⟩; have HO := Lib.hid ho; have HB1 := Lib.hid (HBA.out.trans (hb1.mono HBA.out.size)); clear ho hb1)
    | (refine wpList_store_row rfl 34 (.tmp 4) (.tmp 13) rfl (w.heap.size + 2) #[.bool true, .slice A N c, .slice none 0 0, .slice none 0 0] rfl rfl 34 #[.bool false, .slice none 0 0, .slice none 0 0, .slice none 0 0] (row_stays HR2.out HB1.out) (by kernel_rfl) rfl (by simp [Value.oneCell']) ?_))
  obtain ⟨V, hV⟩ : ∃ V, V = w1.setRow (w.heap.size + 2) #[.bool true, .slice A N c, .slice none 0 0, .slice none 0 0] := ⟨_, rfl⟩
  rw [← hV]
  have HV4 : V.heap[w.heap.size + 2]? = some (.cells #[.bool true, .slice A N c, .slice none 0 0, .slice none 0 0] 34 (0, 0)) := by rw [hV]; exact setRow_heap _ _ _ _ _ _ (row_stays HR2.out HB1.out)
  have HVB : Below w.heap.size w V := by rw [hV]; exact below_setRow (HB.out.trans (HB1.out.mono HB.out.size)) (by omega) _
  have HVO : V.ownsRow w.heap.size 77 8 (.slice A N c) N (us1 ++ us2) := by
    rw [hV]
    refine row_mono (row_keep HO.out (fun k cur hk hc => ?_)) (by have := HBA.out.size; have := HWS.out; omega)
    exact setRow_other _ _ _ _ (fun e => by subst e; have := HBA.out.size; have := HWS.out; omega)
  exact bodyPost_ret (v := .agg #[.bool true, .slice A N c, .slice none 0 0, .slice none 0 0]) (results_cell_row (p := 4) (ty := 34) rfl _ _ (w.heap.size + 2) 34 _ (0, 0) _ rfl HV4 Try.underlying34 rfl (by kernel_rfl)) rfl ⟨⟨A, c, rfl, HVO⟩, HVB⟩

set_option maxRecDepth 100000 in
set_option maxHeartbeats 8000000 in
theorem join_inner (lb : Bool) (EA1 KA1 DA1 EA2 KA2 DA2 : Option Addr) (ne1 ec1 nk1 kc1 nd1 dc1 ne2 ec2 nk2 kc2 nd2 dc2 : Nat) (NK ND : Nat) (hNK : nk1 + nk2 = NK) (hND : nd1 + nd2 = ND) (uK1 uK2 uD1 uD2 : List Value) (lK1 : uK1.length = nk1 * 2) (lK2 : uK2.length = nk2 * 2) (lD1 : uD1.length = nd1 * 1) (lD2 : uD2.length = nd2 * 1) (oK1 : ∀ u ∈ uK1, u.oneCell' = true) (oK2 : ∀ u ∈ uK2, u.oneCell' = true) (oD1 : ∀ u ∈ uD1, u.oneCell' = true) (oD2 : ∀ u ∈ uD2, u.oneCell' = true) (hlK : NK * 16 ≤ 140737488355328) (hlD : ND * 8 ≤ 140737488355328) (w : World) (hK1 : CellsAt w KA1 uK1) (hK2 : CellsAt w KA2 uK2) (hD1 : CellsAt w DA1 uD1) (hD2 : CellsAt w DA2 uD2) :
    Calls Try.prog 22 #[.agg #[.bool false, .slice EA1 ne1 ec1, .slice KA1 nk1 kc1, .slice DA1 nd1 dc1], .agg #[.bool lb, .slice EA2 ne2 ec2, .slice KA2 nk2 kc2, .slice DA2 nd2 dc2]] w fun e w' => (∃ K kc D dc, e = .returned (.agg #[.bool false, .slice none 0 0, .slice K NK kc, .slice D ND dc]) ∧ w'.ownsRow w.heap.size 46 2 (.slice K NK kc) NK (uK1 ++ uK2) ∧ w'.ownsRow w.heap.size 3 1 (.slice D ND dc) ND (uD1 ++ uD2)) ∧ Below w.heap.size w w' := by
  obtain ⟨W, eW⟩ : ∃ W, W = ((w.alloc (.cells #[.bool false, .slice EA1 ne1 ec1, .slice KA1 nk1 kc1, .slice DA1 nd1 dc1] 34)).alloc (.cells #[.bool lb, .slice EA2 ne2 ec2, .slice KA2 nk2 kc2, .slice DA2 nd2 dc2] 34)).alloc (.cells #[.bool false, .slice none 0 0, .slice none 0 0, .slice none 0 0] 34) := ⟨_, rfl⟩
  have hb : Below w.heap.size w W := by rw [eW]; exact (((Below.refl _ _).alloc (Nat.le_refl _) _).alloc (by simp) _).alloc (by simp; omega) _
  have hr0 : W.heap[w.heap.size]? = some (.cells #[.bool false, .slice EA1 ne1 ec1, .slice KA1 nk1 kc1, .slice DA1 nd1 dc1] 34 (0, 0)) := by rw [eW]; exact alloc3_0 _ _ _ _ (fun u => heap_alloc_new u _)
  have hr1 : W.heap[w.heap.size + 1]? = some (.cells #[.bool lb, .slice EA2 ne2 ec2, .slice KA2 nk2 kc2, .slice DA2 nd2 dc2] 34 (0, 0)) := by rw [eW]; exact alloc3_1 _ _ _ _ (fun u => heap_alloc_new u _)
  have hr2 : W.heap[w.heap.size + 2]? = some (.cells #[.bool false, .slice none 0 0, .slice none 0 0, .slice none 0 0] 34 (0, 0)) := by rw [eW]; exact alloc3_2 _ _ _ _ (fun u => heap_alloc_new u _)
  have hWs : W.heap.size = w.heap.size + 3 := by rw [eW]; simp
  have HB := Lib.hid hb
  have HR0 := Lib.hid hr0
  have HR1 := Lib.hid hr1
  have HR2 := Lib.hid hr2
  have HWS := Lib.hid hWs

  have a0 := nd_cell hr0 0 _ rfl
  simp only [List.getElem_toArray, List.getElem_cons_zero] at a0
  have G0 : ∀ y : SubW (w.heap.size + 2) W, y.at_.cell? ⟨w.heap.size, 2, none⟩ = some (.slice KA1 nk1 kc1) := fun y => nd_cell ((y.ok_.block _ (by omega)).trans hr0) 2 _ rfl
  have G1 : ∀ y : SubW (w.heap.size + 2) W, y.at_.cell? ⟨w.heap.size, 3, none⟩ = some (.slice DA1 nd1 dc1) := fun y => nd_cell ((y.ok_.block _ (by omega)).trans hr0) 3 _ rfl
  have G2 : ∀ y : SubW (w.heap.size + 2) W, y.at_.cell? ⟨w.heap.size + 1, 2, none⟩ = some (.slice KA2 nk2 kc2) := fun y => nd_cell ((y.ok_.block _ (by omega)).trans hr1) 2 _ rfl
  have G3 : ∀ y : SubW (w.heap.size + 2) W, y.at_.cell? ⟨w.heap.size + 1, 3, none⟩ = some (.slice DA2 nd2 dc2) := fun y => nd_cell ((y.ok_.block _ (by omega)).trans hr1) 3 _ rfl
  have HK1 := Lib.hid (hK1.below hb)
  have LK1 := Lib.hid lK1
  have OK1 := Lib.hid oK1
  have HK2 := Lib.hid (hK2.below hb)
  have LK2 := Lib.hid lK2
  have OK2 := Lib.hid oK2
  have HD1 := Lib.hid (hD1.below hb)
  have LD1 := Lib.hid lD1
  have OD1 := Lib.hid oD1
  have HD2 := Lib.hid (hD2.below hb)
  have LD2 := Lib.hid lD2
  have OD2 := Lib.hid oD2
  have HLK := Lib.hid hlK
  have HLD := Lib.hid hlD
  have HNK := Lib.hid hNK
  have HND := Lib.hid hND
  have H2 : Hid (w.heap.size + 2 ≤ W.heap.size) := Lib.hid (by omega)
  clear hb hr0 hr1 hr2 hWs hK1 hK2 hD1 hD2 lK1 lK2 lD1 lD2 oK1 oK2 oD1 oD2 hlK hlD hNK hND
  go_enter Try.func22, Try.ntmps22
  go_upto_region 1 with fail
  rw [← eW]
  clear eW
  go_upto_region 3 with fail
  clear a0
  refine region_ways4 (w.heap.size + 2) H2.out (.two [0, 1, 2, 3, 6, 7, 8, 9] 4 (.two [] 5 (.one [] 10 (.one [] 11 (.one [12] 13 (.done [])))) 10 (.one [] 5 (.one [] 11 (.one [12] 13 (.done []))))) 10 (.one [] 4 (.one [] 5 (.one [] 11 (.one [12] 13 (.done [])))))) (by kernel_rfl) (by kernel_rfl) ?_
  rintro wd hbd
  have B0 := Lib.hid hbd
  clear hbd
  rw [wpWays_two4]
  try simp only [List.map_cons, List.map_nil, opAt, List.getElem?_toArray, List.getElem?_cons_zero, List.getElem?_cons_succ, Option.getD_some]
  repeat (go_big_quiet_step (fail))
  clear G0 G1 G2 G3
  refine wpQuiet_nil ⟨?_, ?_⟩
  · skip
    go_wp2_with fail
    obtain ⟨x1, ex1⟩ : ∃ x, x = wd.alloc (.cells #[.slice KA1 nk1 kc1, .slice KA2 nk2 kc2] 32) := ⟨_, rfl⟩
    rw [← ex1]
    have b1 : Below wd.heap.size wd x1 := by rw [ex1]; exact (Below.refl _ _).alloc (Nat.le_refl _) _
    have GKn1 : Hid (x1.heap[wd.heap.size]? = some (.cells #[.slice KA1 nk1 kc1, .slice KA2 nk2 kc2] 32 (0, 0))) := Lib.hid (by rw [ex1]; exact heap_alloc_new _ _)
    have B1 := Lib.hid (B0.out.trans (b1.mono B0.out.size))
    clear b1 ex1
    refine ⟨⟨⟨_, B1.out.mono H2.out⟩, rfl⟩, ?_⟩
    try simp only [Act.put, List.setIfInBounds_toArray, List.set_cons_zero, List.set_cons_succ]
    rw [wpWays_two4]
    try simp only [List.map_nil, opAt, List.getElem?_toArray, List.getElem?_cons_zero, List.getElem?_cons_succ, Option.getD_some]
    refine wpQuiet_nil ⟨?_, ?_⟩
    · skip
      go_wp2_with (go_at_call 50; refine (concat_key wd.heap.size KA1 KA2 nk1 kc1 nk2 kc2 NK HNK.out uK1 uK2 LK1.out LK2.out OK1.out OK2.out HLK.out _ GKn1.out (HK1.out.below B1.out) (HK2.out.below B1.out)).mono ?_; rintro e x2 ⟨A2, c2, rfl, ho2, b2⟩)
      have RKn2 := Lib.hid (row_mono ho2 (show w.heap.size ≤ x1.heap.size from by have := B1.out.size; have := H2.out; omega))
      have B2 := Lib.hid (B1.out.trans (b2.mono B1.out.size))
      clear b2 ho2
      refine ⟨⟨⟨_, B2.out.mono H2.out⟩, rfl⟩, ?_⟩
      try simp only [Act.put, List.setIfInBounds_toArray, List.set_cons_zero, List.set_cons_succ]
      rw [wpWays_one4]
      try simp only [List.map_nil, opAt, List.getElem?_toArray, List.getElem?_cons_zero, List.getElem?_cons_succ, Option.getD_some]
      refine wpQuiet_nil ?_
      go_wp2_with fail
      obtain ⟨x3, ex3⟩ : ∃ x, x = x2.alloc (.cells #[.slice DA1 nd1 dc1, .slice DA2 nd2 dc2] 24) := ⟨_, rfl⟩
      rw [← ex3]
      have b3 : Below x2.heap.size x2 x3 := by rw [ex3]; exact (Below.refl _ _).alloc (Nat.le_refl _) _
      have GDn3 : Hid (x3.heap[x2.heap.size]? = some (.cells #[.slice DA1 nd1 dc1, .slice DA2 nd2 dc2] 24 (0, 0))) := Lib.hid (by rw [ex3]; exact heap_alloc_new _ _)
      have RK3 := Lib.hid (row_below RKn2.out b3)
      have B3 := Lib.hid (B2.out.trans (b3.mono B2.out.size))
      clear b3 ex3
      refine ⟨⟨⟨_, B3.out.mono H2.out⟩, rfl⟩, ?_⟩
      try simp only [Act.put, List.setIfInBounds_toArray, List.set_cons_zero, List.set_cons_succ]
      rw [wpWays_one4]
      try simp only [List.map_nil, opAt, List.getElem?_toArray, List.getElem?_cons_zero, List.getElem?_cons_succ, Option.getD_some]
      refine wpQuiet_nil ?_
      go_wp2_with (go_at_call 51; refine (concat_int x2.heap.size DA1 DA2 nd1 dc1 nd2 dc2 ND HND.out uD1 uD2 LD1.out LD2.out OD1.out OD2.out HLD.out _ GDn3.out (HD1.out.below B3.out) (HD2.out.below B3.out)).mono ?_; rintro e x4 ⟨A4, c4, rfl, ho4, b4⟩)
      have RDn4 := Lib.hid (row_mono ho4 (show w.heap.size ≤ x3.heap.size from by have := B3.out.size; have := H2.out; omega))
      have RK4 := Lib.hid (row_below RK3.out b4)
      have B4 := Lib.hid (B3.out.trans (b4.mono B3.out.size))
      clear b4 ho4
      refine ⟨⟨⟨_, B4.out.mono H2.out⟩, rfl⟩, ?_⟩
      try simp only [Act.put, List.setIfInBounds_toArray, List.set_cons_zero, List.set_cons_succ]
      rw [wpWays_one4]
      try simp only [List.map_cons, List.map_nil, opAt, List.getElem?_toArray, List.getElem?_cons_zero, List.getElem?_cons_succ, Option.getD_some]
      repeat (go_big_quiet_step (fail))
      refine wpQuiet_nil ?_
      go_wp2_with (refine wpList_store_row rfl 34 (.tmp 4) (.tmp 26) rfl (w.heap.size + 2) #[.bool false, .slice none 0 0, .slice A2 NK c2, .slice A4 ND c4] rfl rfl 34 #[.bool false, .slice none 0 0, .slice none 0 0, .slice none 0 0] (row_stays HR2.out B4.out) (by kernel_rfl) rfl (by simp [Value.oneCell']) ?_)
      obtain ⟨V, hV⟩ : ∃ V, V = x4.setRow (w.heap.size + 2) #[.bool false, .slice none 0 0, .slice A2 NK c2, .slice A4 ND c4] := ⟨_, rfl⟩
      rw [← hV]
      have HV4 : Hid (V.heap[w.heap.size + 2]? = some (.cells #[.bool false, .slice none 0 0, .slice A2 NK c2, .slice A4 ND c4] 34 (0, 0))) := Lib.hid (by rw [hV]; exact setRow_heap _ _ _ _ _ _ (row_stays HR2.out B4.out))
      have HVB : Hid (Below (w.heap.size + 2) W V) := Lib.hid (by rw [hV]; exact below_setRow (B4.out.mono H2.out) (Nat.le_refl _) _)
      have VK : Hid (V.ownsRow w.heap.size 46 2 (.slice A2 NK c2) NK (uK1 ++ uK2)) := Lib.hid (by rw [hV]; exact row_keep RK4.out (fun k cur hk hc => setRow_other _ _ _ _ (fun e => by subst e; have h9 := row_stays HR2.out B4.out; rw [h9] at hc; injection hc with hc; injection hc with _ hc; exact absurd hc (by decide))))
      have VD : Hid (V.ownsRow w.heap.size 3 1 (.slice A4 ND c4) ND (uD1 ++ uD2)) := Lib.hid (by rw [hV]; exact row_keep RDn4.out (fun k cur hk hc => setRow_other _ _ _ _ (fun e => by subst e; have h9 := row_stays HR2.out B4.out; rw [h9] at hc; injection hc with hc; injection hc with _ hc; exact absurd hc (by decide))))
      clear hV
      refine ⟨⟨⟨_, HVB.out⟩, rfl⟩, ?_⟩
      try simp only [Act.put]
      rw [wpWays_done4]
      try simp only [List.map_nil]
      refine wpQuiet_nil ?_
      go_wp2_with fail
      exact bodyPost_ret (v := .agg #[.bool false, .slice none 0 0, .slice A2 NK c2, .slice A4 ND c4]) (results_cell_row (p := 4) (ty := 34) rfl _ _ (w.heap.size + 2) 34 _ (0, 0) _ rfl HV4.out Try.underlying34 rfl (by kernel_rfl)) rfl ⟨⟨A2, c2, A4, c4, rfl, VK.out, VD.out⟩, HB.out.trans (HVB.out.mono (by omega))⟩
    · skip
      go_wp2_with fail
      obtain ⟨x6, ex6⟩ : ∃ x, x = x1.alloc (.cells #[.slice DA1 nd1 dc1, .slice DA2 nd2 dc2] 24) := ⟨_, rfl⟩
      rw [← ex6]
      have b6 : Below x1.heap.size x1 x6 := by rw [ex6]; exact (Below.refl _ _).alloc (Nat.le_refl _) _
      have GDn6 : Hid (x6.heap[x1.heap.size]? = some (.cells #[.slice DA1 nd1 dc1, .slice DA2 nd2 dc2] 24 (0, 0))) := Lib.hid (by rw [ex6]; exact heap_alloc_new _ _)
      have GK6 := Lib.hid (row_stays GKn1.out b6)
      have B6 := Lib.hid (B1.out.trans (b6.mono B1.out.size))
      clear b6 ex6
      refine ⟨⟨⟨_, B6.out.mono H2.out⟩, rfl⟩, ?_⟩
      try simp only [Act.put, List.setIfInBounds_toArray, List.set_cons_zero, List.set_cons_succ]
      rw [wpWays_one4]
      try simp only [List.map_nil, opAt, List.getElem?_toArray, List.getElem?_cons_zero, List.getElem?_cons_succ, Option.getD_some]
      refine wpQuiet_nil ?_
      go_wp2_with (go_at_call 50; refine (concat_key wd.heap.size KA1 KA2 nk1 kc1 nk2 kc2 NK HNK.out uK1 uK2 LK1.out LK2.out OK1.out OK2.out HLK.out _ GK6.out (HK1.out.below B6.out) (HK2.out.below B6.out)).mono ?_; rintro e x7 ⟨A7, c7, rfl, ho7, b7⟩)
      have RKn7 := Lib.hid (row_mono ho7 (show w.heap.size ≤ x6.heap.size from by have := B6.out.size; have := H2.out; omega))
      have GD7 := Lib.hid (row_stays GDn6.out b7)
      have B7 := Lib.hid (B6.out.trans (b7.mono B6.out.size))
      clear b7 ho7
      refine ⟨⟨⟨_, B7.out.mono H2.out⟩, rfl⟩, ?_⟩
      try simp only [Act.put, List.setIfInBounds_toArray, List.set_cons_zero, List.set_cons_succ]
      rw [wpWays_one4]
      try simp only [List.map_nil, opAt, List.getElem?_toArray, List.getElem?_cons_zero, List.getElem?_cons_succ, Option.getD_some]
      refine wpQuiet_nil ?_
      go_wp2_with (go_at_call 51; refine (concat_int x1.heap.size DA1 DA2 nd1 dc1 nd2 dc2 ND HND.out uD1 uD2 LD1.out LD2.out OD1.out OD2.out HLD.out _ GD7.out (HD1.out.below B7.out) (HD2.out.below B7.out)).mono ?_; rintro e x8 ⟨A8, c8, rfl, ho8, b8⟩)
      have RDn8 := Lib.hid (row_mono ho8 (show w.heap.size ≤ x7.heap.size from by have := B7.out.size; have := H2.out; omega))
      have RK8 := Lib.hid (row_below RKn7.out b8)
      have B8 := Lib.hid (B7.out.trans (b8.mono B7.out.size))
      clear b8 ho8
      refine ⟨⟨⟨_, B8.out.mono H2.out⟩, rfl⟩, ?_⟩
      try simp only [Act.put, List.setIfInBounds_toArray, List.set_cons_zero, List.set_cons_succ]
      rw [wpWays_one4]
      try simp only [List.map_cons, List.map_nil, opAt, List.getElem?_toArray, List.getElem?_cons_zero, List.getElem?_cons_succ, Option.getD_some]
      repeat (go_big_quiet_step (fail))
      refine wpQuiet_nil ?_
      go_wp2_with (refine wpList_store_row rfl 34 (.tmp 4) (.tmp 26) rfl (w.heap.size + 2) #[.bool false, .slice none 0 0, .slice A7 NK c7, .slice A8 ND c8] rfl rfl 34 #[.bool false, .slice none 0 0, .slice none 0 0, .slice none 0 0] (row_stays HR2.out B8.out) (by kernel_rfl) rfl (by simp [Value.oneCell']) ?_)
      obtain ⟨V, hV⟩ : ∃ V, V = x8.setRow (w.heap.size + 2) #[.bool false, .slice none 0 0, .slice A7 NK c7, .slice A8 ND c8] := ⟨_, rfl⟩
      rw [← hV]
      have HV4 : Hid (V.heap[w.heap.size + 2]? = some (.cells #[.bool false, .slice none 0 0, .slice A7 NK c7, .slice A8 ND c8] 34 (0, 0))) := Lib.hid (by rw [hV]; exact setRow_heap _ _ _ _ _ _ (row_stays HR2.out B8.out))
      have HVB : Hid (Below (w.heap.size + 2) W V) := Lib.hid (by rw [hV]; exact below_setRow (B8.out.mono H2.out) (Nat.le_refl _) _)
      have VK : Hid (V.ownsRow w.heap.size 46 2 (.slice A7 NK c7) NK (uK1 ++ uK2)) := Lib.hid (by rw [hV]; exact row_keep RK8.out (fun k cur hk hc => setRow_other _ _ _ _ (fun e => by subst e; have h9 := row_stays HR2.out B8.out; rw [h9] at hc; injection hc with hc; injection hc with _ hc; exact absurd hc (by decide))))
      have VD : Hid (V.ownsRow w.heap.size 3 1 (.slice A8 ND c8) ND (uD1 ++ uD2)) := Lib.hid (by rw [hV]; exact row_keep RDn8.out (fun k cur hk hc => setRow_other _ _ _ _ (fun e => by subst e; have h9 := row_stays HR2.out B8.out; rw [h9] at hc; injection hc with hc; injection hc with _ hc; exact absurd hc (by decide))))
      clear hV
      refine ⟨⟨⟨_, HVB.out⟩, rfl⟩, ?_⟩
      try simp only [Act.put]
      rw [wpWays_done4]
      try simp only [List.map_nil]
      refine wpQuiet_nil ?_
      go_wp2_with fail
      exact bodyPost_ret (v := .agg #[.bool false, .slice none 0 0, .slice A7 NK c7, .slice A8 ND c8]) (results_cell_row (p := 4) (ty := 34) rfl _ _ (w.heap.size + 2) 34 _ (0, 0) _ rfl HV4.out Try.underlying34 rfl (by kernel_rfl)) rfl ⟨⟨A7, c7, A8, c8, rfl, VK.out, VD.out⟩, HB.out.trans (HVB.out.mono (by omega))⟩
  · skip
    go_wp2_with fail
    obtain ⟨x10, ex10⟩ : ∃ x, x = wd.alloc (.cells #[.slice DA1 nd1 dc1, .slice DA2 nd2 dc2] 24) := ⟨_, rfl⟩
    rw [← ex10]
    have b10 : Below wd.heap.size wd x10 := by rw [ex10]; exact (Below.refl _ _).alloc (Nat.le_refl _) _
    have GDn10 : Hid (x10.heap[wd.heap.size]? = some (.cells #[.slice DA1 nd1 dc1, .slice DA2 nd2 dc2] 24 (0, 0))) := Lib.hid (by rw [ex10]; exact heap_alloc_new _ _)
    have B10 := Lib.hid (B0.out.trans (b10.mono B0.out.size))
    clear b10 ex10
    refine ⟨⟨⟨_, B10.out.mono H2.out⟩, rfl⟩, ?_⟩
    try simp only [Act.put, List.setIfInBounds_toArray, List.set_cons_zero, List.set_cons_succ]
    rw [wpWays_one4]
    try simp only [List.map_nil, opAt, List.getElem?_toArray, List.getElem?_cons_zero, List.getElem?_cons_succ, Option.getD_some]
    refine wpQuiet_nil ?_
    go_wp2_with fail
    obtain ⟨x11, ex11⟩ : ∃ x, x = x10.alloc (.cells #[.slice KA1 nk1 kc1, .slice KA2 nk2 kc2] 32) := ⟨_, rfl⟩
    rw [← ex11]
    have b11 : Below x10.heap.size x10 x11 := by rw [ex11]; exact (Below.refl _ _).alloc (Nat.le_refl _) _
    have GKn11 : Hid (x11.heap[x10.heap.size]? = some (.cells #[.slice KA1 nk1 kc1, .slice KA2 nk2 kc2] 32 (0, 0))) := Lib.hid (by rw [ex11]; exact heap_alloc_new _ _)
    have GD11 := Lib.hid (row_stays GDn10.out b11)
    have B11 := Lib.hid (B10.out.trans (b11.mono B10.out.size))
    clear b11 ex11
    refine ⟨⟨⟨_, B11.out.mono H2.out⟩, rfl⟩, ?_⟩
    try simp only [Act.put, List.setIfInBounds_toArray, List.set_cons_zero, List.set_cons_succ]
    rw [wpWays_one4]
    try simp only [List.map_nil, opAt, List.getElem?_toArray, List.getElem?_cons_zero, List.getElem?_cons_succ, Option.getD_some]
    refine wpQuiet_nil ?_
    go_wp2_with (go_at_call 50; refine (concat_key x10.heap.size KA1 KA2 nk1 kc1 nk2 kc2 NK HNK.out uK1 uK2 LK1.out LK2.out OK1.out OK2.out HLK.out _ GKn11.out (HK1.out.below B11.out) (HK2.out.below B11.out)).mono ?_; rintro e x12 ⟨A12, c12, rfl, ho12, b12⟩)
    have RKn12 := Lib.hid (row_mono ho12 (show w.heap.size ≤ x11.heap.size from by have := B11.out.size; have := H2.out; omega))
    have GD12 := Lib.hid (row_stays GD11.out b12)
    have B12 := Lib.hid (B11.out.trans (b12.mono B11.out.size))
    clear b12 ho12
    refine ⟨⟨⟨_, B12.out.mono H2.out⟩, rfl⟩, ?_⟩
    try simp only [Act.put, List.setIfInBounds_toArray, List.set_cons_zero, List.set_cons_succ]
    rw [wpWays_one4]
    try simp only [List.map_nil, opAt, List.getElem?_toArray, List.getElem?_cons_zero, List.getElem?_cons_succ, Option.getD_some]
    refine wpQuiet_nil ?_
    go_wp2_with (go_at_call 51; refine (concat_int wd.heap.size DA1 DA2 nd1 dc1 nd2 dc2 ND HND.out uD1 uD2 LD1.out LD2.out OD1.out OD2.out HLD.out _ GD12.out (HD1.out.below B12.out) (HD2.out.below B12.out)).mono ?_; rintro e x13 ⟨A13, c13, rfl, ho13, b13⟩)
    have RDn13 := Lib.hid (row_mono ho13 (show w.heap.size ≤ x12.heap.size from by have := B12.out.size; have := H2.out; omega))
    have RK13 := Lib.hid (row_below RKn12.out b13)
    have B13 := Lib.hid (B12.out.trans (b13.mono B12.out.size))
    clear b13 ho13
    refine ⟨⟨⟨_, B13.out.mono H2.out⟩, rfl⟩, ?_⟩
    try simp only [Act.put, List.setIfInBounds_toArray, List.set_cons_zero, List.set_cons_succ]
    rw [wpWays_one4]
    try simp only [List.map_cons, List.map_nil, opAt, List.getElem?_toArray, List.getElem?_cons_zero, List.getElem?_cons_succ, Option.getD_some]
    repeat (go_big_quiet_step (fail))
    refine wpQuiet_nil ?_
    go_wp2_with (refine wpList_store_row rfl 34 (.tmp 4) (.tmp 26) rfl (w.heap.size + 2) #[.bool false, .slice none 0 0, .slice A12 NK c12, .slice A13 ND c13] rfl rfl 34 #[.bool false, .slice none 0 0, .slice none 0 0, .slice none 0 0] (row_stays HR2.out B13.out) (by kernel_rfl) rfl (by simp [Value.oneCell']) ?_)
    obtain ⟨V, hV⟩ : ∃ V, V = x13.setRow (w.heap.size + 2) #[.bool false, .slice none 0 0, .slice A12 NK c12, .slice A13 ND c13] := ⟨_, rfl⟩
    rw [← hV]
    have HV4 : Hid (V.heap[w.heap.size + 2]? = some (.cells #[.bool false, .slice none 0 0, .slice A12 NK c12, .slice A13 ND c13] 34 (0, 0))) := Lib.hid (by rw [hV]; exact setRow_heap _ _ _ _ _ _ (row_stays HR2.out B13.out))
    have HVB : Hid (Below (w.heap.size + 2) W V) := Lib.hid (by rw [hV]; exact below_setRow (B13.out.mono H2.out) (Nat.le_refl _) _)
    have VK : Hid (V.ownsRow w.heap.size 46 2 (.slice A12 NK c12) NK (uK1 ++ uK2)) := Lib.hid (by rw [hV]; exact row_keep RK13.out (fun k cur hk hc => setRow_other _ _ _ _ (fun e => by subst e; have h9 := row_stays HR2.out B13.out; rw [h9] at hc; injection hc with hc; injection hc with _ hc; exact absurd hc (by decide))))
    have VD : Hid (V.ownsRow w.heap.size 3 1 (.slice A13 ND c13) ND (uD1 ++ uD2)) := Lib.hid (by rw [hV]; exact row_keep RDn13.out (fun k cur hk hc => setRow_other _ _ _ _ (fun e => by subst e; have h9 := row_stays HR2.out B13.out; rw [h9] at hc; injection hc with hc; injection hc with _ hc; exact absurd hc (by decide))))
    clear hV
    refine ⟨⟨⟨_, HVB.out⟩, rfl⟩, ?_⟩
    try simp only [Act.put]
    rw [wpWays_done4]
    try simp only [List.map_nil]
    refine wpQuiet_nil ?_
    go_wp2_with fail
    exact bodyPost_ret (v := .agg #[.bool false, .slice none 0 0, .slice A12 NK c12, .slice A13 ND c13]) (results_cell_row (p := 4) (ty := 34) rfl _ _ (w.heap.size + 2) 34 _ (0, 0) _ rfl HV4.out Try.underlying34 rfl (by kernel_rfl)) rfl ⟨⟨A12, c12, A13, c13, rfl, VK.out, VD.out⟩, HB.out.trans (HVB.out.mono (by omega))⟩
end Go.Proofs.Ytgkddhncfaeidaa

namespace Go.Proofs.Ytgkddhncfaeidaa
open Go.ChangeShapes Go.WideShapes Go.ChangeAt Go.RowKit CrcM PageM
set_option linter.unusedVariables false

theorem results_cells2 {P : Program} {fn : Func} {p u : Tmp} {ty : TypeId} (h : fn.results = #[.cell p ty, .cell u ty]) (tmps : Array Value) (w : World) (g g2 : Nat) (t : TypeId) (cs cs2 : Array Value) (fr fr2 : Nat × Nat) (d : TypeDesc)
    (hp : tmps.getD p undef = .pointer (some ⟨g, 0, none⟩)) (hg : w.heap[g]? = some (.cells cs t fr)) (hp2 : tmps.getD u undef = .pointer (some ⟨g2, 0, none⟩)) (hg2 : w.heap[g2]? = some (.cells cs2 t fr2))
    (hu : P.underlying ty = some d) (hd : (match d with | .struct _ | .array _ _ => true | _ => false) = true) (hi : (P.info? ty).map (·.size) = some cs.size) (hi2 : (P.info? ty).map (·.size) = some cs2.size) :
    (results fn tmps).run P w = .ok (.tuple #[.agg cs, .agg cs2]) w := by
  have hp' : tmps[p]?.getD undef = .pointer (some ⟨g, 0, none⟩) := by simpa using hp
  have hp2' : tmps[u]?.getD undef = .pointer (some ⟨g2, 0, none⟩) := by simpa using hp2
  simp [results, h, hp', hp2', asAddr, run_loadVar_row w g t ty cs fr d hg hu hd hi, run_loadVar_row w g2 t ty cs2 fr2 d hg2 hu hd hi2]
theorem size_leaf (EA KA DA : Option Addr) (ne ec nk kc nd dc : Nat) (w : World) : Calls Try.prog 15 #[.agg #[.bool true, .slice EA ne ec, .slice KA nk kc, .slice DA nd dc]] w fun e w' => e = .returned (.int .i64 (ne : Int)) ∧ Below w.heap.size w w' := by
  go_enter Try.func15, Try.ntmps15
  go_wp2_with fail
  go_ret
  exact ⟨rfl, (Below.refl _ _).alloc (Nat.le_refl _) _⟩
theorem size_inner (EA KA DA : Option Addr) (ne ec nk kc nd dc : Nat) (w : World) : Calls Try.prog 15 #[.agg #[.bool false, .slice EA ne ec, .slice KA nk kc, .slice DA nd dc]] w fun e w' => e = .returned (.int .i64 (nd : Int)) ∧ Below w.heap.size w w' := by
  go_enter Try.func15, Try.ntmps15
  go_wp2_with fail
  go_ret
  exact ⟨rfl, (Below.refl _ _).alloc (Nat.le_refl _) _⟩

set_option maxRecDepth 100000 in
set_option maxHeartbeats 4000000 in
theorem halves_leaf (b o n c hf : Nat) (KA DA : Option Addr) (nk kc nd dc : Nat) (hh : hf = (n + 1) / 2) (h2 : 2 ≤ n) (hc : n ≤ c) (hn : n ≤ 1000000000000) (hm : c ≤ 9223372036854775807) (w : World) :
    Calls Try.prog 48 #[.agg #[.bool true, .slice (some ⟨b, o, none⟩) n c, .slice KA nk kc, .slice DA nd dc]] w fun e w' => e = .returned (.tuple #[.agg #[.bool true, .slice (some ⟨b, o, none⟩) hf c, .slice none 0 0, .slice none 0 0], .agg #[.bool true, .slice (some ⟨b, o + hf * 8, none⟩) (n - hf) (c - hf), .slice none 0 0, .slice none 0 0]]) ∧ Below w.heap.size w w' := by
  obtain ⟨W, eW⟩ : ∃ W, W = ((w.alloc (.cells #[.bool true, .slice (some ⟨b, o, none⟩) n c, .slice KA nk kc, .slice DA nd dc] 34)).alloc (.cells #[.bool false, .slice none 0 0, .slice none 0 0, .slice none 0 0] 34)).alloc (.cells #[.bool false, .slice none 0 0, .slice none 0 0, .slice none 0 0] 34) := ⟨_, rfl⟩
  have hb : Below w.heap.size w W := by rw [eW]; exact (((Below.refl _ _).alloc (Nat.le_refl _) _).alloc (by simp) _).alloc (by simp; omega) _
  have hr0 : W.heap[w.heap.size]? = some (.cells #[.bool true, .slice (some ⟨b, o, none⟩) n c, .slice KA nk kc, .slice DA nd dc] 34 (0, 0)) := by rw [eW]; exact alloc3_0 _ _ _ _ (fun u => heap_alloc_new u _)
  have hr1 : W.heap[w.heap.size + 1]? = some (.cells #[.bool false, .slice none 0 0, .slice none 0 0, .slice none 0 0] 34 (0, 0)) := by rw [eW]; exact alloc3_1 _ _ _ _ (fun u => heap_alloc_new u _)
  have hr2 : W.heap[w.heap.size + 2]? = some (.cells #[.bool false, .slice none 0 0, .slice none 0 0, .slice none 0 0] 34 (0, 0)) := by rw [eW]; exact alloc3_2 _ _ _ _ (fun u => heap_alloc_new u _)
  have hWs : W.heap.size = w.heap.size + 3 := by rw [eW]; simp
  have HB := Lib.hid hb
  have HR0 := Lib.hid hr0
  have HR1 := Lib.hid hr1
  have HR2 := Lib.hid hr2
  have HWS := Lib.hid hWs
  clear hb hr0 hr1 hr2 hWs
  have q1 : wrap64 ((n : Int) + 1) = (n : Int) + 1 := by unfold wrap64; omega
  have q2 : ((n : Int) + 1).tdiv 2 = (hf : Int) := by rw [Int.tdiv_eq_ediv_of_nonneg (by omega)]; omega
  have q3 : wrap64 (hf : Int) = (hf : Int) := by unfold wrap64; omega
  have HH := Lib.hid hh
  clear hh
  go_enter Try.func48, Try.ntmps48
  go_upto_region 1 with fail
  rw [← eW]
  clear eW
  go_upto_region 2 with (first
    | (refine wpList_load_row rfl 34 (.tmp 1) rfl w.heap.size rfl 34 _ (0, 0) _ HR0.out Try.underlying34 rfl (by kernel_rfl) ?_)
    | (go_at_call 15; refine (size_leaf _ _ _ _ _ _ _ _ _ _).mono ?_; rintro e w1 ⟨rfl, hb1⟩; have HB1 := Lib.hid hb1; clear hb1))
  rw [q3]
  clear q1 q2 q3
  have G9 := row_stays HR0.out HB1.out
  have hs1 := HB1.out.size
  have a0 := nd_cell G9 0 _ rfl
  simp only [List.getElem_toArray, List.getElem_cons_zero] at a0
  go_upto_region 3 with fail
  have G0 : ∀ y : SubW (w.heap.size + 1) w1, y.at_.cell? ⟨w.heap.size, 1, none⟩ = some (.slice (some ⟨b, o, none⟩) n c) := fun y => nd_cell ((y.ok_.block _ (by omega)).trans G9) 1 _ rfl
  have k1 : (0 : Int) ≤ (hf : Int) := by omega
  have k2 : hf ≤ n := by have := HH.out; omega
  have k3 : hf ≤ c := by have := HH.out; omega
  have k4 : c ≠ hf := by have := HH.out; omega
  have k5 : n - hf ≤ c - hf := by have := HH.out; omega
  clear a0 G9
  refine region_ways4 (w.heap.size + 1) (by have := HWS.out; omega) (.one [0, 1, 2, 3, 4, 5, 6, 7, 8, 9] 10 (.one [] 11 (.done []))) (by kernel_rfl) (by kernel_rfl) ?_
  rintro wd hbd
  have BD := Lib.hid (HB1.out.trans (hbd.mono HB1.out.size))
  have BE := Lib.hid hbd
  clear hbd
  rw [wpWays_one4]
  try simp only [List.map_cons, List.map_nil, opAt, List.getElem?_toArray, List.getElem?_cons_zero, List.getElem?_cons_succ, Option.getD_some]
  repeat (go_big_quiet_step (fail))
  refine wpQuiet_nil ?_
  go_wp2_with (refine wpList_store_row rfl 34 (.tmp 2) (.tmp 16) rfl (w.heap.size + 1) #[.bool true, .slice (some ⟨b, o, none⟩) hf c, .slice none 0 0, .slice none 0 0] rfl rfl 34 #[.bool false, .slice none 0 0, .slice none 0 0, .slice none 0 0] (row_stays HR1.out BD.out) (by kernel_rfl) rfl (by simp [Value.oneCell']) ?_)
  obtain ⟨V1, hV1⟩ : ∃ V, V = wd.setRow (w.heap.size + 1) #[.bool true, .slice (some ⟨b, o, none⟩) hf c, .slice none 0 0, .slice none 0 0] := ⟨_, rfl⟩
  rw [← hV1]
  have E1 : Hid (V1.heap[w.heap.size + 1]? = some (.cells #[.bool true, .slice (some ⟨b, o, none⟩) hf c, .slice none 0 0, .slice none 0 0] 34 (0, 0))) := Lib.hid (by rw [hV1]; exact setRow_heap _ _ _ _ _ _ (row_stays HR1.out BD.out))
  have E2 : Hid (V1.heap[w.heap.size + 2]? = some (.cells #[.bool false, .slice none 0 0, .slice none 0 0, .slice none 0 0] 34 (0, 0))) := Lib.hid (by rw [hV1, setRow_other _ _ _ _ (by omega)]; exact row_stays HR2.out BD.out)
  have BV1 : Hid (Below (w.heap.size + 1) w1 V1) := Lib.hid (by rw [hV1]; exact below_setRow (BE.out.mono (by have := HWS.out; omega)) (Nat.le_refl _) _)
  clear hV1
  refine ⟨⟨⟨_, BV1.out⟩, rfl⟩, ?_⟩
  try simp only [Act.put]
  rw [wpWays_one4]
  try simp only [List.map_nil, opAt, List.getElem?_toArray, List.getElem?_cons_zero, List.getElem?_cons_succ, Option.getD_some]
  refine wpQuiet_nil ?_
  go_wp2_with (refine wpList_store_row rfl 34 (.tmp 3) (.tmp 21) rfl (w.heap.size + 2) #[.bool true, .slice (some ⟨b, o + hf * 8, none⟩) (n - hf) (c - hf), .slice none 0 0, .slice none 0 0] rfl rfl 34 #[.bool false, .slice none 0 0, .slice none 0 0, .slice none 0 0] E2.out (by kernel_rfl) rfl (by simp [Value.oneCell']) ?_)
  obtain ⟨V2, hV2⟩ : ∃ V, V = V1.setRow (w.heap.size + 2) #[.bool true, .slice (some ⟨b, o + hf * 8, none⟩) (n - hf) (c - hf), .slice none 0 0, .slice none 0 0] := ⟨_, rfl⟩
  rw [← hV2]
  have E3 : Hid (V2.heap[w.heap.size + 1]? = some (.cells #[.bool true, .slice (some ⟨b, o, none⟩) hf c, .slice none 0 0, .slice none 0 0] 34 (0, 0))) := Lib.hid (by rw [hV2, setRow_other _ _ _ _ (by omega)]; exact E1.out)
  have E4 : Hid (V2.heap[w.heap.size + 2]? = some (.cells #[.bool true, .slice (some ⟨b, o + hf * 8, none⟩) (n - hf) (c - hf), .slice none 0 0, .slice none 0 0] 34 (0, 0))) := Lib.hid (by rw [hV2]; exact setRow_heap _ _ _ _ _ _ E2.out)
  have BV2 : Hid (Below (w.heap.size + 1) w1 V2) := Lib.hid (by rw [hV2]; exact below_setRow BV1.out (by omega) _)
  clear hV2
  refine ⟨⟨⟨_, BV2.out⟩, rfl⟩, ?_⟩
  try simp only [Act.put]
  rw [wpWays_done4]
  try simp only [List.map_nil]
  refine wpQuiet_nil ?_
  go_wp2_with fail
  exact bodyPost_ret (v := .tuple #[.agg #[.bool true, .slice (some ⟨b, o, none⟩) hf c, .slice none 0 0, .slice none 0 0], .agg #[.bool true, .slice (some ⟨b, o + hf * 8, none⟩) (n - hf) (c - hf), .slice none 0 0, .slice none 0 0]]) (results_cells2 (p := 2) (u := 3) (ty := 34) rfl _ _ (w.heap.size + 1) (w.heap.size + 2) 34 _ _ (0, 0) (0, 0) _ rfl E3.out rfl E4.out Try.underlying34 rfl (by kernel_rfl) (by kernel_rfl)) rfl ⟨rfl, (HB.out.trans (HB1.out.mono HB.out.size)).trans (BV2.out.mono (by omega))⟩
set_option maxRecDepth 100000 in
set_option maxHeartbeats 4000000 in
theorem halves_inner (b o n c b2 o2 c2 hf : Nat) (EA : Option Addr) (ne ec : Nat) (hh : hf = (n + 1) / 2) (h2 : 2 ≤ n) (hc : n ≤ c) (hc2 : n ≤ c2) (hn : n ≤ 1000000000000) (hm : c ≤ 9223372036854775807) (hm2 : c2 ≤ 9223372036854775807) (w : World) :
    Calls Try.prog 48 #[.agg #[.bool false, .slice EA ne ec, .slice (some ⟨b, o, none⟩) n c, .slice (some ⟨b2, o2, none⟩) n c2]] w fun e w' => e = .returned (.tuple #[.agg #[.bool false, .slice none 0 0, .slice (some ⟨b, o, none⟩) hf c, .slice (some ⟨b2, o2, none⟩) hf c2], .agg #[.bool false, .slice none 0 0, .slice (some ⟨b, o + hf * 2, none⟩) (n - hf) (c - hf), .slice (some ⟨b2, o2 + hf, none⟩) (n - hf) (c2 - hf)]]) ∧ Below w.heap.size w w' := by
  obtain ⟨W, eW⟩ : ∃ W, W = ((w.alloc (.cells #[.bool false, .slice EA ne ec, .slice (some ⟨b, o, none⟩) n c, .slice (some ⟨b2, o2, none⟩) n c2] 34)).alloc (.cells #[.bool false, .slice none 0 0, .slice none 0 0, .slice none 0 0] 34)).alloc (.cells #[.bool false, .slice none 0 0, .slice none 0 0, .slice none 0 0] 34) := ⟨_, rfl⟩
  have hb : Below w.heap.size w W := by rw [eW]; exact (((Below.refl _ _).alloc (Nat.le_refl _) _).alloc (by simp) _).alloc (by simp; omega) _
  have hr0 : W.heap[w.heap.size]? = some (.cells #[.bool false, .slice EA ne ec, .slice (some ⟨b, o, none⟩) n c, .slice (some ⟨b2, o2, none⟩) n c2] 34 (0, 0)) := by rw [eW]; exact alloc3_0 _ _ _ _ (fun u => heap_alloc_new u _)
  have hr1 : W.heap[w.heap.size + 1]? = some (.cells #[.bool false, .slice none 0 0, .slice none 0 0, .slice none 0 0] 34 (0, 0)) := by rw [eW]; exact alloc3_1 _ _ _ _ (fun u => heap_alloc_new u _)
  have hr2 : W.heap[w.heap.size + 2]? = some (.cells #[.bool false, .slice none 0 0, .slice none 0 0, .slice none 0 0] 34 (0, 0)) := by rw [eW]; exact alloc3_2 _ _ _ _ (fun u => heap_alloc_new u _)
  have hWs : W.heap.size = w.heap.size + 3 := by rw [eW]; simp
  have HB := Lib.hid hb
  have HR0 := Lib.hid hr0
  have HR1 := Lib.hid hr1
  have HR2 := Lib.hid hr2
  have HWS := Lib.hid hWs
  clear hb hr0 hr1 hr2 hWs
  have q1 : wrap64 ((n : Int) + 1) = (n : Int) + 1 := by unfold wrap64; omega
  have q2 : ((n : Int) + 1).tdiv 2 = (hf : Int) := by rw [Int.tdiv_eq_ediv_of_nonneg (by omega)]; omega
  have q3 : wrap64 (hf : Int) = (hf : Int) := by unfold wrap64; omega
  have HH := Lib.hid hh
  clear hh
  go_enter Try.func48, Try.ntmps48
  go_upto_region 1 with fail
  rw [← eW]
  clear eW
  go_upto_region 2 with (first
    | (refine wpList_load_row rfl 34 (.tmp 1) rfl w.heap.size rfl 34 _ (0, 0) _ HR0.out Try.underlying34 rfl (by kernel_rfl) ?_)
    | (go_at_call 15; refine (size_inner _ _ _ _ _ _ _ _ _ _).mono ?_; rintro e w1 ⟨rfl, hb1⟩; have HB1 := Lib.hid hb1; clear hb1))
  rw [q3]
  clear q1 q2 q3
  have G9 := row_stays HR0.out HB1.out
  have hs1 := HB1.out.size
  have a0 := nd_cell G9 0 _ rfl
  simp only [List.getElem_toArray, List.getElem_cons_zero] at a0
  have a2 := nd_cell G9 2 _ rfl
  simp only [List.getElem_toArray, List.getElem_cons_zero, List.getElem_cons_succ] at a2
  have q4 : min (hf : Int) (n : Int) = (hf : Int) := by have := HH.out; omega
  go_upto_region 5 with fail
  clear q4 a2
  have G0 : ∀ y : SubW (w.heap.size + 1) w1, y.at_.cell? ⟨w.heap.size, 2, none⟩ = some (.slice (some ⟨b, o, none⟩) n c) := fun y => nd_cell ((y.ok_.block _ (by omega)).trans G9) 2 _ rfl
  have G1 : ∀ y : SubW (w.heap.size + 1) w1, y.at_.cell? ⟨w.heap.size, 3, none⟩ = some (.slice (some ⟨b2, o2, none⟩) n c2) := fun y => nd_cell ((y.ok_.block _ (by omega)).trans G9) 3 _ rfl
  have k1 : (0 : Int) ≤ (hf : Int) := by omega
  have k2 : hf ≤ n := by have := HH.out; omega
  have k3 : hf ≤ c := by have := HH.out; omega
  have k4 : c ≠ hf := by have := HH.out; omega
  have k5 : n - hf ≤ c - hf := by have := HH.out; omega
  have k6 : hf ≤ c2 := by have := HH.out; omega
  have k7 : c2 ≠ hf := by have := HH.out; omega
  have k8 : n - hf ≤ c2 - hf := by have := HH.out; omega
  clear a0 G9
  refine region_ways4 (w.heap.size + 1) (by have := HWS.out; omega) (.one [0, 1, 2, 3, 4, 5, 6, 7, 8, 9, 10, 11, 12, 13, 14, 15, 16, 17] 18 (.one [] 19 (.done []))) (by kernel_rfl) (by kernel_rfl) ?_
  rintro wd hbd
  have BD := Lib.hid (HB1.out.trans (hbd.mono HB1.out.size))
  have BE := Lib.hid hbd
  clear hbd
  rw [wpWays_one4]
  try simp only [List.map_cons, List.map_nil, opAt, List.getElem?_toArray, List.getElem?_cons_zero, List.getElem?_cons_succ, Option.getD_some]
  repeat (go_big_quiet_step (fail))
  refine wpQuiet_nil ?_
  go_wp2_with (refine wpList_store_row rfl 34 (.tmp 2) (.tmp 35) rfl (w.heap.size + 1) #[.bool false, .slice none 0 0, .slice (some ⟨b, o, none⟩) hf c, .slice (some ⟨b2, o2, none⟩) hf c2] rfl rfl 34 #[.bool false, .slice none 0 0, .slice none 0 0, .slice none 0 0] (row_stays HR1.out BD.out) (by kernel_rfl) rfl (by simp [Value.oneCell']) ?_)
  obtain ⟨V1, hV1⟩ : ∃ V, V = wd.setRow (w.heap.size + 1) #[.bool false, .slice none 0 0, .slice (some ⟨b, o, none⟩) hf c, .slice (some ⟨b2, o2, none⟩) hf c2] := ⟨_, rfl⟩
  rw [← hV1]
  have E1 : Hid (V1.heap[w.heap.size + 1]? = some (.cells #[.bool false, .slice none 0 0, .slice (some ⟨b, o, none⟩) hf c, .slice (some ⟨b2, o2, none⟩) hf c2] 34 (0, 0))) := Lib.hid (by rw [hV1]; exact setRow_heap _ _ _ _ _ _ (row_stays HR1.out BD.out))
  have E2 : Hid (V1.heap[w.heap.size + 2]? = some (.cells #[.bool false, .slice none 0 0, .slice none 0 0, .slice none 0 0] 34 (0, 0))) := Lib.hid (by rw [hV1, setRow_other _ _ _ _ (by omega)]; exact row_stays HR2.out BD.out)
  have BV1 : Hid (Below (w.heap.size + 1) w1 V1) := Lib.hid (by rw [hV1]; exact below_setRow (BE.out.mono (by have := HWS.out; omega)) (Nat.le_refl _) _)
  clear hV1
  refine ⟨⟨⟨_, BV1.out⟩, rfl⟩, ?_⟩
  try simp only [Act.put]
  rw [wpWays_one4]
  try simp only [List.map_nil, opAt, List.getElem?_toArray, List.getElem?_cons_zero, List.getElem?_cons_succ, Option.getD_some]
  refine wpQuiet_nil ?_
  go_wp2_with (refine wpList_store_row rfl 34 (.tmp 3) (.tmp 44) rfl (w.heap.size + 2) #[.bool false, .slice none 0 0, .slice (some ⟨b, o + hf * 2, none⟩) (n - hf) (c - hf), .slice (some ⟨b2, o2 + hf, none⟩) (n - hf) (c2 - hf)] rfl rfl 34 #[.bool false, .slice none 0 0, .slice none 0 0, .slice none 0 0] E2.out (by kernel_rfl) rfl (by simp [Value.oneCell']) ?_)
  obtain ⟨V2, hV2⟩ : ∃ V, V = V1.setRow (w.heap.size + 2) #[.bool false, .slice none 0 0, .slice (some ⟨b, o + hf * 2, none⟩) (n - hf) (c - hf), .slice (some ⟨b2, o2 + hf, none⟩) (n - hf) (c2 - hf)] := ⟨_, rfl⟩
  rw [← hV2]
  have E3 : Hid (V2.heap[w.heap.size + 1]? = some (.cells #[.bool false, .slice none 0 0, .slice (some ⟨b, o, none⟩) hf c, .slice (some ⟨b2, o2, none⟩) hf c2] 34 (0, 0))) := Lib.hid (by rw [hV2, setRow_other _ _ _ _ (by omega)]; exact E1.out)
  have E4 : Hid (V2.heap[w.heap.size + 2]? = some (.cells #[.bool false, .slice none 0 0, .slice (some ⟨b, o + hf * 2, none⟩) (n - hf) (c - hf), .slice (some ⟨b2, o2 + hf, none⟩) (n - hf) (c2 - hf)] 34 (0, 0))) := Lib.hid (by rw [hV2]; exact setRow_heap _ _ _ _ _ _ E2.out)
  have BV2 : Hid (Below (w.heap.size + 1) w1 V2) := Lib.hid (by rw [hV2]; exact below_setRow BV1.out (by omega) _)
  clear hV2
  refine ⟨⟨⟨_, BV2.out⟩, rfl⟩, ?_⟩
  try simp only [Act.put]
  rw [wpWays_done4]
  try simp only [List.map_nil]
  refine wpQuiet_nil ?_
  go_wp2_with fail
  exact bodyPost_ret (v := .tuple #[.agg #[.bool false, .slice none 0 0, .slice (some ⟨b, o, none⟩) hf c, .slice (some ⟨b2, o2, none⟩) hf c2], .agg #[.bool false, .slice none 0 0, .slice (some ⟨b, o + hf * 2, none⟩) (n - hf) (c - hf), .slice (some ⟨b2, o2 + hf, none⟩) (n - hf) (c2 - hf)]]) (results_cells2 (p := 2) (u := 3) (ty := 34) rfl _ _ (w.heap.size + 1) (w.heap.size + 2) 34 _ _ (0, 0) (0, 0) _ rfl E3.out rfl E4.out Try.underlying34 rfl (by kernel_rfl) (by kernel_rfl)) rfl ⟨rfl, (HB.out.trans (HB1.out.mono HB.out.size)).trans (BV2.out.mono (by omega))⟩
end Go.Proofs.Ytgkddhncfaeidaa

namespace Go.Proofs.Ytgkddhncfaeidaa
open Go.ChangeShapes Go.WideShapes Go.ChangeAt Go.RowKit CrcM PageM
set_option linter.unusedVariables false

theorem lenEnC (e : EntD) : (enC e).length = 8 := rfl
theorem lenKyC (k : KeyD) : (kyC k).length = 2 := rfl
theorem flatV_len {α : Type} {f : α → List Value} {m : Nat} (hf : ∀ x, (f x).length = m) : ∀ l : List α, (l.flatMap f).length = l.length * m
  | [] => by simp
  | a :: t => by rw [List.flatMap_cons, List.length_append, hf, flatV_len hf t, List.length_cons, Nat.add_mul, Nat.one_mul, Nat.add_comm]
/-- Cells that lie piece by piece lie as one row. -/
theorem cells_of_flat {α : Type} {f : α → List Value} {m : Nat} (hm : 0 < m) (hf : ∀ x, (f x).length = m) {w : World} {A : Option Addr} {l : List α}
    (h : l ≠ [] → ∃ b off, A = some ⟨b, off, none⟩ ∧ ∀ i x, l[i]? = some x → ∀ j u, (f x)[j]? = some u → w.cell? ⟨b, off + i * m + j, none⟩ = some u) : CellsAt w A (l.flatMap f) := fun hne => by
  obtain ⟨b, off, hA, hc⟩ := h (fun e => hne (by rw [e]; rfl))
  refine ⟨b, off, hA, fun k hk => ?_⟩
  have hlen := flatV_len hf l
  have hi : k / m < l.length := by
    rw [hlen] at hk
    exact (Nat.div_lt_iff_lt_mul hm).2 hk
  have hj : k % m < (f l[k / m]).length := by rw [hf]; exact Nat.mod_lt _ hm
  have e1 := flat_get hf l (k / m) l[k / m] (k % m) (f l[k / m])[k % m] (List.getElem?_eq_getElem hi) (List.getElem?_eq_getElem hj)
  have ek : k / m * m + k % m = k := Nat.div_add_mod' k m
  rw [ek, List.getElem?_eq_getElem hk, Option.some.injEq] at e1
  have e2 := hc (k / m) l[k / m] (List.getElem?_eq_getElem hi) (k % m) _ (List.getElem?_eq_getElem hj)
  rw [Nat.add_assoc, ek] at e2
  rw [e2, e1]
theorem EnAt.cells {w : World} {A : Option Addr} {es : List EntD} (h : EnAt w A es) : CellsAt w A (es.flatMap enC) := cells_of_flat (by decide) lenEnC fun hne => by
  obtain ⟨b, off, hA, hc⟩ := h hne
  refine ⟨b, off, hA, fun i x hx j u hu => ?_⟩
  obtain ⟨k0, k1, k2, k3, k4, k5, k6, k7⟩ := hc i x hx
  match j, hu with
  | 0, hu => simp [enC] at hu; subst hu; exact k0
  | 1, hu => simp [enC] at hu; subst hu; exact k1
  | 2, hu => simp [enC] at hu; subst hu; exact k2
  | 3, hu => simp [enC] at hu; subst hu; exact k3
  | 4, hu => simp [enC] at hu; subst hu; exact k4
  | 5, hu => simp [enC] at hu; subst hu; exact k5
  | 6, hu => simp [enC] at hu; subst hu; exact k6
  | 7, hu => simp [enC] at hu; subst hu; exact k7
  | j + 8, hu => simp [enC] at hu
theorem KyAt.cells {w : World} {A : Option Addr} {ks : List KeyD} (h : KyAt w A ks) : CellsAt w A (ks.flatMap kyC) := cells_of_flat (by decide) lenKyC fun hne => by
  obtain ⟨b, off, hA, hc⟩ := h hne
  refine ⟨b, off, hA, fun i x hx j u hu => ?_⟩
  obtain ⟨k0, k1⟩ := hc i x hx
  match j, hu with
  | 0, hu => simp [kyC] at hu; subst hu; exact k0
  | 1, hu => simp [kyC] at hu; subst hu; exact k1
  | j + 2, hu => simp [kyC] at hu
theorem flat_one {α : Type} {f : α → List Value} (hf : ∀ x, ∀ u ∈ f x, u.oneCell' = true) (l : List α) : ∀ u ∈ l.flatMap f, u.oneCell' = true := fun u hu => by
  obtain ⟨x, _, hx⟩ := List.mem_flatMap.1 hu
  exact hf x u hx
/-- A node whose three rows are one's own, from a block on. -/
def OwnN (w : World) (base : Nat) (n : NodeD) (l : NdL) : Prop :=
  w.ownsRow base 77 8 (.slice l.EA n.es.length l.ec) n.es.length (n.es.flatMap enC) ∧ w.ownsRow base 46 2 (.slice l.KA n.ks.length l.kc) n.ks.length (n.ks.flatMap kyC) ∧ w.ownsRow base 3 1 (.slice l.DA n.ds.length l.dc) n.ds.length (n.ds.map kdC)
theorem OwnN.at {w : World} {base : Nat} {n : NodeD} {l : NdL} (h : OwnN w base n l) : NodeAt w n l :=
  { e := EnAt.of_row h.1, k := KyAt.of_row h.2.1, d := KdAt.of_row h.2.2, ec := (row_cap h.1).1, kc := (row_cap h.2.1).1, dc := (row_cap h.2.2).1, em := (row_cap h.1).2, km := (row_cap h.2.1).2, dm := (row_cap h.2.2).2 }
theorem OwnN.below {w w' : World} {base : Nat} {n : NodeD} {l : NdL} (h : OwnN w base n l) (hb : Below w.heap.size w w') : OwnN w' base n l := ⟨row_below h.1 hb, row_below h.2.1 hb, row_below h.2.2 hb⟩
theorem OwnN.mono {w : World} {base base' : Nat} {n : NodeD} {l : NdL} (h : OwnN w base n l) (hb : base' ≤ base) : OwnN w base' n l := ⟨row_mono h.1 hb, row_mono h.2.1 hb, row_mono h.2.2 hb⟩
/-- A row of nodes is grown: the nodes' own rows stay. -/
theorem OwnN.beside {w w' : World} {base base' m sz : Nat} {n : NodeD} {l : NdL} {v : Value} {us : List Value} (h : OwnN w base n l) (ho : w.ownsRow base' 34 sz v m us) (hg : w.grownBy w' v.ownBlock) : OwnN w' base n l :=
  ⟨row_keep h.1 (fun k cur _ hc => typed_kept ho hg (by decide) hc), row_keep h.2.1 (fun k cur _ hc => typed_kept ho hg (by decide) hc), row_keep h.2.2 (fun k cur _ hc => typed_kept ho hg (by decide) hc)⟩

set_option maxRecDepth 100000 in
set_option maxHeartbeats 4000000 in
theorem clone_node (lf : Bool) (EA KA DA : Option Addr) (ne ec nk kc nd dc : Nat) (uE uK uD : List Value) (lE : uE.length = ne * 8) (lK : uK.length = nk * 2) (lD : uD.length = nd * 1) (oE : ∀ u ∈ uE, u.oneCell' = true) (oK : ∀ u ∈ uK, u.oneCell' = true) (oD : ∀ u ∈ uD, u.oneCell' = true)
    (fE : ne * 64 ≤ 140737488355328) (fK : nk * 16 ≤ 140737488355328) (fD : nd * 8 ≤ 140737488355328) (cE : ne ≤ ec) (cK : nk ≤ kc) (cD : nd ≤ dc) (mE : ec ≤ maxLen) (mK : kc ≤ maxLen) (mD : dc ≤ maxLen) (w : World) (hE : CellsAt w EA uE) (hK : CellsAt w KA uK) (hD : CellsAt w DA uD) :
    Calls Try.prog 47 #[.agg #[.bool lf, .slice EA ne ec, .slice KA nk kc, .slice DA nd dc]] w fun e w' => ∃ l' : NdL, e = .returned (.agg #[.bool lf, .slice l'.EA ne l'.ec, .slice l'.KA nk l'.kc, .slice l'.DA nd l'.dc]) ∧ (w'.ownsRow w.heap.size 77 8 (.slice l'.EA ne l'.ec) ne uE ∧ w'.ownsRow w.heap.size 46 2 (.slice l'.KA nk l'.kc) nk uK ∧ w'.ownsRow w.heap.size 3 1 (.slice l'.DA nd l'.dc) nd uD) ∧ Below w.heap.size w w' := by
  obtain ⟨W, eW⟩ : ∃ W, W = (w.alloc (.cells #[.bool lf, .slice EA ne ec, .slice KA nk kc, .slice DA nd dc] 34)).alloc (.cells #[.bool false, .slice none 0 0, .slice none 0 0, .slice none 0 0] 34) := ⟨_, rfl⟩
  have hb : Below w.heap.size w W := by rw [eW]; exact ((Below.refl _ _).alloc (Nat.le_refl _) _).alloc (by simp) _
  have hr0 : W.heap[w.heap.size]? = some (.cells #[.bool lf, .slice EA ne ec, .slice KA nk kc, .slice DA nd dc] 34 (0, 0)) := by rw [eW]; exact heap_alloc2_old _ _ _
  have hr1 : W.heap[w.heap.size + 1]? = some (.cells #[.bool false, .slice none 0 0, .slice none 0 0, .slice none 0 0] 34 (0, 0)) := by rw [eW]; exact heap_alloc2_new _ _ _
  have hWs : W.heap.size = w.heap.size + 2 := by rw [eW]; simp
  have HB := Lib.hid hb
  have HR1 := Lib.hid hr1
  have HWS := Lib.hid hWs
  have HE := Lib.hid (hE.below hb)
  have HK := Lib.hid (hK.below hb)
  have HD := Lib.hid (hD.below hb)
  have LE := Lib.hid lE
  have LK := Lib.hid lK
  have LD := Lib.hid lD
  have OE := Lib.hid oE
  have OK := Lib.hid oK
  have OD := Lib.hid oD
  have FE := Lib.hid fE
  have FK := Lib.hid fK
  have FD := Lib.hid fD
  have CC := Lib.hid (And.intro cE (And.intro cK (And.intro cD (And.intro mE (And.intro mK mD)))))
  have G0 : ∀ y : SubW (w.heap.size + 1) W, y.at_.cell? ⟨w.heap.size, 0, none⟩ = some (.bool lf) := fun y => nd_cell ((y.ok_.block _ (by omega)).trans hr0) 0 _ rfl
  have G1 : ∀ y : SubW (w.heap.size + 1) W, y.at_.cell? ⟨w.heap.size, 1, none⟩ = some (.slice EA ne ec) := fun y => nd_cell ((y.ok_.block _ (by omega)).trans hr0) 1 _ rfl
  have G2 : ∀ y : SubW (w.heap.size + 1) W, y.at_.cell? ⟨w.heap.size, 2, none⟩ = some (.slice KA nk kc) := fun y => nd_cell ((y.ok_.block _ (by omega)).trans hr0) 2 _ rfl
  have G3 : ∀ y : SubW (w.heap.size + 1) W, y.at_.cell? ⟨w.heap.size, 3, none⟩ = some (.slice DA nd dc) := fun y => nd_cell ((y.ok_.block _ (by omega)).trans hr0) 3 _ rfl
  have H1 : Hid (w.heap.size + 1 ≤ W.heap.size) := Lib.hid (by omega)
  clear hb hr0 hr1 hWs hE hK hD lE lK lD oE oK oD fE fK fD cE cK cD mE mK mD
  go_enter Try.func47, Try.ntmps47
  go_upto_region 1 with fail
  rw [← eW]
  clear eW
  refine region_ways4 (w.heap.size + 1) H1.out (.one [0, 1, 2, 3, 5, 6, 8, 9] 4 (.one [] 7 (.one [] 10 (.one [11] 12 (.done []))))) (by kernel_rfl) (by kernel_rfl) ?_
  rintro wd hbd
  have B0 := Lib.hid hbd
  clear hbd
  rw [wpWays_one4]
  simp only [List.map_cons, List.map_nil, opAt, List.getElem?_toArray, List.getElem?_cons_zero, List.getElem?_cons_succ, Option.getD_some]
  repeat (go_big_quiet_step (fail))
  clear G0 G1 G2 G3
  refine wpQuiet_nil ?_
  go_wp2_with (go_at_call 66; refine (clone_ent EA ne ec uE LE.out OE.out FE.out CC.out.1 CC.out.2.2.2.1 _ (HE.out.below B0.out)).mono ?_; rintro e x1 ⟨A1, c1, rfl, ho1, b1⟩; have R1 := Lib.hid (row_mono ho1 (show w.heap.size ≤ wd.heap.size from by have := B0.out.size; have := H1.out; omega)); have B1 := Lib.hid (B0.out.trans (b1.mono B0.out.size)); clear b1 ho1)
  refine ⟨⟨⟨_, B1.out.mono H1.out⟩, rfl⟩, ?_⟩
  rw [wpWays_one4]
  simp only [List.map_nil, opAt, List.getElem?_toArray, List.getElem?_cons_zero, List.getElem?_cons_succ, Option.getD_some]
  refine wpQuiet_nil ?_
  go_wp2_with (go_at_call 67; refine (clone_key KA nk kc uK LK.out OK.out FK.out CC.out.2.1 CC.out.2.2.2.2.1 _ (HK.out.below B1.out)).mono ?_; rintro e x2 ⟨A2, c2, rfl, ho2, b2⟩; have R2 := Lib.hid (row_mono ho2 (show w.heap.size ≤ x1.heap.size from by have := B1.out.size; have := H1.out; omega)); have R12 := Lib.hid (row_below R1.out b2); have B2 := Lib.hid (B1.out.trans (b2.mono B1.out.size)); clear b2 ho2)
  refine ⟨⟨⟨_, B2.out.mono H1.out⟩, rfl⟩, ?_⟩
  rw [wpWays_one4]
  simp only [List.map_nil, opAt, List.getElem?_toArray, List.getElem?_cons_zero, List.getElem?_cons_succ, Option.getD_some]
  refine wpQuiet_nil ?_
  go_wp2_with (go_at_call 68; refine (clone_int DA nd dc uD LD.out OD.out FD.out CC.out.2.2.1 CC.out.2.2.2.2.2 _ (HD.out.below B2.out)).mono ?_; rintro e x3 ⟨A3, c3, rfl, ho3, b3⟩; have R3 := Lib.hid (row_mono ho3 (show w.heap.size ≤ x2.heap.size from by have := B2.out.size; have := H1.out; omega)); have R13 := Lib.hid (row_below R12.out b3); have R23 := Lib.hid (row_below R2.out b3); have B3 := Lib.hid (B2.out.trans (b3.mono B2.out.size)); clear b3 ho3)
  refine ⟨⟨⟨_, B3.out.mono H1.out⟩, rfl⟩, ?_⟩
  rw [wpWays_one4]
  simp only [List.map_cons, List.map_nil, opAt, List.getElem?_toArray, List.getElem?_cons_zero, List.getElem?_cons_succ, Option.getD_some]
  repeat (go_big_quiet_step (fail))
  refine wpQuiet_nil ?_
  go_wp2_with (refine wpList_store_row rfl 34 (.tmp 2) (.tmp 14) rfl (w.heap.size + 1) #[.bool lf, .slice A1 ne c1, .slice A2 nk c2, .slice A3 nd c3] rfl rfl 34 #[.bool false, .slice none 0 0, .slice none 0 0, .slice none 0 0] (row_stays HR1.out B3.out) (by kernel_rfl) rfl (by simp [Value.oneCell']) ?_)
  obtain ⟨V, hV⟩ : ∃ V, V = x3.setRow (w.heap.size + 1) #[.bool lf, .slice A1 ne c1, .slice A2 nk c2, .slice A3 nd c3] := ⟨_, rfl⟩
  rw [← hV]
  have HV4 : Hid (V.heap[w.heap.size + 1]? = some (.cells #[.bool lf, .slice A1 ne c1, .slice A2 nk c2, .slice A3 nd c3] 34 (0, 0))) := Lib.hid (by rw [hV]; exact setRow_heap _ _ _ _ _ _ (row_stays HR1.out B3.out))
  have HVB : Hid (Below (w.heap.size + 1) W V) := Lib.hid (by rw [hV]; exact below_setRow (B3.out.mono H1.out) (Nat.le_refl _) _)
  have VE : Hid (V.ownsRow w.heap.size 77 8 (.slice A1 ne c1) ne uE) := Lib.hid (by rw [hV]; exact row_keep R13.out (fun k cur hk hc => setRow_other _ _ _ _ (fun e => by subst e; have h9 := row_stays HR1.out B3.out; rw [h9] at hc; injection hc with hc; injection hc with _ hc; exact absurd hc (by decide))))
  have VK : Hid (V.ownsRow w.heap.size 46 2 (.slice A2 nk c2) nk uK) := Lib.hid (by rw [hV]; exact row_keep R23.out (fun k cur hk hc => setRow_other _ _ _ _ (fun e => by subst e; have h9 := row_stays HR1.out B3.out; rw [h9] at hc; injection hc with hc; injection hc with _ hc; exact absurd hc (by decide))))
  have VD : Hid (V.ownsRow w.heap.size 3 1 (.slice A3 nd c3) nd uD) := Lib.hid (by rw [hV]; exact row_keep R3.out (fun k cur hk hc => setRow_other _ _ _ _ (fun e => by subst e; have h9 := row_stays HR1.out B3.out; rw [h9] at hc; injection hc with hc; injection hc with _ hc; exact absurd hc (by decide))))
  clear hV
  refine ⟨⟨⟨_, HVB.out⟩, rfl⟩, ?_⟩
  rw [wpWays_done4]
  try simp only [List.map_nil]
  refine wpQuiet_nil ?_
  go_wp2_with fail
  exact bodyPost_ret (v := .agg #[.bool lf, .slice A1 ne c1, .slice A2 nk c2, .slice A3 nd c3]) (results_cell_row (p := 2) (ty := 34) rfl _ _ (w.heap.size + 1) 34 _ (0, 0) _ rfl HV4.out Try.underlying34 rfl (by kernel_rfl)) rfl ⟨⟨A1, c1, A2, c2, A3, c3⟩, rfl, ⟨VE.out, VK.out, VD.out⟩, HB.out.trans (HVB.out.mono (by omega))⟩
theorem clone_any (n : NodeD) (l : NdL) (hf : FitsN n) (w : World) (h : NodeAt w n l) :
    Calls Try.prog 47 #[.agg #[.bool n.leaf, .slice l.EA n.es.length l.ec, .slice l.KA n.ks.length l.kc, .slice l.DA n.ds.length l.dc]] w fun e w' => ∃ l' : NdL, e = .returned (.agg #[.bool n.leaf, .slice l'.EA n.es.length l'.ec, .slice l'.KA n.ks.length l'.kc, .slice l'.DA n.ds.length l'.dc]) ∧ OwnN w' w.heap.size n l' ∧ Below w.heap.size w w' :=
  clone_node n.leaf l.EA l.KA l.DA n.es.length l.ec n.ks.length l.kc n.ds.length l.dc (n.es.flatMap enC) (n.ks.flatMap kyC) (n.ds.map kdC) (flatV_len lenEnC _) (flatV_len lenKyC _) (by simp) (flat_one enC_one _) (flat_one kyC_one _) (kdC_one _) hf.e hf.k hf.d h.ec h.kc h.dc h.em h.km h.dm w h.e.cells h.k.cells h.d.cells
end Go.Proofs.Ytgkddhncfaeidaa

namespace Go.Proofs.Ytgkddhncfaeidaa
open Go.ChangeShapes Go.WideShapes Go.ChangeAt Go.RowKit CrcM PageM
set_option linter.unusedVariables false

def capN (lf : Bool) : Nat := if lf = true then 7 else 16
def leastN (lf : Bool) : Nat := if lf = true then 3 else 8
/-- A leaf has no keys and no children, another node no entries, and as many keys as children. -/
def cleanN (n : NodeD) : Prop := if n.leaf = true then n.ks = [] ∧ n.ds = [] else n.es = [] ∧ n.ks.length = n.ds.length
/-- Parts of a node, one behind the other. -/
structure SplitOf (n : NodeD) (ps : List NodeD) : Prop where
  kind : ∀ p ∈ ps, p.leaf = n.leaf ∧ cleanN p ∧ 1 ≤ p.size ∧ p.size ≤ capN n.leaf
  big : capN n.leaf < n.size → ∀ p ∈ ps, leastN n.leaf ≤ p.size
  one : 1 ≤ n.size → n.size ≤ capN n.leaf → ps = [n]
  none : n.size = 0 → ps = []
  cnt : ps.length ≤ n.size
  es : ps.flatMap (·.es) = n.es
  ks : ps.flatMap (·.ks) = n.ks
  ds : ps.flatMap (·.ds) = n.ds
def partA (n : NodeD) (h : Nat) : NodeD := ⟨n.leaf, n.es.take h, n.ks.take h, n.ds.take h⟩
def partB (n : NodeD) (h : Nat) : NodeD := ⟨n.leaf, n.es.drop h, n.ks.drop h, n.ds.drop h⟩
theorem clean_zero {n : NodeD} (hc : cleanN n) (h0 : n.size = 0) : n.es = [] ∧ n.ks = [] ∧ n.ds = [] := by
  obtain ⟨lf, es, ks, ds⟩ := n
  unfold cleanN at hc
  unfold NodeD.size at h0
  cases lf
  · simp only [Bool.false_eq_true, if_false] at hc h0
    have hd := List.eq_nil_of_length_eq_zero h0
    have hk : ks = [] := List.eq_nil_of_length_eq_zero (by omega)
    exact ⟨hc.1, hk, hd⟩
  · simp only [if_true] at hc h0
    exact ⟨List.eq_nil_of_length_eq_zero h0, hc.1, hc.2⟩
theorem SplitOf.zero {n : NodeD} (hc : cleanN n) (h0 : n.size = 0) : SplitOf n [] := by
  obtain ⟨h1, h2, h3⟩ := clean_zero hc h0
  exact { kind := by simp, big := by simp, one := fun h => by omega, none := fun _ => rfl, cnt := by simp, es := by simp [h1], ks := by simp [h2], ds := by simp [h3] }
theorem SplitOf.single {n : NodeD} (hc : cleanN n) (h1 : 1 ≤ n.size) (h2 : n.size ≤ capN n.leaf) : SplitOf n [n] :=
  { kind := by intro p hp; simp at hp; subst hp; exact ⟨rfl, hc, h1, h2⟩, big := fun h => by omega, one := fun _ _ => rfl, none := fun h => by omega, cnt := by simpa using h1, es := by simp, ks := by simp, ds := by simp }
theorem partA_clean {n : NodeD} (hc : cleanN n) (h : Nat) : cleanN (partA n h) := by
  obtain ⟨lf, es, ks, ds⟩ := n
  unfold cleanN partA at *
  cases lf
  · simp only [Bool.false_eq_true, if_false] at hc ⊢
    exact ⟨by rw [hc.1, List.take_nil], by rw [List.length_take, List.length_take, hc.2]⟩
  · simp only [if_true] at hc ⊢
    exact ⟨by rw [hc.1, List.take_nil], by rw [hc.2, List.take_nil]⟩
theorem partB_clean {n : NodeD} (hc : cleanN n) (h : Nat) : cleanN (partB n h) := by
  obtain ⟨lf, es, ks, ds⟩ := n
  unfold cleanN partB at *
  cases lf
  · simp only [Bool.false_eq_true, if_false] at hc ⊢
    exact ⟨by rw [hc.1, List.drop_nil], by rw [List.length_drop, List.length_drop, hc.2]⟩
  · simp only [if_true] at hc ⊢
    exact ⟨by rw [hc.1, List.drop_nil], by rw [hc.2, List.drop_nil]⟩
theorem partA_size (n : NodeD) (h : Nat) (hh : h ≤ n.size) : (partA n h).size = h := by
  obtain ⟨lf, es, ks, ds⟩ := n
  unfold partA NodeD.size at *
  cases lf
  · simp only [Bool.false_eq_true, if_false] at hh ⊢
    rw [List.length_take]
    omega
  · simp only [if_true] at hh ⊢
    rw [List.length_take]
    omega
theorem partB_size (n : NodeD) (h : Nat) : (partB n h).size = n.size - h := by
  obtain ⟨lf, es, ks, ds⟩ := n
  unfold partB NodeD.size at *
  cases lf
  · simp only [Bool.false_eq_true, if_false]
    rw [List.length_drop]
  · simp only [if_true]
    rw [List.length_drop]
theorem SplitOf.least {n : NodeD} {ps : List NodeD} (h : SplitOf n ps) (hl : leastN n.leaf ≤ n.size) : ∀ p ∈ ps, leastN n.leaf ≤ p.size := fun p hp => by
  by_cases hb : capN n.leaf < n.size
  · exact h.big hb p hp
  · have h1 : 1 ≤ leastN n.leaf := by unfold leastN; split <;> omega
    have := h.one (by omega) (by omega)
    rw [this] at hp
    simp at hp
    subst hp
    exact hl
theorem SplitOf.join {n : NodeD} {ps qs : List NodeD} (hb : capN n.leaf < n.size) (h : Nat) (hh : h = (n.size + 1) / 2) (hp : SplitOf (partA n h) ps) (hq : SplitOf (partB n h) qs) : SplitOf n (ps ++ qs) := by
  have hsA : (partA n h).size = h := partA_size n h (by omega)
  have hsB := partB_size n h
  have lA : (partA n h).leaf = n.leaf := rfl
  have lB : (partB n h).leaf = n.leaf := rfl
  have hle : leastN n.leaf ≤ h ∧ leastN n.leaf ≤ n.size - h := by
    unfold leastN
    unfold capN at hb
    split <;> split at hb <;> simp_all <;> omega
  refine { kind := ?_, big := ?_, one := fun _ h2 => by omega, none := fun h2 => by omega, cnt := ?_, es := ?_, ks := ?_, ds := ?_ }
  · intro p hpp
    rcases List.mem_append.1 hpp with h1 | h1
    · exact hp.kind p h1
    · exact hq.kind p h1
  · intro _ p hpp
    rcases List.mem_append.1 hpp with h1 | h1
    · exact hp.least (by rw [lA, hsA]; exact hle.1) p h1
    · exact hq.least (by rw [lB, hsB]; exact hle.2) p h1
  · have h1 := hp.cnt
    have h2 := hq.cnt
    rw [List.length_append]
    omega
  · rw [List.flatMap_append, hp.es, hq.es]
    exact List.take_append_drop h n.es
  · rw [List.flatMap_append, hp.ks, hq.ks]
    exact List.take_append_drop h n.ks
  · rw [List.flatMap_append, hp.ds, hq.ds]
    exact List.take_append_drop h n.ds
end Go.Proofs.Ytgkddhncfaeidaa

namespace Go.Proofs.Ytgkddhncfaeidaa
open Go.ChangeShapes Go.WideShapes Go.ChangeAt Go.RowKit CrcM PageM
set_option linter.unusedVariables false

theorem infoNodeN : (Try.prog.info? 34).map (fun i => (i.zero, i.size, i.bytes)) = some (some (.agg #[.bool false, .slice none 0 0, .slice none 0 0, .slice none 0 0]), 4, 80) := by kernel_rfl
def ndP (p : NodeD × NdL) : List Value := [.bool p.1.leaf, .slice p.2.EA p.1.es.length p.2.ec, .slice p.2.KA p.1.ks.length p.2.kc, .slice p.2.DA p.1.ds.length p.2.dc]
theorem lenNdP (p : NodeD × NdL) : (ndP p).length = 4 := rfl
theorem ndP_one (p : NodeD × NdL) : ∀ u ∈ ndP p, u.oneCell' = true := by
  intro u hu
  simp [ndP] at hu
  rcases hu with rfl | rfl | rfl | rfl <;> rfl
theorem row_cellsAt {w : World} {base sz n c : Nat} {E : TypeId} {A : Option Addr} {us : List Value} (h : w.ownsRow base E sz (.slice A n c) n us) : CellsAt w A us := fun hne => by
  obtain ⟨g, hA, _, hc⟩ := row_cells h hne
  exact ⟨g, 0, hA, fun k hk => by rw [Nat.zero_add]; exact hc k _ (List.getElem?_eq_getElem hk)⟩
/-- What Split answers. -/
def SplitRet (w : World) (n : NodeD) (e : Ending) (w' : World) : Prop :=
  ∃ A c, ∃ ps : List (NodeD × NdL), e = .returned (.slice A ps.length c) ∧ w'.ownsRow w.heap.size 34 4 (.slice A ps.length c) ps.length (ps.flatMap ndP) ∧ (∀ p ∈ ps, OwnN w' w.heap.size p.1 p.2) ∧ SplitOf n (ps.map Prod.fst) ∧ Below w.heap.size w w'

set_option maxRecDepth 100000 in
theorem split_none (n : NodeD) (l : NdL) (hc : cleanN n) (h0 : n.size = 0) (w : World) :
    Calls Try.prog 21 #[.agg #[.bool n.leaf, .slice l.EA n.es.length l.ec, .slice l.KA n.ks.length l.kc, .slice l.DA n.ds.length l.dc]] w (SplitRet w n) := by
  obtain ⟨W, eW⟩ : ∃ W, W = w.alloc (.cells #[.bool n.leaf, .slice l.EA n.es.length l.ec, .slice l.KA n.ks.length l.kc, .slice l.DA n.ds.length l.dc] 34) := ⟨_, rfl⟩
  have hb : Below w.heap.size w W := by rw [eW]; exact (Below.refl _ _).alloc (Nat.le_refl _) _
  have hg : W.heap[w.heap.size]? = some (.cells #[.bool n.leaf, .slice l.EA n.es.length l.ec, .slice l.KA n.ks.length l.kc, .slice l.DA n.ds.length l.dc] 34 (0, 0)) := by rw [eW]; exact heap_alloc_new _ _
  have hWs : W.heap.size = w.heap.size + 1 := by rw [eW]; simp
  have HB := Lib.hid hb
  have HG := Lib.hid hg
  have HWS := Lib.hid hWs
  have HC := Lib.hid hc
  have H0 := Lib.hid h0
  have HS : Hid (∀ W', Calls Try.prog 15 #[.agg #[.bool n.leaf, .slice l.EA n.es.length l.ec, .slice l.KA n.ks.length l.kc, .slice l.DA n.ds.length l.dc]] W' fun e w' => e = .returned (.int .i64 0) ∧ Below W'.heap.size W' w') := Lib.hid (fun W' => by have := size_any n l W'; rw [h0] at this; exact this)
  clear hb hg hWs hc h0
  go_enter Try.func21, Try.ntmps21
  go_upto_region 1 with fail
  rw [← eW]
  clear eW
  go_wp2_with (first
    | (refine wpList_load_row rfl 34 (.tmp 1) rfl w.heap.size rfl 34 _ (0, 0) _ HG.out Try.underlying34 rfl (by kernel_rfl) ?_)
    | (go_at_call 15; refine (HS.out _).mono ?_; rintro e w1 ⟨rfl, hb1⟩; have HB1 := Lib.hid hb1; clear hb1))
  go_ret
  exact ⟨none, 0, [], rfl, World.ownsRow_nil _ _ _ _, by simp, SplitOf.zero HC.out H0.out, HB.out.trans (HB1.out.mono HB.out.size)⟩

set_option maxRecDepth 100000 in
set_option maxHeartbeats 4000000 in
theorem split_one (n : NodeD) (l : NdL) (hc : cleanN n) (h1 : 1 ≤ n.size) (h2 : n.size ≤ capN n.leaf) (hf : FitsN n) (w : World) (hat : NodeAt w n l) :
    Calls Try.prog 21 #[.agg #[.bool n.leaf, .slice l.EA n.es.length l.ec, .slice l.KA n.ks.length l.kc, .slice l.DA n.ds.length l.dc]] w (SplitRet w n) := by
  obtain ⟨W, eW⟩ : ∃ W, W = w.alloc (.cells #[.bool n.leaf, .slice l.EA n.es.length l.ec, .slice l.KA n.ks.length l.kc, .slice l.DA n.ds.length l.dc] 34) := ⟨_, rfl⟩
  have hb : Below w.heap.size w W := by rw [eW]; exact (Below.refl _ _).alloc (Nat.le_refl _) _
  have hg : W.heap[w.heap.size]? = some (.cells #[.bool n.leaf, .slice l.EA n.es.length l.ec, .slice l.KA n.ks.length l.kc, .slice l.DA n.ds.length l.dc] 34 (0, 0)) := by rw [eW]; exact heap_alloc_new _ _
  have hWs : W.heap.size = w.heap.size + 1 := by rw [eW]; simp
  have HB := Lib.hid hb
  have HG := Lib.hid hg
  have HWS := Lib.hid hWs
  have HC := Lib.hid hc
  have HF := Lib.hid hf
  have HN := Lib.hid (hat.below hb)
  obtain ⟨s, hs⟩ : ∃ s, n.size = s := ⟨_, rfl⟩
  have HS : Hid (∀ W', Calls Try.prog 15 #[.agg #[.bool n.leaf, .slice l.EA n.es.length l.ec, .slice l.KA n.ks.length l.kc, .slice l.DA n.ds.length l.dc]] W' fun e w' => e = .returned (.int .i64 (s : Int)) ∧ Below W'.heap.size W' w') := Lib.hid (fun W' => by have := size_any n l W'; rw [hs] at this; exact this)
  have HP := Lib.hid (SplitOf.single hc h1 h2)
  rw [hs] at h1 h2
  have hl : n.leaf = true ∧ s ≤ 7 ∨ n.leaf = false ∧ s ≤ 16 := by unfold capN at h2; cases hq : n.leaf <;> rw [hq] at h2 <;> simp at h2 <;> simp <;> omega
  have q0 : ((s : Int) == 0) = false := by simp; omega
  clear hb hg hWs hc hf hs hat
  rcases hl with ⟨hl, h7⟩ | ⟨hl, h7⟩
  · have q7 : decide ((s : Int) ≤ 7) = true := by simp; omega
    have HLF := Lib.hid hl
    clear hl
    go_enter Try.func21, Try.ntmps21
    go_upto_region 1 with fail
    rw [← eW]
    clear eW
    go_upto_region 4 with (first
      | (refine wpList_load_row rfl 34 (.tmp 1) rfl w.heap.size rfl 34 _ (0, 0) _ HG.out Try.underlying34 rfl (by kernel_rfl) ?_)
      | (go_at_call 15; refine (HS.out _).mono ?_; rintro e w1 ⟨rfl, hb1⟩; have HB1 := Lib.hid hb1; clear hb1))
    have d0 : w1.cell? ⟨w.heap.size, 0, none⟩ = some (.bool true) := by rw [← HLF.out]; exact nd_cell (row_stays HG.out HB1.out) 0 _ rfl
    have HG1 := Lib.hid (row_stays HG.out HB1.out)
    go_upto_region 5 with fail
    clear d0
    have HN1 := Lib.hid (HN.out.below HB1.out)
    go_wp2_with (first
      | (refine wpList_load_row rfl 34 (.tmp 1) rfl w.heap.size rfl 34 _ (0, 0) _ HG1.out Try.underlying34 rfl (by kernel_rfl) ?_)
      | (go_at_call 47; refine (clone_any n l HF.out _ HN1.out).mono ?_; rintro e w2 ⟨l2, rfl, ho2, hb2⟩; have HO2 := Lib.hid ho2; have HB2 := Lib.hid hb2; clear ho2 hb2))
    go_ret
    have hba : Below w2.heap.size w2 (w2.alloc (.cells #[.bool n.leaf, .slice l2.EA n.es.length l2.ec, .slice l2.KA n.ks.length l2.kc, .slice l2.DA n.ds.length l2.dc] 34)) := (Below.refl _ _).alloc (Nat.le_refl _) _
    have hz : w.heap.size ≤ w1.heap.size := by have := HB1.out.size; have := HB.out.size; omega
    have hz2 : w.heap.size ≤ w2.heap.size := by have := HB2.out.size; omega
    refine ⟨some ⟨w2.heap.size, 0, none⟩, 1, [(n, l2)], rfl, ⟨rfl, .inr ⟨w2.heap.size, 1, _, rfl, hz2, heap_alloc_new _ _, Nat.le_refl _, by unfold maxLen; simp, rfl, rfl⟩⟩, ?_, HP.out, ?_⟩
    · intro p hp
      simp at hp
      subst hp
      exact (HO2.out.below hba).mono hz
    · exact (HB.out.trans (HB1.out.mono HB.out.size)).trans ((HB2.out.trans (hba.mono HB2.out.size)).mono hz)
  · have q7 : decide ((s : Int) ≤ 16) = true := by simp; omega
    have HLF := Lib.hid hl
    clear hl
    go_enter Try.func21, Try.ntmps21
    go_upto_region 1 with fail
    rw [← eW]
    clear eW
    go_upto_region 4 with (first
      | (refine wpList_load_row rfl 34 (.tmp 1) rfl w.heap.size rfl 34 _ (0, 0) _ HG.out Try.underlying34 rfl (by kernel_rfl) ?_)
      | (go_at_call 15; refine (HS.out _).mono ?_; rintro e w1 ⟨rfl, hb1⟩; have HB1 := Lib.hid hb1; clear hb1))
    have d0 : w1.cell? ⟨w.heap.size, 0, none⟩ = some (.bool false) := by rw [← HLF.out]; exact nd_cell (row_stays HG.out HB1.out) 0 _ rfl
    have HG1 := Lib.hid (row_stays HG.out HB1.out)
    go_upto_region 5 with fail
    clear d0
    have HN1 := Lib.hid (HN.out.below HB1.out)
    go_wp2_with (first
      | (refine wpList_load_row rfl 34 (.tmp 1) rfl w.heap.size rfl 34 _ (0, 0) _ HG1.out Try.underlying34 rfl (by kernel_rfl) ?_)
      | (go_at_call 47; refine (clone_any n l HF.out _ HN1.out).mono ?_; rintro e w2 ⟨l2, rfl, ho2, hb2⟩; have HO2 := Lib.hid ho2; have HB2 := Lib.hid hb2; clear ho2 hb2))
    go_ret
    have hba : Below w2.heap.size w2 (w2.alloc (.cells #[.bool n.leaf, .slice l2.EA n.es.length l2.ec, .slice l2.KA n.ks.length l2.kc, .slice l2.DA n.ds.length l2.dc] 34)) := (Below.refl _ _).alloc (Nat.le_refl _) _
    have hz : w.heap.size ≤ w1.heap.size := by have := HB1.out.size; have := HB.out.size; omega
    have hz2 : w.heap.size ≤ w2.heap.size := by have := HB2.out.size; omega
    refine ⟨some ⟨w2.heap.size, 0, none⟩, 1, [(n, l2)], rfl, ⟨rfl, .inr ⟨w2.heap.size, 1, _, rfl, hz2, heap_alloc_new _ _, Nat.le_refl _, by unfold maxLen; simp, rfl, rfl⟩⟩, ?_, HP.out, ?_⟩
    · intro p hp
      simp at hp
      subst hp
      exact (HO2.out.below hba).mono hz
    · exact (HB.out.trans (HB1.out.mono HB.out.size)).trans ((HB2.out.trans (hba.mono HB2.out.size)).mono hz)
set_option maxRecDepth 100000 in
set_option maxHeartbeats 4000000 in
theorem split_two (n a b : NodeD) (l : NdL) (hc : cleanN n) (h2 : capN n.leaf < n.size) (h : Nat) (hh : h = (n.size + 1) / 2) (ha : a = partA n h) (hbb : b = partB n h) (hm : n.size ≤ 1000000000) (w : World) (hat : NodeAt w n l)
    (hv : ∀ W', NodeAt W' n l → Calls Try.prog 48 #[.agg #[.bool n.leaf, .slice l.EA n.es.length l.ec, .slice l.KA n.ks.length l.kc, .slice l.DA n.ds.length l.dc]] W' fun e w' => (∃ la lb : NdL, e = .returned (.tuple #[.agg #[.bool a.leaf, .slice la.EA a.es.length la.ec, .slice la.KA a.ks.length la.kc, .slice la.DA a.ds.length la.dc], .agg #[.bool b.leaf, .slice lb.EA b.es.length lb.ec, .slice lb.KA b.ks.length lb.kc, .slice lb.DA b.ds.length lb.dc]]) ∧ NodeAt w' a la ∧ NodeAt w' b lb) ∧ Below W'.heap.size W' w')
    (sa : ∀ (la : NdL) W', NodeAt W' a la → Calls Try.prog 21 #[.agg #[.bool a.leaf, .slice la.EA a.es.length la.ec, .slice la.KA a.ks.length la.kc, .slice la.DA a.ds.length la.dc]] W' (SplitRet W' a)) (sb : ∀ (lb : NdL) W', NodeAt W' b lb → Calls Try.prog 21 #[.agg #[.bool b.leaf, .slice lb.EA b.es.length lb.ec, .slice lb.KA b.ks.length lb.kc, .slice lb.DA b.ds.length lb.dc]] W' (SplitRet W' b)) :
    Calls Try.prog 21 #[.agg #[.bool n.leaf, .slice l.EA n.es.length l.ec, .slice l.KA n.ks.length l.kc, .slice l.DA n.ds.length l.dc]] w (SplitRet w n) := by
  obtain ⟨W, eW⟩ : ∃ W, W = w.alloc (.cells #[.bool n.leaf, .slice l.EA n.es.length l.ec, .slice l.KA n.ks.length l.kc, .slice l.DA n.ds.length l.dc] 34) := ⟨_, rfl⟩
  have hb : Below w.heap.size w W := by rw [eW]; exact (Below.refl _ _).alloc (Nat.le_refl _) _
  have hg : W.heap[w.heap.size]? = some (.cells #[.bool n.leaf, .slice l.EA n.es.length l.ec, .slice l.KA n.ks.length l.kc, .slice l.DA n.ds.length l.dc] 34 (0, 0)) := by rw [eW]; exact heap_alloc_new _ _
  have hWs : W.heap.size = w.heap.size + 1 := by rw [eW]; simp
  have HB := Lib.hid hb
  have HG := Lib.hid hg
  have HWS := Lib.hid hWs
  have HC := Lib.hid hc
  have HN := Lib.hid (hat.below hb)
  have HV := Lib.hid hv
  have SA := Lib.hid sa
  have SB := Lib.hid sb
  have HJ : Hid (∀ ps qs, SplitOf a ps → SplitOf b qs → SplitOf n (ps ++ qs)) := Lib.hid (fun ps qs h1 h3 => by subst ha hbb; exact SplitOf.join h2 h hh h1 h3)
  have HM : Hid (a.size + b.size ≤ 1000000000) := Lib.hid (by rw [ha, hbb, partA_size n h (by omega), partB_size n h]; omega)
  obtain ⟨s, hs⟩ : ∃ s, n.size = s := ⟨_, rfl⟩
  have HS : Hid (∀ W', Calls Try.prog 15 #[.agg #[.bool n.leaf, .slice l.EA n.es.length l.ec, .slice l.KA n.ks.length l.kc, .slice l.DA n.ds.length l.dc]] W' fun e w' => e = .returned (.int .i64 (s : Int)) ∧ Below W'.heap.size W' w') := Lib.hid (fun W' => by have := size_any n l W'; rw [hs] at this; exact this)
  rw [hs] at h2
  have hl : n.leaf = true ∧ 7 < s ∨ n.leaf = false ∧ 16 < s := by unfold capN at h2; cases hq : n.leaf <;> rw [hq] at h2 <;> simp at h2 <;> simp <;> omega
  have q0 : ((s : Int) == 0) = false := by simp; omega
  clear hb hg hWs hc hs hat hv sa sb ha hbb hh hm h2
  rcases hl with ⟨hl, h7⟩ | ⟨hl, h7⟩
  · have q7 : decide ((s : Int) ≤ 7) = false := by simp; omega
    have HLF := Lib.hid hl
    clear hl
    go_enter Try.func21, Try.ntmps21
    go_upto_region 1 with fail
    rw [← eW]
    clear eW
    go_upto_region 4 with (first
      | (refine wpList_load_row rfl 34 (.tmp 1) rfl w.heap.size rfl 34 _ (0, 0) _ HG.out Try.underlying34 rfl (by kernel_rfl) ?_)
      | (go_at_call 15; refine (HS.out _).mono ?_; rintro e w1 ⟨rfl, hb1⟩; have HB1 := Lib.hid hb1; clear hb1))
    have d0 : w1.cell? ⟨w.heap.size, 0, none⟩ = some (.bool true) := by rw [← HLF.out]; exact nd_cell (row_stays HG.out HB1.out) 0 _ rfl
    have HG1 := Lib.hid (row_stays HG.out HB1.out)
    go_upto_region 6 with fail
    clear d0 q0 q7 h7
    have HN1 := Lib.hid (HN.out.below HB1.out)
    go_upto_region 7 with (first
      | (refine wpList_load_row rfl 34 (.tmp 1) rfl w.heap.size rfl 34 _ (0, 0) _ HG1.out Try.underlying34 rfl (by kernel_rfl) ?_)
      | (go_at_call 48; refine (HV.out _ HN1.out).mono ?_; rintro e w2 ⟨⟨la, lb, rfl, hna, hnb⟩, hb2⟩; have HNA := Lib.hid hna; have HNB := Lib.hid hnb; have HB2 := Lib.hid hb2; clear hna hnb hb2; have Z0 := Lib.hid (heap_alloc2_old w2 (.cells #[.bool false, .slice none 0 0, .slice none 0 0, .slice none 0 0] 34) (.cells #[.bool false, .slice none 0 0, .slice none 0 0, .slice none 0 0] 34)); have Z1 := Lib.hid (heap_alloc2_new w2 (.cells #[.bool false, .slice none 0 0, .slice none 0 0, .slice none 0 0] 34) (.cells #[.bool false, .slice none 0 0, .slice none 0 0, .slice none 0 0] 34)))
      | (refine wpList_store_row rfl 34 (.tmp 4) (.tmp 31) rfl w2.heap.size #[.bool a.leaf, .slice la.EA a.es.length la.ec, .slice la.KA a.ks.length la.kc, .slice la.DA a.ds.length la.dc] rfl rfl 34 #[.bool false, .slice none 0 0, .slice none 0 0, .slice none 0 0] Z0.out (by kernel_rfl) rfl (by simp [Value.oneCell']) ?_)
      | (refine wpList_store_row rfl 34 (.tmp 5) (.tmp 32) rfl (w2.heap.size + 1) #[.bool b.leaf, .slice lb.EA b.es.length lb.ec, .slice lb.KA b.ks.length lb.kc, .slice lb.DA b.ds.length lb.dc] rfl rfl 34 #[.bool false, .slice none 0 0, .slice none 0 0, .slice none 0 0] ((setRow_other _ _ _ _ (by omega)).trans Z1.out) (by kernel_rfl) rfl (by simp [Value.oneCell']) ?_))
    simp only [Act.put]
    obtain ⟨V, hV⟩ : ∃ V, V = (((w2.alloc (.cells #[.bool false, .slice none 0 0, .slice none 0 0, .slice none 0 0] 34)).alloc (.cells #[.bool false, .slice none 0 0, .slice none 0 0, .slice none 0 0] 34)).setRow w2.heap.size #[.bool a.leaf, .slice la.EA a.es.length la.ec, .slice la.KA a.ks.length la.kc, .slice la.DA a.ds.length la.dc]).setRow (w2.heap.size + 1) #[.bool b.leaf, .slice lb.EA b.es.length lb.ec, .slice lb.KA b.ks.length lb.kc, .slice lb.DA b.ds.length lb.dc] := ⟨_, rfl⟩
    rw [← hV]
    have B2V : Hid (Below w2.heap.size w2 V) := Lib.hid (by rw [hV]; exact below_setRow (below_setRow (((Below.refl _ _).alloc (Nat.le_refl _) _).alloc (by simp) _) (Nat.le_refl _) _) (by omega) _)
    have G4 : Hid (V.heap[w2.heap.size]? = some (.cells #[.bool a.leaf, .slice la.EA a.es.length la.ec, .slice la.KA a.ks.length la.kc, .slice la.DA a.ds.length la.dc] 34 (0, 0))) := Lib.hid (by rw [hV, setRow_other _ _ _ _ (by omega)]; exact setRow_heap _ _ _ _ _ _ Z0.out)
    have G5 : Hid (V.heap[w2.heap.size + 1]? = some (.cells #[.bool b.leaf, .slice lb.EA b.es.length lb.ec, .slice lb.KA b.ks.length lb.kc, .slice lb.DA b.ds.length lb.dc] 34 (0, 0))) := Lib.hid (by rw [hV]; exact setRow_heap _ _ _ _ _ _ ((setRow_other _ _ _ _ (by omega)).trans Z1.out))
    have NA := Lib.hid (HNA.out.below B2V.out)
    have NB := Lib.hid (HNB.out.below B2V.out)
    have BV : Hid (Below w.heap.size w V) := Lib.hid (by
      have h1 := HB1.out.trans (HB2.out.mono HB1.out.size)
      have h2 := h1.trans (B2V.out.mono h1.size)
      exact HB.out.trans (h2.mono HB.out.size))
    clear hV Z0 Z1 HNA HNB HB2 HB1 HG1 HG HN HN1 B2V
    have f4 : Hid (∀ y : SubW V.heap.size V, y.at_.heap[w2.heap.size]? = some (.cells #[.bool a.leaf, .slice la.EA a.es.length la.ec, .slice la.KA a.ks.length la.kc, .slice la.DA a.ds.length la.dc] 34 (0, 0))) := Lib.hid (fun y => row_stays G4.out y.ok_)
    have f5 : Hid (∀ y : SubW V.heap.size V, y.at_.heap[w2.heap.size + 1]? = some (.cells #[.bool b.leaf, .slice lb.EA b.es.length lb.ec, .slice lb.KA b.ks.length lb.kc, .slice lb.DA b.ds.length lb.dc] 34 (0, 0))) := Lib.hid (fun y => row_stays G5.out y.ok_)
    refine region_overB V.heap.size (Nat.le_refl _) [([0, 2], 1), ([], 3), ([], 4)] [5] (by kernel_rfl) (by kernel_rfl) ?_
    rintro wd hbd
    have BD := Lib.hid hbd
    clear hbd
    rw [wpBl_cons]
    try simp only [List.map_cons, List.map_nil, opAt, List.getElem?_toArray, List.getElem?_cons_zero, List.getElem?_cons_succ, Option.getD_some]
    repeat (first
      | (go_big_quiet_want; refine quiet_load_row 34 (.tmp 4) rfl w2.heap.size rfl 34 _ (0, 0) _ f4.out Try.underlying34 rfl (by kernel_rfl) ?_; simp only [Act.put, List.setIfInBounds_toArray, List.set_cons_zero, List.set_cons_succ]; go_big_quiet_on)
      | (go_big_quiet_want; refine quiet_load_row 34 (.tmp 5) rfl (w2.heap.size + 1) rfl 34 _ (0, 0) _ f5.out Try.underlying34 rfl (by kernel_rfl) ?_; simp only [Act.put, List.setIfInBounds_toArray, List.set_cons_zero, List.set_cons_succ]; go_big_quiet_on)
      | go_big_quiet_step (fail))
    refine wpQuiet_nil ?_
    go_wp2_with (go_at_call 21; refine (SA.out la _ (NA.out.below BD.out)).mono ?_; rintro e x1 ⟨A1, c1, ps, rfl, ho1, hp1, hs1, b1⟩; have O1 := Lib.hid (row_mono ho1 (show w.heap.size ≤ wd.heap.size from by have := BD.out.size; have := BV.out.size; omega)); have KB := Lib.hid (fun k (hk : (Value.slice A1 ps.length c1).ownBlock = some k) => Nat.le_trans BD.out.size (World.ownsRow.lt ho1 k hk).1); have P1 := Lib.hid hp1; have S1 := Lib.hid hs1; have B1 := Lib.hid (BD.out.trans (b1.mono BD.out.size)); clear ho1 hp1 hs1 b1)
    refine ⟨⟨⟨_, B1.out⟩, rfl⟩, ?_⟩
    rw [wpBl_cons]
    try simp only [List.map_nil, opAt, List.getElem?_toArray, List.getElem?_cons_zero, List.getElem?_cons_succ, Option.getD_some]
    refine wpQuiet_nil ?_
    go_wp2_with (go_at_call 21; refine (SB.out lb _ (NB.out.below B1.out)).mono ?_; rintro e x2 ⟨A2, c2, qs, rfl, ho2, hp2, hs2, b2⟩; have O2 := Lib.hid ho2; have P2 := Lib.hid hp2; have S2 := Lib.hid hs2; have O12 := Lib.hid (row_below O1.out b2); have P12 : Hid (∀ p ∈ ps, OwnN x2 w.heap.size p.1 p.2) := Lib.hid (fun p hp => ((P1.out p hp).mono (show w.heap.size ≤ wd.heap.size from by have := BD.out.size; have := BV.out.size; omega)).below b2); have B2 := Lib.hid (B1.out.trans (b2.mono B1.out.size)); clear ho2 hp2 hs2 b2)
    refine ⟨⟨⟨_, B2.out⟩, rfl⟩, ?_⟩
    rw [wpBl_cons]
    try simp only [List.map_nil, opAt, List.getElem?_toArray, List.getElem?_cons_zero, List.getElem?_cons_succ, Option.getD_some]
    refine wpQuiet_nil ?_
    have KN : Hid (ps.length + qs.length ≤ 1000000000) := Lib.hid (by have h1 := S1.out.cnt; have h2 := S2.out.cnt; have := HM.out; rw [List.length_map] at h1 h2; omega)
    go_wp2_with (at_builtin; refine wpList_append_row rfl (.tmp 34) (.tmp 36) 57 rfl Try.underlying57 (.agg #[.bool false, .slice none 0 0, .slice none 0 0, .slice none 0 0]) 80 infoNodeN (by rfl) (by decide) _ rfl O12.out A2 c2 qs.length rfl (flatV_len lenNdP qs) (row_cellsAt O2.out) (flat_one ndP_one qs) (by have := KN.out; omega) (by have := KN.out; unfold maxLen; omega) (by have := BV.out.size; have := B2.out.size; omega) (ps ++ qs).length (by rw [List.length_append]) ((ps ++ qs).flatMap ndP) (by rw [List.flatMap_append]) ?_; intro A3 c3 x3 ho3 hg3; have O3 := Lib.hid ho3; have G3 := Lib.hid hg3; clear ho3 hg3)
    have BA : Hid (Below w.heap.size w x2) := Lib.hid (BV.out.trans (B2.out.mono BV.out.size))
    have B3 : Hid (Below V.heap.size V x3) := Lib.hid (B2.out.grown G3.out B2.out.size (fun k hk => KB.out k hk))
    refine ⟨⟨⟨_, B3.out⟩, rfl⟩, ?_⟩
    try simp only [Act.put, List.setIfInBounds_toArray, List.set_cons_zero, List.set_cons_succ]
    rw [wpBl_nil]
    try simp only [List.map_cons, List.map_nil, opAt, List.getElem?_toArray, List.getElem?_cons_zero, List.getElem?_cons_succ, Option.getD_some]
    repeat (go_big_quiet_step (fail))
    refine wpQuiet_nil ?_
    go_wp2_with fail
    go_ret
    refine ⟨A3, c3, ps ++ qs, rfl, O3.out, ?_, ?_, BV.out.trans (B3.out.mono BV.out.size)⟩
    · intro p hp
      rcases List.mem_append.1 hp with h1 | h1
      · exact (P12.out p h1).beside O12.out G3.out
      · exact ((P2.out p h1).mono (by have := BV.out.size; have := B1.out.size; omega)).beside O12.out G3.out
    · rw [List.map_append]
      exact HJ.out _ _ S1.out S2.out
  · have q7 : decide ((s : Int) ≤ 16) = false := by simp; omega
    have HLF := Lib.hid hl
    clear hl
    go_enter Try.func21, Try.ntmps21
    go_upto_region 1 with fail
    rw [← eW]
    clear eW
    go_upto_region 4 with (first
      | (refine wpList_load_row rfl 34 (.tmp 1) rfl w.heap.size rfl 34 _ (0, 0) _ HG.out Try.underlying34 rfl (by kernel_rfl) ?_)
      | (go_at_call 15; refine (HS.out _).mono ?_; rintro e w1 ⟨rfl, hb1⟩; have HB1 := Lib.hid hb1; clear hb1))
    have d0 : w1.cell? ⟨w.heap.size, 0, none⟩ = some (.bool false) := by rw [← HLF.out]; exact nd_cell (row_stays HG.out HB1.out) 0 _ rfl
    have HG1 := Lib.hid (row_stays HG.out HB1.out)
    go_upto_region 6 with fail
    clear d0 q0 q7 h7
    have HN1 := Lib.hid (HN.out.below HB1.out)
    go_upto_region 7 with (first
      | (refine wpList_load_row rfl 34 (.tmp 1) rfl w.heap.size rfl 34 _ (0, 0) _ HG1.out Try.underlying34 rfl (by kernel_rfl) ?_)
      | (go_at_call 48; refine (HV.out _ HN1.out).mono ?_; rintro e w2 ⟨⟨la, lb, rfl, hna, hnb⟩, hb2⟩; have HNA := Lib.hid hna; have HNB := Lib.hid hnb; have HB2 := Lib.hid hb2; clear hna hnb hb2; have Z0 := Lib.hid (heap_alloc2_old w2 (.cells #[.bool false, .slice none 0 0, .slice none 0 0, .slice none 0 0] 34) (.cells #[.bool false, .slice none 0 0, .slice none 0 0, .slice none 0 0] 34)); have Z1 := Lib.hid (heap_alloc2_new w2 (.cells #[.bool false, .slice none 0 0, .slice none 0 0, .slice none 0 0] 34) (.cells #[.bool false, .slice none 0 0, .slice none 0 0, .slice none 0 0] 34)))
      | (refine wpList_store_row rfl 34 (.tmp 4) (.tmp 31) rfl w2.heap.size #[.bool a.leaf, .slice la.EA a.es.length la.ec, .slice la.KA a.ks.length la.kc, .slice la.DA a.ds.length la.dc] rfl rfl 34 #[.bool false, .slice none 0 0, .slice none 0 0, .slice none 0 0] Z0.out (by kernel_rfl) rfl (by simp [Value.oneCell']) ?_)
      | (refine wpList_store_row rfl 34 (.tmp 5) (.tmp 32) rfl (w2.heap.size + 1) #[.bool b.leaf, .slice lb.EA b.es.length lb.ec, .slice lb.KA b.ks.length lb.kc, .slice lb.DA b.ds.length lb.dc] rfl rfl 34 #[.bool false, .slice none 0 0, .slice none 0 0, .slice none 0 0] ((setRow_other _ _ _ _ (by omega)).trans Z1.out) (by kernel_rfl) rfl (by simp [Value.oneCell']) ?_))
    simp only [Act.put]
    obtain ⟨V, hV⟩ : ∃ V, V = (((w2.alloc (.cells #[.bool false, .slice none 0 0, .slice none 0 0, .slice none 0 0] 34)).alloc (.cells #[.bool false, .slice none 0 0, .slice none 0 0, .slice none 0 0] 34)).setRow w2.heap.size #[.bool a.leaf, .slice la.EA a.es.length la.ec, .slice la.KA a.ks.length la.kc, .slice la.DA a.ds.length la.dc]).setRow (w2.heap.size + 1) #[.bool b.leaf, .slice lb.EA b.es.length lb.ec, .slice lb.KA b.ks.length lb.kc, .slice lb.DA b.ds.length lb.dc] := ⟨_, rfl⟩
    rw [← hV]
    have B2V : Hid (Below w2.heap.size w2 V) := Lib.hid (by rw [hV]; exact below_setRow (below_setRow (((Below.refl _ _).alloc (Nat.le_refl _) _).alloc (by simp) _) (Nat.le_refl _) _) (by omega) _)
    have G4 : Hid (V.heap[w2.heap.size]? = some (.cells #[.bool a.leaf, .slice la.EA a.es.length la.ec, .slice la.KA a.ks.length la.kc, .slice la.DA a.ds.length la.dc] 34 (0, 0))) := Lib.hid (by rw [hV, setRow_other _ _ _ _ (by omega)]; exact setRow_heap _ _ _ _ _ _ Z0.out)
    have G5 : Hid (V.heap[w2.heap.size + 1]? = some (.cells #[.bool b.leaf, .slice lb.EA b.es.length lb.ec, .slice lb.KA b.ks.length lb.kc, .slice lb.DA b.ds.length lb.dc] 34 (0, 0))) := Lib.hid (by rw [hV]; exact setRow_heap _ _ _ _ _ _ ((setRow_other _ _ _ _ (by omega)).trans Z1.out))
    have NA := Lib.hid (HNA.out.below B2V.out)
    have NB := Lib.hid (HNB.out.below B2V.out)
    have BV : Hid (Below w.heap.size w V) := Lib.hid (by
      have h1 := HB1.out.trans (HB2.out.mono HB1.out.size)
      have h2 := h1.trans (B2V.out.mono h1.size)
      exact HB.out.trans (h2.mono HB.out.size))
    clear hV Z0 Z1 HNA HNB HB2 HB1 HG1 HG HN HN1 B2V
    have f4 : Hid (∀ y : SubW V.heap.size V, y.at_.heap[w2.heap.size]? = some (.cells #[.bool a.leaf, .slice la.EA a.es.length la.ec, .slice la.KA a.ks.length la.kc, .slice la.DA a.ds.length la.dc] 34 (0, 0))) := Lib.hid (fun y => row_stays G4.out y.ok_)
    have f5 : Hid (∀ y : SubW V.heap.size V, y.at_.heap[w2.heap.size + 1]? = some (.cells #[.bool b.leaf, .slice lb.EA b.es.length lb.ec, .slice lb.KA b.ks.length lb.kc, .slice lb.DA b.ds.length lb.dc] 34 (0, 0))) := Lib.hid (fun y => row_stays G5.out y.ok_)
    refine region_overB V.heap.size (Nat.le_refl _) [([0, 2], 1), ([], 3), ([], 4)] [5] (by kernel_rfl) (by kernel_rfl) ?_
    rintro wd hbd
    have BD := Lib.hid hbd
    clear hbd
    rw [wpBl_cons]
    try simp only [List.map_cons, List.map_nil, opAt, List.getElem?_toArray, List.getElem?_cons_zero, List.getElem?_cons_succ, Option.getD_some]
    repeat (first
      | (go_big_quiet_want; refine quiet_load_row 34 (.tmp 4) rfl w2.heap.size rfl 34 _ (0, 0) _ f4.out Try.underlying34 rfl (by kernel_rfl) ?_; simp only [Act.put, List.setIfInBounds_toArray, List.set_cons_zero, List.set_cons_succ]; go_big_quiet_on)
      | (go_big_quiet_want; refine quiet_load_row 34 (.tmp 5) rfl (w2.heap.size + 1) rfl 34 _ (0, 0) _ f5.out Try.underlying34 rfl (by kernel_rfl) ?_; simp only [Act.put, List.setIfInBounds_toArray, List.set_cons_zero, List.set_cons_succ]; go_big_quiet_on)
      | go_big_quiet_step (fail))
    refine wpQuiet_nil ?_
    go_wp2_with (go_at_call 21; refine (SA.out la _ (NA.out.below BD.out)).mono ?_; rintro e x1 ⟨A1, c1, ps, rfl, ho1, hp1, hs1, b1⟩; have O1 := Lib.hid (row_mono ho1 (show w.heap.size ≤ wd.heap.size from by have := BD.out.size; have := BV.out.size; omega)); have KB := Lib.hid (fun k (hk : (Value.slice A1 ps.length c1).ownBlock = some k) => Nat.le_trans BD.out.size (World.ownsRow.lt ho1 k hk).1); have P1 := Lib.hid hp1; have S1 := Lib.hid hs1; have B1 := Lib.hid (BD.out.trans (b1.mono BD.out.size)); clear ho1 hp1 hs1 b1)
    refine ⟨⟨⟨_, B1.out⟩, rfl⟩, ?_⟩
    rw [wpBl_cons]
    try simp only [List.map_nil, opAt, List.getElem?_toArray, List.getElem?_cons_zero, List.getElem?_cons_succ, Option.getD_some]
    refine wpQuiet_nil ?_
    go_wp2_with (go_at_call 21; refine (SB.out lb _ (NB.out.below B1.out)).mono ?_; rintro e x2 ⟨A2, c2, qs, rfl, ho2, hp2, hs2, b2⟩; have O2 := Lib.hid ho2; have P2 := Lib.hid hp2; have S2 := Lib.hid hs2; have O12 := Lib.hid (row_below O1.out b2); have P12 : Hid (∀ p ∈ ps, OwnN x2 w.heap.size p.1 p.2) := Lib.hid (fun p hp => ((P1.out p hp).mono (show w.heap.size ≤ wd.heap.size from by have := BD.out.size; have := BV.out.size; omega)).below b2); have B2 := Lib.hid (B1.out.trans (b2.mono B1.out.size)); clear ho2 hp2 hs2 b2)
    refine ⟨⟨⟨_, B2.out⟩, rfl⟩, ?_⟩
    rw [wpBl_cons]
    try simp only [List.map_nil, opAt, List.getElem?_toArray, List.getElem?_cons_zero, List.getElem?_cons_succ, Option.getD_some]
    refine wpQuiet_nil ?_
    have KN : Hid (ps.length + qs.length ≤ 1000000000) := Lib.hid (by have h1 := S1.out.cnt; have h2 := S2.out.cnt; have := HM.out; rw [List.length_map] at h1 h2; omega)
    go_wp2_with (at_builtin; refine wpList_append_row rfl (.tmp 34) (.tmp 36) 57 rfl Try.underlying57 (.agg #[.bool false, .slice none 0 0, .slice none 0 0, .slice none 0 0]) 80 infoNodeN (by rfl) (by decide) _ rfl O12.out A2 c2 qs.length rfl (flatV_len lenNdP qs) (row_cellsAt O2.out) (flat_one ndP_one qs) (by have := KN.out; omega) (by have := KN.out; unfold maxLen; omega) (by have := BV.out.size; have := B2.out.size; omega) (ps ++ qs).length (by rw [List.length_append]) ((ps ++ qs).flatMap ndP) (by rw [List.flatMap_append]) ?_; intro A3 c3 x3 ho3 hg3; have O3 := Lib.hid ho3; have G3 := Lib.hid hg3; clear ho3 hg3)
    have BA : Hid (Below w.heap.size w x2) := Lib.hid (BV.out.trans (B2.out.mono BV.out.size))
    have B3 : Hid (Below V.heap.size V x3) := Lib.hid (B2.out.grown G3.out B2.out.size (fun k hk => KB.out k hk))
    refine ⟨⟨⟨_, B3.out⟩, rfl⟩, ?_⟩
    try simp only [Act.put, List.setIfInBounds_toArray, List.set_cons_zero, List.set_cons_succ]
    rw [wpBl_nil]
    try simp only [List.map_cons, List.map_nil, opAt, List.getElem?_toArray, List.getElem?_cons_zero, List.getElem?_cons_succ, Option.getD_some]
    repeat (go_big_quiet_step (fail))
    refine wpQuiet_nil ?_
    go_wp2_with fail
    go_ret
    refine ⟨A3, c3, ps ++ qs, rfl, O3.out, ?_, ?_, BV.out.trans (B3.out.mono BV.out.size)⟩
    · intro p hp
      rcases List.mem_append.1 hp with h1 | h1
      · exact (P12.out p h1).beside O12.out G3.out
      · exact ((P2.out p h1).mono (by have := BV.out.size; have := B1.out.size; omega)).beside O12.out G3.out
    · rw [List.map_append]
      exact HJ.out _ _ S1.out S2.out
end Go.Proofs.Ytgkddhncfaeidaa

namespace Go.Proofs.Ytgkddhncfaeidaa
open Go.ChangeShapes Go.WideShapes Go.ChangeAt Go.RowKit CrcM PageM
set_option linter.unusedVariables false

theorem EnAt.take {w : World} {A : Option Addr} {es : List EntD} (h : EnAt w A es) (k : Nat) : EnAt w A (es.take k) := fun hne => by
  obtain ⟨b, off, hA, hc⟩ := h (fun e => hne (by rw [e]; simp))
  refine ⟨b, off, hA, fun i e he => hc i e ?_⟩
  rw [List.getElem?_take] at he
  split at he
  · exact he
  · cases he
theorem KyAt.take {w : World} {A : Option Addr} {es : List KeyD} (h : KyAt w A es) (k : Nat) : KyAt w A (es.take k) := fun hne => by
  obtain ⟨b, off, hA, hc⟩ := h (fun e => hne (by rw [e]; simp))
  refine ⟨b, off, hA, fun i e he => hc i e ?_⟩
  rw [List.getElem?_take] at he
  split at he
  · exact he
  · cases he
theorem EnAt.drop {w : World} {b off : Nat} {es : List EntD} (h : EnAt w (some ⟨b, off, none⟩) es) (k : Nat) : EnAt w (some ⟨b, off + k * 8, none⟩) (es.drop k) := fun hne => by
  obtain ⟨b', off', hA, hc⟩ := h (fun e => hne (by rw [e]; simp))
  injection hA with hA
  injection hA with h1 h2
  subst h1 h2
  refine ⟨b, off + k * 8, rfl, fun i e he => ?_⟩
  rw [List.getElem?_drop] at he
  have := hc (k + i) e he
  rwa [Nat.add_mul, ← Nat.add_assoc] at this
theorem KyAt.drop {w : World} {b off : Nat} {es : List KeyD} (h : KyAt w (some ⟨b, off, none⟩) es) (k : Nat) : KyAt w (some ⟨b, off + k * 2, none⟩) (es.drop k) := fun hne => by
  obtain ⟨b', off', hA, hc⟩ := h (fun e => hne (by rw [e]; simp))
  injection hA with hA
  injection hA with h1 h2
  subst h1 h2
  refine ⟨b, off + k * 2, rfl, fun i e he => ?_⟩
  rw [List.getElem?_drop] at he
  have := hc (k + i) e he
  rwa [Nat.add_mul, ← Nat.add_assoc] at this
theorem KdAt.drop {w : World} {b off : Nat} {es : List Int} (h : KdAt w (some ⟨b, off, none⟩) es) (k : Nat) : KdAt w (some ⟨b, off + k, none⟩) (es.drop k) := fun hne => by
  obtain ⟨b', off', hA, hc⟩ := h (fun e => hne (by rw [e]; simp))
  injection hA with hA
  injection hA with h1 h2
  subst h1 h2
  refine ⟨b, off + k, rfl, fun i e he => ?_⟩
  rw [List.getElem?_drop] at he
  have := hc (k + i) e he
  rwa [← Nat.add_assoc] at this

theorem halves_any (n : NodeD) (l : NdL) (hc : cleanN n) (h : Nat) (hh : h = (n.size + 1) / 2) (h2 : 2 ≤ n.size) (hm : n.size ≤ 1000000000) (w : World) (hat : NodeAt w n l) :
    Calls Try.prog 48 #[.agg #[.bool n.leaf, .slice l.EA n.es.length l.ec, .slice l.KA n.ks.length l.kc, .slice l.DA n.ds.length l.dc]] w fun e w' => (∃ la lb : NdL, e = .returned (.tuple #[.agg #[.bool (partA n h).leaf, .slice la.EA (partA n h).es.length la.ec, .slice la.KA (partA n h).ks.length la.kc, .slice la.DA (partA n h).ds.length la.dc], .agg #[.bool (partB n h).leaf, .slice lb.EA (partB n h).es.length lb.ec, .slice lb.KA (partB n h).ks.length lb.kc, .slice lb.DA (partB n h).ds.length lb.dc]]) ∧ NodeAt w' (partA n h) la ∧ NodeAt w' (partB n h) lb) ∧ Below w.heap.size w w' := by
  obtain ⟨lf, es, ks, ds⟩ := n
  obtain ⟨EA, ec, KA, kc, DA, dc⟩ := l
  unfold cleanN at hc
  unfold NodeD.size at hh h2 hm
  have zk : ∀ (A : Option Addr) w', KyAt w' A [] := fun A w' hne => absurd rfl hne
  have ze : ∀ (A : Option Addr) w', EnAt w' A [] := fun A w' hne => absurd rfl hne
  have zd : ∀ (A : Option Addr) w', KdAt w' A [] := fun A w' hne => absurd rfl hne
  have m0 : 0 ≤ maxLen := Nat.zero_le _
  cases lf
  · simp only [Bool.false_eq_true, if_false] at hc hh h2 hm
    obtain ⟨rfl, hkd⟩ := hc
    obtain ⟨bk, ok, hKA, _⟩ := hat.k (by intro e; dsimp only at e; rw [e] at hkd; simp at hkd; omega)
    obtain ⟨bd, od, hDA, _⟩ := hat.d (by intro e; dsimp only at e; rw [e] at h2; simp at h2)
    dsimp only at hKA hDA
    subst hKA hDA
    have e1 := hat.kc
    have e2 := hat.dc
    have e3 := hat.km
    have e4 := hat.dm
    dsimp only at e1 e2 e3 e4
    have e3' := e3
    have e4' := e4
    unfold maxLen at e3' e4'
    have := halves_inner bk ok ds.length kc bd od dc h EA 0 ec hh h2 (by omega) e2 (by omega) e3' e4' w
    have hr := this.mono (R' := fun e w' => (∃ la lb : NdL, e = .returned (.tuple #[.agg #[.bool (partA ⟨false, [], ks, ds⟩ h).leaf, .slice la.EA (partA ⟨false, [], ks, ds⟩ h).es.length la.ec, .slice la.KA (partA ⟨false, [], ks, ds⟩ h).ks.length la.kc, .slice la.DA (partA ⟨false, [], ks, ds⟩ h).ds.length la.dc], .agg #[.bool (partB ⟨false, [], ks, ds⟩ h).leaf, .slice lb.EA (partB ⟨false, [], ks, ds⟩ h).es.length lb.ec, .slice lb.KA (partB ⟨false, [], ks, ds⟩ h).ks.length lb.kc, .slice lb.DA (partB ⟨false, [], ks, ds⟩ h).ds.length lb.dc]]) ∧ NodeAt w' (partA ⟨false, [], ks, ds⟩ h) la ∧ NodeAt w' (partB ⟨false, [], ks, ds⟩ h) lb) ∧ Below w.heap.size w w') (by
      rintro e w' ⟨rfl, hb⟩
      refine ⟨⟨⟨none, 0, some ⟨bk, ok, none⟩, kc, some ⟨bd, od, none⟩, dc⟩, ⟨none, 0, some ⟨bk, ok + h * 2, none⟩, kc - h, some ⟨bd, od + h, none⟩, dc - h⟩, ?_, ?_, ?_⟩, hb⟩
      · simp only [partA, partB, List.length_take, List.length_drop, List.length_nil, Nat.min_zero, Nat.zero_sub]
        rw [show min h ks.length = h by omega, show min h ds.length = h by omega, hkd]
      · have ek := (hat.below hb).k.take h
        have ed := (hat.below hb).d.take h
        exact { e := by unfold partA; rw [List.take_nil]; exact ze _ _, k := ek, d := ed, ec := by unfold partA; simp, kc := by show (ks.take h).length ≤ kc; rw [List.length_take]; omega, dc := by show (ds.take h).length ≤ dc; rw [List.length_take]; omega, em := m0, km := e3, dm := e4 }
      · have ek := (hat.below hb).k.drop h
        have ed := (hat.below hb).d.drop h
        exact { e := by unfold partB; rw [List.drop_nil]; exact ze _ _, k := ek, d := ed, ec := by unfold partB; simp, kc := by show (ks.drop h).length ≤ kc - h; rw [List.length_drop]; omega, dc := by show (ds.drop h).length ≤ dc - h; rw [List.length_drop]; omega, em := m0, km := by show kc - h ≤ maxLen; omega, dm := by show dc - h ≤ maxLen; omega })
    rw [hkd]
    exact hr
  · simp only [if_true] at hc hh h2 hm
    obtain ⟨rfl, rfl⟩ := hc
    obtain ⟨be, oe, hEA, _⟩ := hat.e (by intro e; dsimp only at e; rw [e] at h2; simp at h2)
    dsimp only at hEA
    subst hEA
    have e1 := hat.ec
    have e3 := hat.em
    dsimp only at e1 e3
    have e3' := e3
    unfold maxLen at e3'
    refine (halves_leaf be oe es.length ec h KA DA 0 kc 0 dc hh h2 e1 (by omega) e3' w).mono ?_
    rintro e w' ⟨rfl, hb⟩
    refine ⟨⟨⟨some ⟨be, oe, none⟩, ec, none, 0, none, 0⟩, ⟨some ⟨be, oe + h * 8, none⟩, ec - h, none, 0, none, 0⟩, ?_, ?_, ?_⟩, hb⟩
    · simp only [partA, partB, List.length_take, List.length_drop, List.length_nil, Nat.min_zero, Nat.zero_sub]
      rw [show min h es.length = h by omega]
    · have ek := (hat.below hb).e.take h
      exact { e := ek, k := by unfold partA; rw [List.take_nil]; exact zk _ _, d := by show KdAt w' none (([] : List Int).take h); rw [List.take_nil]; exact zd _ _, ec := by show (es.take h).length ≤ ec; rw [List.length_take]; omega, kc := by unfold partA; simp, dc := by unfold partA; simp, em := e3, km := m0, dm := m0 }
    · have ek := (hat.below hb).e.drop h
      exact { e := ek, k := by unfold partB; rw [List.drop_nil]; exact zk _ _, d := by show KdAt w' none (([] : List Int).drop h); rw [List.drop_nil]; exact zd _ _, ec := by show (es.drop h).length ≤ ec - h; rw [List.length_drop]; omega, kc := by unfold partB; simp, dc := by unfold partB; simp, em := by show ec - h ≤ maxLen; omega, km := m0, dm := m0 }
theorem fits_small {n : NodeD} (hc : cleanN n) (hm : n.size ≤ 1000000000) : FitsN n := by
  obtain ⟨lf, es, ks, ds⟩ := n
  unfold cleanN at hc
  unfold NodeD.size at hm
  cases lf
  · simp only [Bool.false_eq_true, if_false] at hc hm
    obtain ⟨rfl, hkd⟩ := hc
    exact ⟨by simp, by dsimp only; omega, by dsimp only; omega⟩
  · simp only [if_true] at hc hm
    obtain ⟨rfl, rfl⟩ := hc
    exact ⟨by dsimp only; omega, by simp, by simp⟩
/-- Split of whatever node. -/
theorem split_any : ∀ (k : Nat) (n : NodeD) (l : NdL), n.size ≤ k → cleanN n → n.size ≤ 1000000000 → ∀ w, NodeAt w n l →
    Calls Try.prog 21 #[.agg #[.bool n.leaf, .slice l.EA n.es.length l.ec, .slice l.KA n.ks.length l.kc, .slice l.DA n.ds.length l.dc]] w (SplitRet w n)
  | 0, n, l, hk, hc, _, w, _ => split_none n l hc (by omega) w
  | k + 1, n, l, hk, hc, hm, w, hat => by
    by_cases h0 : n.size = 0
    · exact split_none n l hc h0 w
    · by_cases h1 : n.size ≤ capN n.leaf
      · exact split_one n l hc (by omega) h1 (fits_small hc hm) w hat
      · have hcap : 7 ≤ capN n.leaf := by unfold capN; split <;> omega
        have hs : (partA n ((n.size + 1) / 2)).size = (n.size + 1) / 2 := partA_size n _ (by omega)
        have hs2 := partB_size n ((n.size + 1) / 2)
        exact split_two n _ _ l hc (by omega) _ rfl rfl rfl hm w hat (fun W' h' => halves_any n l hc _ rfl (by omega) hm W' h')
          (fun la W' h' => split_any k _ la (by omega) (partA_clean hc _) (by omega) W' h') (fun lb W' h' => split_any k _ lb (by omega) (partB_clean hc _) (by omega) W' h')
end Go.Proofs.Ytgkddhncfaeidaa
