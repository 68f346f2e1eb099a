/- Several texts in one: open, done. begin: a change begins. -/
import Derived.Test.YtgkddhncfaeidaaTvWr
import Derived.Test.YtgkddhncfaeidaaPart24
import Derived.Test.YtgkddhncfaeidaaPart21
import Derived.Test.YtgkddhncfaeidaaPart01
import Derived.Great.FillDense
set_option linter.unusedSimpArgs false
set_option linter.unusedVariables false
namespace Go.Proofs.Ytgkddhncfaeidaa
open Go.RowKit Go.ChangeShapes Go.WideShapes Go.ChangeAt CrcM PageM
set_option linter.unusedVariables false

set_option maxRecDepth 100000 in
theorem open_yes (gv g gen : Nat) (p : Int) (U V : List Bool) (w : World) (h : ViewAt w gv g gen p U V) :
    Calls Try.prog 76 #[.pointer (some ⟨gv, 0, none⟩)] w fun e w' => e = .returned (.bool true) ∧ w = w' := by
  have c := h.cd
  clear h
  go_enter Try.func76, Try.ntmps76
  go_wp2_with fail
  go_ret
  exact ⟨rfl, rfl⟩

/-- What a write leaves. -/
structure Wrote (w w' : World) (gv g gen p : Nat) (U Vv : List Bool) (B gs gn Ls cs cn : Nat) (rw : Value) (st nw : List UInt8) (ws : List (Nat × List UInt8)) (L : List (Nat × (NodeD × NdL))) : Prop where
  view : ViewAt w' gv g gen (p : Int) U Vv
  disk : ∃ rw' ws' nw', Dk w' B w'.heap.size g gs gn rw' Ls cs cn st nw' ws' true (-1) ∧ ws'.length = ws.length + 4 * L.length ∧ PgsOf gen nw nw' L ∧ Moved w rw.ownBlock rw'.ownBlock
  out : OuterX (fun k => DkX g gn rw k ∨ k = gv) w w'

section
variable {w w' W : World} {gv g gen p B gs gn Ls cs cn : Nat} {U Vv : List Bool} {rw : Value} {st nw : List UInt8} {ws : List (Nat × List UInt8)} {L : List (Nat × (NodeD × NdL))}
theorem Wrote.pre (hb : Below w.heap.size w W) (h : Wrote W w' gv g gen p U Vv B gs gn Ls cs cn rw st nw ws L) : Wrote w w' gv g gen p U Vv B gs gn Ls cs cn rw st nw ws L where
  view := h.view
  disk := by
    obtain ⟨rw', ws', nw', h1, h2, h3, h4⟩ := h.disk
    refine ⟨rw', ws', nw', h1, h2, h3, ?_⟩
    rcases h4 with h4 | ⟨q, h4, h5⟩
    · exact .inl h4
    · exact .inr ⟨q, h4, Nat.le_trans hb.size h5⟩
  out := ⟨h.out.os.trans hb.os, h.out.tape.trans hb.tape, h.out.output.trans hb.output, Nat.le_trans hb.size h.out.size, fun k hk hX => (h.out.block k (Nat.lt_of_lt_of_le hk hb.size) hX).trans (hb.block k hk)⟩
theorem Wrote.post {T : TypeId} (h : Wrote w W gv g gen p U Vv B gs gn Ls cs cn rw st nw ws L) (hk : KeptNot T W w') (hb : Below w.heap.size W w') (h1 : T ≠ 143) (h2 : T ≠ 159) (h3 : T ≠ 5) (h4 : T ≠ 211) : Wrote w w' gv g gen p U Vv B gs gn Ls cs cn rw st nw ws L where
  view := h.view.keep (hk.kept _ _ _ _ h.view h1.symm)
  disk := by
    obtain ⟨rw', ws', nw', d, a2, a3, a4⟩ := h.disk
    refine ⟨rw', ws', nw', ?_, a2, a3, a4⟩
    have tn := d.tyN
    obtain ⟨curN, hcN⟩ := tn
    obtain ⟨_, _, _, curS, hcS, _⟩ := d.stay.parts
    have d2 := d.keepX hk.size (hk.kept _ _ _ _ d.head h2.symm) (hk.kept _ _ _ _ hcS h3.symm) (hk.kept _ _ _ _ hcN h3.symm) (fun k e => by
      rcases d.wait.2 with ⟨e0, _⟩ | ⟨q, cap, cur, hv, _, hq, _⟩
      · rw [e0] at e
        simp [Value.ownBlock] at e
      · rw [hv] at e
        obtain rfl : q = k := by simpa [Value.ownBlock] using e
        exact hk.kept _ _ _ _ hq h4.symm)
    exact { d2 with gN := Nat.lt_of_lt_of_le d2.gN d2.NN, sN := Nat.lt_of_lt_of_le d2.sN d2.NN, nN := Nat.lt_of_lt_of_le d2.nN d2.NN, wN := fun q hq => Nat.lt_of_lt_of_le (d2.wN q hq) d2.NN, NN := Nat.le_refl _ }
  out := ⟨hb.os.trans h.out.os, hb.tape.trans h.out.tape, hb.output.trans h.out.output, Nat.le_trans h.out.size hb.size, fun k hk2 hX => (hb.block k hk2).trans (h.out.block k hk2 hX)⟩
end

set_option maxRecDepth 100000 in
set_option maxHeartbeats 4000000 in
theorem done_yes (a h gc gv g gen p : Nat) (U Uv Vv : List Bool) {B N gs gn Ls cs cn : Nat} {rw : Value} {st nw : List UInt8} {ws : List (Nat × List UInt8)} (L : List (Nat × (NodeD × NdL))) (w : World) (hd : Dk w B N g gs gn rw Ls cs cn st nw ws true (-1)) (hv : ViewAt w gv g gen (p : Int) Uv Vv)
    (hw : ∀ W, Below w.heap.size w W → Calls Try.prog 90 #[.pointer (some ⟨gc, 0, none⟩)] W fun e w' => e = .returned (.int .i64 0) ∧ Wrote W w' gv g gen p U Vv B gs gn Ls cs cn rw st nw ws L) :
    Calls Try.prog 79 #[.pointer (some ⟨gc, 0, none⟩), .agg #[.int .i64 (a : Int), .int .i64 (h : Int)], .int .i64 0] w fun e w' => e = .returned (.tuple #[.agg #[.int .i64 (a : Int), .int .i64 (h : Int)], .int .i64 0]) ∧ Wrote w w' gv g gen p U Vv B gs gn Ls cs cn rw st nw ws L := by
  have HW := Lib.hid hw
  have HD := Lib.hid hd
  have HV := Lib.hid hv
  clear hw hd hv
  go_enter Try.func79, Try.ntmps79
  go_upto_region 2 with fail
  obtain ⟨w2, hw2⟩ : ∃ w2, w2 = (w.alloc (.cells #[.int .i64 (a : Int), .int .i64 (h : Int)] 63)).alloc (.cells #[.int .i64 0, .int .i64 0] 63) := ⟨_, rfl⟩
  have B2 : Hid (Below w.heap.size w w2) := Lib.hid (by rw [hw2]; exact ((Below.refl _ _).alloc (Nat.le_refl _) _).alloc (by simp) _)
  have G4 : Hid (w2.heap[w.heap.size]? = some (.cells #[.int .i64 (a : Int), .int .i64 (h : Int)] 63 (0, 0))) := Lib.hid (by rw [hw2]; exact row_stays (heap_alloc_new _ _) ((Below.refl _ _).alloc (Nat.le_refl _) _))
  have G6 : Hid (w2.heap[w.heap.size + 1]? = some (.cells #[.int .i64 0, .int .i64 0] 63 (0, 0))) := Lib.hid (by rw [hw2, show w.heap.size + 1 = (w.alloc (.cells #[.int .i64 (a : Int), .int .i64 (h : Int)] 63)).heap.size by simp]; exact heap_alloc_new _ _)
  rw [← hw2]
  clear hw2
  go_upto_region 5 with (go_at_call 90; refine (HW.out _ B2.out).mono ?_; rintro e w3 ⟨rfl, h3⟩; have W3 := Lib.hid h3; clear h3)
  have hX : ∀ k cs' fr, w2.heap[k]? = some (.cells cs' 63 fr) → ¬ (DkX g gn rw k ∨ k = gv) := fun k cs' fr hk hx => by
    rcases hx with hx | hx
    · exact (HD.out.below B2.out).notX hk (by decide) (.inl (by decide)) (by decide) hx
    · subst hx
      have h1 := HV.out.below B2.out
      unfold ViewAt at h1
      rw [hk] at h1
      cases h1
  have H4 := Lib.hid (W3.out.out.heap G4.out (hX _ _ _ G4.out))
  have H6 := Lib.hid (W3.out.out.heap G6.out (hX _ _ _ G6.out))
  clear hX
  go_wp2_with (first
    | (refine wpList_load_row rfl 63 (.tmp 4) rfl w.heap.size rfl 63 _ (0, 0) _ H4.out Try.underlying63 rfl (by kernel_rfl) ?_)
    | (refine wpList_store_row rfl 63 (.tmp 6) (.tmp 16) rfl (w.heap.size + 1) #[.int .i64 (a : Int), .int .i64 (h : Int)] rfl rfl 63 _ H6.out (by kernel_rfl) rfl (by simp [Value.oneCell']) ?_))
  refine bodyPost_ret (v := .tuple #[.agg #[.int .i64 (a : Int), .int .i64 (h : Int)], .int .i64 0]) (results_cell_tmpB (p := 6) (u := 7) (ty := 63) rfl _ _ (w.heap.size + 1) 63 _ (0, 0) _ rfl (setRow_heap _ _ _ _ _ _ H6.out) Try.underlying63 rfl (by kernel_rfl)) rfl ⟨rfl, ?_⟩
  exact (W3.out.pre B2.out).post (KeptNot.of_setRow H6.out _) (below_setRow (Below.refl _ _) (Nat.le_succ _) _) (by decide) (by decide) (by decide) (by decide)
end Go.Proofs.Ytgkddhncfaeidaa

namespace Go.Proofs.Ytgkddhncfaeidaa
open Go.RowKit Go.ChangeShapes Go.WideShapes Go.ChangeAt CrcM PageM
set_option linter.unusedVariables false

/-- A build yields the same in every world. -/
theorem quietS_build {P : Program} {o : Oper} {a : Act} {S : World → Prop} {K : Act → Prop} (t : TypeId) (parts : Array (Nat × Operand)) (ho : o.op = .build t parts)
    (cells : Array Value) (hf : P.built t (parts.map fun (i, x) => (i, a.eval x)).toList = some cells) (h : K (a.put o.dst (.agg cells))) : o.quiet P a S K := by
  refine ⟨.agg cells, fun w _ => ?_, h⟩
  unfold Oper.quietAt execOp
  simp only [ho, Sem.run_bind, run_build w t _ cells hf, Result.andThen_ok, Sem.run_pure]
  exact ⟨rfl, rfl⟩
theorem built_chg (parts : List (Nat × Value)) : Try.prog.built 163 parts = Instr.fill (fun i => ([(0, 1), (1, 513), (514, 513), (1027, 1)].toArray : Array (Nat × Nat))[i]?) Try.zeroCells163 parts := by kernel_rfl
theorem size_zeroChg : (Try.zeroCells163).size = 1028 := by kernel_rfl
theorem last_zeroChg : (Try.zeroCells163)[1027]? = some (.slice none 0 0) := by kernel_rfl
theorem fill_one {place : Nat → Option (Nat × Nat)} {cells : Array Value} {i off : Nat} {v : Value} {V : List Value} {rest : List (Nat × Value)} (hv : v.cells = V.toArray) (hp : place i = some (off, V.length)) (hs : off + V.length ≤ cells.size) :
    Instr.fill place cells ((i, v) :: rest) = Instr.fill place ((V.zipIdx 0).foldl (fun cs (x : Value × Nat) => cs.setIfInBounds (off + x.2) x.1) cells) rest := by
  rw [Instr.fill, hp]
  simp only [hv, List.size_toArray]
  rw [if_neg (by simp; omega)]
  simp
set_option maxRecDepth 100000 in
theorem chg_built (gv p : Nat) (U V : List Bool) (hU : U.length = 512) (hV : V.length = 512) :
    Try.prog.built 163 [(0, .pointer (some ⟨gv, 0, none⟩)), (1, .agg (mapL (p : Int) U).toArray), (2, .agg (mapL (p : Int) V).toArray)] = some (chgL gv (p : Int) U V (.slice none 0 0)).toArray := by
  rw [built_chg]
  have lU := mapL_len (p : Int) hU
  have lV := mapL_len (p : Int) hV
  obtain ⟨s1, q1⟩ := Great.foldl_set 0 [Value.pointer (some ⟨gv, 0, none⟩)] 0 Try.zeroCells163
  rw [fill_one (V := [Value.pointer (some ⟨gv, 0, none⟩)]) rfl rfl (by rw [size_zeroChg]; simp)]
  generalize List.foldl (fun cs (x : Value × Nat) => cs.setIfInBounds (0 + x.2) x.1) Try.zeroCells163 ([Value.pointer (some ⟨gv, 0, none⟩)].zipIdx 0) = Z1 at *
  obtain ⟨s2, q2⟩ := Great.foldl_set 1 (mapL (p : Int) U) 0 Z1
  rw [fill_one (V := mapL (p : Int) U) rfl (by rw [lU]; rfl) (by rw [s1, size_zeroChg, lU]; decide)]
  generalize List.foldl (fun cs (x : Value × Nat) => cs.setIfInBounds (1 + x.2) x.1) Z1 ((mapL (p : Int) U).zipIdx 0) = Z2 at *
  obtain ⟨s3, q3⟩ := Great.foldl_set 514 (mapL (p : Int) V) 0 Z2
  rw [fill_one (V := mapL (p : Int) V) rfl (by rw [lV]; rfl) (by rw [s2, s1, size_zeroChg, lV]; decide)]
  generalize List.foldl (fun cs (x : Value × Nat) => cs.setIfInBounds (514 + x.2) x.1) Z2 ((mapL (p : Int) V).zipIdx 0) = Z3 at *
  rw [Instr.fill]
  congr 1
  rw [s1, size_zeroChg] at s2
  rw [s2] at s3
  rw [size_zeroChg] at s1
  apply Array.ext_getElem?
  intro k
  have eC : (chgL gv (p : Int) U V (.slice none 0 0)).toArray[k]? = (chgL gv (p : Int) U V (.slice none 0 0))[k]? := by simp
  rw [q3, q2, q1, s2, s1, size_zeroChg, lU, lV, eC]
  by_cases h0 : k = 0
  · subst h0
    rw [if_neg (by omega), if_neg (by omega), if_pos (by simp)]
    rfl
  · by_cases h1 : k < 514
    · rw [if_neg (by omega), if_pos (by omega)]
      obtain ⟨j, rfl⟩ : ∃ j, k = j + 1 := ⟨k - 1, by omega⟩
      rw [chgL, List.getElem?_cons_succ, List.getElem?_append_left (by rw [lU]; omega), show j + 1 - (1 + 0) = j by omega]
    · by_cases h2 : k < 1027
      · rw [if_pos (by omega)]
        obtain ⟨j, rfl⟩ : ∃ j, k = j + 514 := ⟨k - 514, by omega⟩
        rw [chgL, show j + 514 = (j + 513) + 1 by omega, List.getElem?_cons_succ, List.getElem?_append_right (by rw [lU]; omega), lU, List.getElem?_append_left (by rw [lV]; omega)]
        rw [show j + 513 + 1 - (514 + 0) = j by omega, show j + 513 - 513 = j by omega]
      · rw [if_neg (by omega), if_neg (by omega), if_neg (by simp; omega)]
        by_cases h3 : k = 1027
        · subst h3
          rw [last_zeroChg, chgL, show 1027 = 1026 + 1 from rfl, List.getElem?_cons_succ, List.getElem?_append_right (by rw [lU]; omega), lU, List.getElem?_append_right (by rw [lV]; omega), lV]
          rfl
        · rw [Array.getElem?_eq_none (by rw [size_zeroChg]; omega), List.getElem?_eq_none (by rw [chgL_len hU hV]; omega)]

/-- The first k pages are in use if they are in either map. -/
def orK (U V : List Bool) : Nat → List Bool
  | 0 => V
  | k + 1 => (orK U V k).set k (V.getD k false || U.getD k false)
theorem length_orK (U V : List Bool) : ∀ k, (orK U V k).length = V.length
  | 0 => rfl
  | k + 1 => by rw [orK, List.length_set, length_orK U V k]
theorem getD_orK (U V : List Bool) (j : Nat) : ∀ k, k ≤ V.length → (orK U V k).getD j false = if j < k then (V.getD j false || U.getD j false) else V.getD j false
  | 0, _ => by rw [if_neg (by omega)]; rfl
  | k + 1, h => by
    rw [orK, getD_set' _ _ _ _ (by rw [length_orK]; omega), getD_orK U V j k (by omega)]
    by_cases h1 : j = k
    · rw [if_pos h1, if_pos (by omega), h1]
    · rw [if_neg h1]
      by_cases h2 : j < k
      · rw [if_pos h2, if_pos (by omega)]
      · rw [if_neg h2, if_neg (by omega)]
theorem ViewAt.cu {w : World} {gv g gen : Nat} {p : Int} {U V : List Bool} (h : ViewAt w gv g gen p U V) : w.rangeAt gv 259 (U.map Value.bool) :=
  range_of_block (X := tab.toList ++ [.pointer (some ⟨g, 0, none⟩), .int .u64 (gen : Int), .int .i64 p]) (Z := mapL p V) h (by simp [viewL, mapL]) (by rw [List.length_append, tab_len]; rfl)
theorem ChgAt.cbi {w : World} {gc gv : Nat} {p : Int} {U V : List Bool} {lv : Value} (h : ChgAt w gc gv p U V lv) (hU : U.length = 512) (k : Nat) (hk : k < V.length) : w.cell? ⟨gc, 515 + k, none⟩ = some (.bool (V.getD k false)) := by
  have h1 := h.cb hU (1 + k) (.bool (V.getD k false)) (by
    rw [mapL, Nat.add_comm, List.getElem?_cons_succ, List.getElem?_map, List.getElem?_eq_getElem hk]
    simp [List.getD, List.getElem?_eq_getElem hk])
  rwa [show 514 + (1 + k) = 515 + k by omega] at h1
theorem ChgAt.setB {w : World} {gc gv : Nat} {p : Int} {U V : List Bool} {lv : Value} (h : ChgAt w gc gv p U V lv) (hU : U.length = 512) (k : Nat) (hk : k < V.length) (b : Bool) : ChgAt (w.setCell ⟨gc, 515 + k, none⟩ (.bool b)) gc gv p U (V.set k b) lv := by
  have h1 := heap_setCell_same w gc (515 + k) _ _ (.bool b) h
  rw [List.setIfInBounds_toArray] at h1
  have e : ∀ V : List Bool, chgL gv p U V lv = (.pointer (some ⟨gv, 0, none⟩) :: (mapL p U ++ [.int .i64 p])) ++ (V.map Value.bool ++ [lv]) := fun V => by simp [chgL, mapL]
  have hl : (Value.pointer (some ⟨gv, 0, none⟩) :: (mapL p U ++ [.int .i64 p])).length = 515 := by rw [List.length_cons, List.length_append, mapL_len p hU]; rfl
  rw [e V, List.set_append_right _ _ (by rw [hl]; omega), hl, show 515 + k - 515 = k by omega, List.set_append_left _ _ (by rw [List.length_map]; exact hk), ← List.map_set] at h1
  unfold ChgAt
  rw [e (V.set k b)]
  exact h1
theorem infoU {U : List Bool} (hU : U.length = 512) : (Try.prog.info? 113).map (·.size) = some (U.map Value.bool).length := by
  rw [List.length_map, hU]
  kernel_rfl

theorem meas_step3 {M k : Nat} {z : Int} (h : k < M) (e : z = (k : Int) + 1) : M - (intOf (.int .i64 z)).toNat < M - (intOf (.int .i64 (k : Int))).toNat := by
  subst e
  simp only [intOf]
  omega

set_option maxRecDepth 100000 in
set_option maxHeartbeats 8000000 in
theorem begin_yes (gv g gen p : Nat) (U V : List Bool) (hU : U.length = 512) (hV : V.length = 512) (w : World) (h : ViewAt w gv g gen (p : Int) U V) :
    Calls Try.prog 78 #[.pointer (some ⟨gv, 0, none⟩)] w fun e w' => ∃ gc, e = .returned (.pointer (some ⟨gc, 0, none⟩)) ∧ ChgS w' gc gv p w.heap.size U (orK U V 512) (.slice none 0 0) [] ∧ Below w.heap.size w w' := by
  have H := Lib.hid h
  have HU := Lib.hid hU
  have HV := Lib.hid hV
  have HBU := Lib.hid (chg_built gv p U V hU hV)
  obtain ⟨C, hC⟩ : ∃ C, C = (chgL gv (p : Int) U V (.slice none 0 0)).toArray := ⟨_, rfl⟩
  rw [← hC] at HBU
  have HC := Lib.hid hC
  clear h hU hV hC
  go_enter Try.func78, Try.ntmps78
  go_upto_region 1 with fail
  have g1 : ∀ y : SubX (fun _ => False) w, y.at_.rangeAt gv 258 (mapL (p : Int) U) := fun y => (H.out.keep (y.ok_.block _ H.out.lt (fun h => h))).cm
  have g2 : ∀ y : SubX (fun _ => False) w, y.at_.rangeAt gv 771 (mapL (p : Int) V) := fun y => (H.out.keep (y.ok_.block _ H.out.lt (fun h => h))).co HU.out
  refine region_waysX 11 (fun _ => False) (.one [0, 1, 2, 3, 4, 5, 6, 7, 8, 9] 10 (.done [])) (by kernel_rfl) (by kernel_rfl) ?_
  rintro wd hbd
  have BD := Lib.hid hbd
  clear hbd
  rw [wpWaysT_one]
  try simp only [List.map_cons, List.map_nil, opAt, List.getElem?_toArray, List.getElem?_cons_zero, List.getElem?_cons_succ, Option.getD_some]
  repeat (first
    | (go_big_quiet_want; refine quietX_load_mid 115 (.tmp 9) rfl gv 258 rfl (mapL (p : Int) U) _ g1 Try.underlying115 rfl (infoMapL _ HU.out) ?_; simp only [Act.put, List.setIfInBounds_toArray, List.set_cons_zero, List.set_cons_succ]; go_big_quiet_on)
    | (go_big_quiet_want; refine quietX_load_mid 115 (.tmp 13) rfl gv 771 rfl (mapL (p : Int) V) _ g2 Try.underlying115 rfl (infoMapL _ HV.out) ?_; simp only [Act.put, List.setIfInBounds_toArray, List.set_cons_zero, List.set_cons_succ]; go_big_quiet_on)
    | (go_big_quiet_want; refine quietS_build 163 _ rfl C (by simp only [List.map_toArray, List.map_cons, List.map_nil]; exact HBU.out) ?_; simp only [Act.put, List.setIfInBounds_toArray, List.set_cons_zero, List.set_cons_succ]; go_big_quiet_on)
    | go_big_quiet_step (fail))
  clear g1 g2
  refine wpQuiet_nil ?_
  go_wp2_with fail
  obtain ⟨gc, hgc⟩ : ∃ gc, gc = wd.heap.size := ⟨_, rfl⟩
  obtain ⟨w1, hw1⟩ : ∃ w1, w1 = wd.alloc (.cells C 163) := ⟨_, rfl⟩
  have C1 : Hid (ChgAt w1 gc gv (p : Int) U V (.slice none 0 0)) := Lib.hid (by
    rw [hw1, hgc, HC.out]
    exact heap_alloc_new _ _)
  have B1 : Hid (Below w.heap.size w w1) := Lib.hid (BD.out.trans ((alloc_bel hw1).mono BD.out.size))
  have LG : Hid (w.heap.size ≤ gc) := Lib.hid (by rw [hgc]; exact BD.out.size)
  rw [← hw1, ← hgc]
  clear hw1 hgc
  refine ⟨⟨⟨_, outerX_of_below B1.out⟩, rfl⟩, ?_⟩
  try simp only [Act.put, List.setIfInBounds_toArray, List.set_cons_zero, List.set_cons_succ]
  rw [wpWaysT_done]
  simp only [List.map_nil, List.drop_succ_cons, List.drop_zero]
  refine wpQuiet_nil ?_
  go_upto_region 3 with (refine wpList_load_mid rfl 113 _ rfl gv 259 rfl (U.map Value.bool) _ (H.out.below B1.out).cu Try.underlying113 rfl (infoU HU.out) ?_)
  have C2 : Hid (ChgAt w1 gc gv (p : Int) U (orK U V 0) (.slice none 0 0)) := C1
  clear C1 HC HBU
  go_loopw [22] (fun i wr => ∃ k : Nat, k ≤ 512 ∧ i = .int .i64 (k : Int) ∧ Hid (ChgAt wr gc gv (p : Int) U (orK U V k) (.slice none 0 0) ∧ Below w.heap.size w wr))
    (fun i _ => 512 - (intOf i).toNat)
  case atStart => exact ⟨0, Nat.zero_le _, rfl, Lib.hid ⟨C2.out, B1.out⟩⟩
  case round =>
    clear C2 B1
    obtain ⟨k, hk, rfl, HR⟩ := hrel
    by_cases hlt : k < 512
    · have hkm : decide ((k : Int) < 512) = true := by simp; omega
      have hix := run_idx U HU.out k hlt wr
      obtain ⟨b, hb⟩ : ∃ b, V.getD k false = b := ⟨_, rfl⟩
      obtain ⟨u, hu⟩ : ∃ u, U.getD k false = u := ⟨_, rfl⟩
      have HBB := Lib.hid hb
      have HUU := Lib.hid hu
      rw [hu] at hix
      clear hb hu
      go_upto_region 5 with fail
      have g1 : ∀ y : SubX (fun q => q = gc) wr, True := fun _ => trivial
      have g2 : ∀ y : SubX (fun _ => False) wr, y.at_.cell? ⟨gc, 515 + k, none⟩ = some (.bool b) := fun y => by
        have h1 := (HR.out.1.keep (y.ok_.block _ HR.out.1.lt (fun h => h))).cbi HU.out k (by rw [length_orK, HV.out]; exact hlt)
        rwa [getD_orK _ _ _ _ (by rw [HV.out]; exact hk), if_neg (Nat.lt_irrefl _), HBB.out] at h1
      clear g1
      refine region_waysX 16 (fun _ => False) (.done [0, 1, 2, 3, 4, 5, 6, 7, 8, 9, 10, 11, 12, 13, 14, 15]) (by kernel_rfl) (by kernel_rfl) ?_
      rintro wd2 hbd
      have BD2 := Lib.hid hbd
      clear hbd
      rw [wpWaysT_done]
      try simp only [List.map_cons, List.map_nil, opAt, List.getElem?_toArray, List.getElem?_cons_zero, List.getElem?_cons_succ, Option.getD_some]
      have CC := Lib.hid (HR.out.1.below BD2.out)
      have BW := Lib.hid (HR.out.2.trans (BD2.out.mono HR.out.2.size))
      have k1 : wd2.cell? ⟨gc, 515 + k, none⟩ = some (.bool b) := by
        have h1 := CC.out.cbi HU.out k (by rw [length_orK, HV.out]; exact hlt)
        rwa [getD_orK _ _ _ _ (by rw [HV.out]; exact hk), if_neg (Nat.lt_irrefl _), HBB.out] at h1
      have k2 := CC.out.fr (515 + k)
      have HEND : Hid (ChgAt (wd2.setCell ⟨gc, 515 + k, none⟩ (.bool (b || u))) gc gv (p : Int) U (orK U V (k + 1)) (.slice none 0 0) ∧ Below w.heap.size w (wd2.setCell ⟨gc, 515 + k, none⟩ (.bool (b || u)))) := Lib.hid ⟨by rw [orK, HBB.out, HUU.out]; exact CC.out.setB HU.out k (by rw [length_orK, HV.out]; exact hlt) _, bel_cell BW.out LG.out⟩
      clear HBB HUU
      cases b
      · skip
        repeat (first
          | go_big_quiet_step (fail))
        clear g2
        refine wpQuiet_nil ?_
        simp only [List.drop_succ_cons, List.drop_zero]
        rw [Bool.false_or] at HEND
        go_wp2_with fail
        go_roundw
        case rel => exact ⟨k + 1, by omega, by go_num, HEND⟩
        case measure => exact meas_step3 hlt rfl
      · skip
        repeat (first
          | go_big_quiet_step (fail))
        clear g2
        refine wpQuiet_nil ?_
        simp only [List.drop_succ_cons, List.drop_zero]
        rw [Bool.true_or] at HEND
        go_wp2_with fail
        go_roundw
        case rel => exact ⟨k + 1, by omega, by go_num, HEND⟩
        case measure => exact meas_step3 hlt rfl
    · obtain rfl : k = 512 := by omega
      go_wp2_with fail
      go_ret
      exact ⟨gc, rfl, ⟨HR.out.1, World.ownsRow_nil _ _ _ _, LG.out⟩, HR.out.2⟩
end Go.Proofs.Ytgkddhncfaeidaa
