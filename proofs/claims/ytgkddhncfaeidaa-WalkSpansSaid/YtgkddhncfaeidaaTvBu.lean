/- The law's build: a tree of entries that are loaded. -/
import Derived.Test.YtgkddhncfaeidaaPart26
import Derived.Test.YtgkddhncfaeidaaPart27
import Derived.Test.YtgkddhncfaeidaaPart28
import Derived.Test.YtgkddhncfaeidaaPart32
import Derived.Test.YtgkddhncfaeidaaTvTa
set_option linter.unusedSimpArgs false
set_option linter.unusedVariables false
namespace Go.Proofs.Ytgkddhncfaeidaa
open Go.RowKit Go.ChangeShapes Go.WideShapes Go.ChangeAt CrcM PageM
set_option linter.unusedVariables false

/-- Between two rounds. -/
structure BuI (w wo W : World) (s i : Nat) (A1 : Option Addr) (c1 : Nat) (A2 : Option Addr) (c2 : Nat) : Prop where
  r1 : W.ownsRow wo.heap.size 51 8 (.slice A1 i c1) i ((ents i s).flatMap enC)
  r2 : W.ownsRow wo.heap.size 77 8 (.slice A2 i c2) i ((ents i s).flatMap enC)
  bel : Below wo.heap.size wo W
  z : i = 0 → A2 = none ∧ c2 = 0
theorem okM_map0 : okM ((200 : Nat) : Int) map0 := (BtInv.init 200).ok (by decide) (by decide)
theorem entC (s i : Nat) : enC (entI s i) = [.int .i64 ((i / 30 : Nat) : Int), .int .i64 ((i % 30 * (s + 1) : Nat) : Int), .int .i64 ((i % 30 * (s + 1) + i % (s + 1) : Nat) : Int), .int .i64 ((2 + i : Nat) : Int), .int .i64 1, .int .i64 1, .int .i64 0, .int .u32 0] := rfl

/-- A row of entries as the node that is to be filled. -/
theorem nodeT_row {w : World} {b n : Nat} {A : Option Addr} {c : Nat} {es : List EntD} (hn : es.length = n) (h : w.ownsRow b 77 8 (.slice A n c) n (es.flatMap enC)) : NodeT w ⟨true, es, [], []⟩ ⟨A, c, none, 0, none, 0⟩ where
  at_ := { e := EnAt.of_row h, k := fun h => absurd rfl h, d := fun h => absurd rfl h, ec := by show es.length ≤ c; rw [hn]; exact (row_cap h).1, kc := Nat.le_refl _, dc := Nat.le_refl _, em := (row_cap h).2, km := by unfold maxLen; simp, dm := by unfold maxLen; simp }
  te := fun hne => by
    rcases h.2 with ⟨h1, h2⟩ | ⟨g', cap, cur, hv, _, hh, _⟩
    · exfalso
      have hl := h.1
      subst h2
      cases es with
      | nil => exact hne rfl
      | cons x t =>
        have h3 := h.1
        simp at h3 hn
    · injection hv with h5 _ _
      exact ⟨g', 0, cur, _, h5, hh⟩
  tk := fun h => absurd rfl h
  td := fun h => absurd rfl h

theorem load_ents (gv g k s b : Nat) (hk : k ≤ 150) (hs : s ≤ 8) {B N gs gn cs cn : Nat} {rw : Value} {st nw : List UInt8} (A : Option Addr) (c : Nat) (w : World) (hrow : w.ownsRow b 77 8 (.slice A k c) k ((ents k s).flatMap enC)) (hz : k = 0 → A = none ∧ c = 0)
    (hv : ViewAt w gv g 1 ((200 : Nat) : Int) map0 map0) (hd : Dk w B N g gs gn rw (200 * 256) cs cn st nw [] true (-1)) :
    Calls Try.prog 56 #[.pointer (some ⟨gv, 0, none⟩), .slice A k c] w fun e w' => ∃ (a hh : Nat) (U : List Bool) (L : List (Nat × (NodeD × NdL))), e = .returned (.tuple #[.agg #[.int .i64 (a : Int), .int .i64 (hh : Int)], .int .i64 0]) ∧ Wrote w w' gv g 1 200 U map0 B gs gn (200 * 256) cs cn rw st nw [] L ∧
      ∀ nw', PgsOf 1 nw nw' L → TreeR nw' (200 * 256) a hh (ents k s) := by
  by_cases h0 : k = 0
  · subst h0
    obtain ⟨rfl, rfl⟩ := hz rfl
    refine (load_none gv g 1 200 map0 map0 length_map0 length_map0 okM_map0 (by decide) (by simp) w hv hd).mono ?_
    rintro e w' ⟨rfl, h⟩
    exact ⟨0, 0, map0, [], rfl, h, fun _ _ => .inl ⟨rfl, rfl⟩⟩
  · have hl := ents_len k s
    obtain ⟨Lr, nr, h', t1, t2, t3, t4, t5, t6, t7, t8, t9⟩ := load_plan (ents k s) (by omega) (by omega) (ents_rising hk hs) (ents_in hk hs)
    have hfst : ∀ x ∈ Lr ++ [(2 + Lr.length, nr)], x.1 < 2 + (Lr.length + 1) := fun x hx => by
      have h1 : x.1 ∈ (Lr ++ [(2 + Lr.length, nr)]).map Prod.fst := List.mem_map.2 ⟨x, hx, rfl⟩
      rw [List.map_append] at h1
      have h2 : x.1 ∈ List.range' 2 (Lr.length + 1) := by rw [← t4]; exact h1
      exact (List.mem_range'_1.1 h2).2
    refine (load_yes gv g 1 200 map0 map0 length_map0 length_map0 okM_map0 okM_map0 (by decide) (ents k s) A k c hl (by omega) (ents_rising hk hs) Lr nr (h' + 1) (2 + Lr.length) t1 t2 t3 (by rw [orK_self length_map0, t4]; exact picks_new 200 _ (by decide) (by omega)) (fun x hx => ⟨(t6 x hx).1, by have := hfst x hx; omega⟩) (by simp; omega) w (nodeT_row hl hrow) hv hd).mono ?_
    rintro e w' ⟨rfl, Lx, hLx, hw⟩
    refine ⟨2 + Lr.length, h' + 1, _, Lx, rfl, hw, fun nw' hp => ?_⟩
    have hrd : ∀ x ∈ Lr ++ [(2 + Lr.length, nr)], rdP nw' (200 * 256) x.1 x.2 := fun x hx => by
      have h1 := hx
      rw [← hLx] at h1
      obtain ⟨y, hy, rfl⟩ := List.mem_map.1 h1
      exact ⟨(t6 _ hx).1, (t6 _ hx).2, by have := hfst _ hx; omega, 1, by decide, hp.1 y hy⟩
    exact .inr ⟨h', nr, rfl, by omega, t9 _ (fun x hx => hrd x (by simp [hx])), hrd (2 + Lr.length, nr) (by simp), by omega, t7, t8⟩
theorem results_build {P : Program} {fn : Func} {p q r u : Tmp} {ty : TypeId} (h : fn.results = #[.tmp p, .cell q ty, .tmp r, .tmp u]) (tmps : Array Value) (w : World) (g : Nat) (t : TypeId) (cs : Array Value) (fr : Nat × Nat) (d : TypeDesc)
    (hp : tmps.getD q undef = .pointer (some ⟨g, 0, none⟩)) (hg : w.heap[g]? = some (.cells cs t fr))
    (hu : P.underlying ty = some d) (hd : (match d with | .struct _ | .array _ _ => true | _ => false) = true) (hi : (P.info? ty).map (·.size) = some cs.size) :
    (results fn tmps).run P w = .ok (.tuple #[tmps.getD p undef, .agg cs, tmps.getD r undef, tmps.getD u undef]) w := by
  have hp' : tmps[q]?.getD undef = .pointer (some ⟨g, 0, none⟩) := by simpa using hp
  simp [results, h, hp', asAddr, run_loadVar_row w g t ty cs fr d hg hu hd hi]

set_option maxRecDepth 100000 in
set_option maxHeartbeats 8000000 in
theorem build_any (k s : Nat) (hk : k ≤ 150) (hs : s ≤ 8) (w : World) :
    Calls Try.prog 24 #[.int .i64 (k : Int), .int .i64 (s : Int)] w fun e w' => ∃ (gv a hh : Nat) (A : Option Addr) (c : Nat), e = .returned (.tuple #[.pointer (some ⟨gv, 0, none⟩), .agg #[.int .i64 (a : Int), .int .i64 (hh : Int)], .slice A k c, .bool true]) ∧
      (∃ U g B N gs gn Ls cs cn rw st nw ws, ViewAt w' gv g 1 ((200 : Nat) : Int) U map0 ∧ Dk w' B N g gs gn rw Ls cs cn st nw ws true (-1) ∧ TreeR nw Ls a hh (ents k s)) ∧ w'.ownsRow w.heap.size 51 8 (.slice A k c) k ((ents k s).flatMap enC) ∧ Below w.heap.size w w' := by
  obtain ⟨C, hC⟩ : ∃ C, C = mapC ((200 : Nat) : Int) map0 := ⟨_, rfl⟩
  obtain ⟨T, hT⟩ : ∃ T, T = tab := ⟨_, rfl⟩
  have HC := Lib.hid hC
  have HBM : Hid (∀ W, Calls Try.prog 55 #[.int .i64 200] W fun e w' => e = .returned (.agg C) ∧ Below W.heap.size W w') := Lib.hid (fun W => by rw [hC]; exact new_bm 200 200 (by decide) W)
  have HCR : Hid (∀ W, Calls Try.prog 54 #[] W fun e w' => e = .returned (.agg T) ∧ Below W.heap.size W w') := Lib.hid (fun W => by rw [hT]; exact new_any W)
  have HOP : Hid (∀ (g : Nat) (B N gs gn Ls cs cn : Nat) (rw : Value) (st nw : List UInt8) (ws : List (Nat × List UInt8)) (W : World), Ls / 256 = 200 → Dk W B N g gs gn rw Ls cs cn st nw ws true (-1) → Calls Try.prog 53 #[.agg T, .pointer (some ⟨g, 0, none⟩), .int .u64 1, .agg C, .agg C] W fun e w' => ∃ gv, e = .returned (.tuple #[.pointer (some ⟨gv, 0, none⟩), .int .i64 0]) ∧ W.heap.size ≤ gv ∧ ViewAt w' gv g 1 ((200 : Nat) : Int) map0 map0 ∧ Below W.heap.size W w') := Lib.hid (fun g B N gs gn Ls cs cn rw st nw ws W h1 h2 => by
    rw [hT]
    exact topen_yes g 1 200 map0 map0 length_map0 length_map0 okM_map0 okM_map0 h1 C C hC hC W h2)
  have HS := Lib.hid hs
  have HKK := Lib.hid hk
  obtain ⟨ie, hie, hiez, hies, hieb⟩ := info_parts (infoEnt_from_any)
  obtain ⟨jf, hjf, hjz, hjs, hjb⟩ := info_parts (infoEnt)
  clear hT hC hs
  go_enter Try.func24, Try.ntmps24
  go_upto_region 1 with fail
  obtain ⟨w1, hw1⟩ : ∃ w1, w1 = w.alloc (.cells #[.int .i64 0, .int .i64 0] 63) := ⟨_, rfl⟩
  have G1 : Hid (w1.heap[w.heap.size]? = some (.cells #[.int .i64 0, .int .i64 0] 63 (0, 0))) := Lib.hid (by rw [hw1]; exact heap_alloc_new _ _)
  have B1 := Lib.hid (alloc_bel hw1)
  rw [← hw1]
  clear hw1
  go_upto_region 2 with (go_at_call 52; refine (new_ok 200 (by decide) (by decide) _).mono ?_; rintro e w2 ⟨g, gs, gn, cs, cn, rfl, hd, hb⟩; have D2 := Lib.hid hd; have B12 := Lib.hid hb; clear hd hb)
  have B2 : Hid (Below w.heap.size w w2) := Lib.hid (B1.out.trans (B12.out.mono B1.out.size))
  have N2 := Lib.hid (Below.refl w2.heap.size w2)
  go_upto_region 3 with (first
    | (go_at_call 54; refine (HCR.out _).mono ?_; rintro e w3 ⟨rfl, hb⟩; have N3 := Lib.hid hb; clear hb N2 HCR)
    | (have hq := N3; clear hq; go_at_call 55; refine (HBM.out _).mono ?_; rintro e w4 ⟨rfl, hb⟩; have N4 := Lib.hid (N3.out.trans (hb.mono N3.out.size)); clear hb N3)
    | (have hq := N4; clear hq; go_at_call 55; refine (HBM.out _).mono ?_; rintro e w5 ⟨rfl, hb⟩; have N5 := Lib.hid (N4.out.trans (hb.mono N4.out.size)); clear hb N4 HBM)
    | (have hq := N5; clear hq; go_at_call 53; refine (HOP.out g _ _ _ _ _ _ _ _ _ _ _ _ (by decide) (D2.out.below N5.out)).mono ?_; rintro e wo ⟨gv, rfl, hgv, hv, hb⟩; have GV := Lib.hid (Nat.le_trans (Nat.le_trans B2.out.size N5.out.size) hgv); have V6 := Lib.hid hv; have N6 := Lib.hid (N5.out.trans (hb.mono N5.out.size)); clear hb hv hgv N5 HOP))
  have BO : Hid (Below w.heap.size w wo) := Lib.hid (B2.out.trans (N6.out.mono B2.out.size))
  have D6 := Lib.hid (D2.out.below N6.out)
  go_upto_region 8 with fail
  have I0 : Hid (BuI w wo wo s 0 none 0 none 0) := Lib.hid { r1 := World.ownsRow_nil wo wo.heap.size 51 8, r2 := World.ownsRow_nil wo wo.heap.size 77 8, bel := Below.refl _ _, z := fun _ => ⟨rfl, rfl⟩ }
  go_loopw [12, 13, 14] (fun lv xv iv wr => ∃ (i : Nat) (A1 : Option Addr) (c1 : Nat) (A2 : Option Addr) (c2 : Nat), i ≤ k ∧ lv = .slice A1 i c1 ∧ xv = .slice A2 i c2 ∧ iv = .int .i64 (i : Int) ∧ Hid (BuI w wo wr s i A1 c1 A2 c2)) (fun _ _ iv _ => k - (intOf iv).toNat)
  case atStart => exact ⟨0, none, 0, none, 0, Nat.zero_le _, rfl, rfl, rfl, I0⟩
  case round =>
    obtain ⟨i, A1, c1, A2, c2, hi, rfl, rfl, rfl, HI⟩ := hrel
    obtain ⟨W0, rfl⟩ : ∃ W0, W0 = wr := ⟨_, rfl⟩
    by_cases hlt : i < k
    · obtain ⟨m, hm⟩ : ∃ m, m = i % 30 * (s + 1) := ⟨_, rfl⟩
      obtain ⟨q, hq⟩ : ∃ q, q = i % (s + 1) := ⟨_, rfl⟩
      have hm2 : m ≤ 261 := by rw [hm]; exact mul_small (Nat.mod_lt i (by decide)) HS.out
      have hq2 : q ≤ 8 := by have h1 := Nat.mod_lt i (by omega : 0 < s + 1); have h2 := HS.out; rw [hq]; omega
      have hi150 : i < 150 := by have := HKK.out; omega
      have w1m : wrap64 ((i : Int) % 30 * ((s : Int) + 1)) = (m : Int) := by
        have h1 : (i : Int) % 30 * ((s : Int) + 1) = (m : Int) := by rw [hm]; push_cast; rfl
        rw [h1]
        unfold wrap64
        omega
      have HM := Lib.hid hm
      have HQ := Lib.hid hq
      have HM2 := Lib.hid hm2
      have HQ2 := Lib.hid hq2
      clear hm hq hm2 hq2
      have hs := HS.out
      go_upto_region 11 with fail
      obtain ⟨gy, hgy⟩ : ∃ gy, gy = W0.heap.size := ⟨_, rfl⟩
      obtain ⟨W1, hW1⟩ : ∃ W1, W1 = W0.alloc (.cells #[.int .i64 ((i : Int) / 30), .int .i64 (m : Int), .int .i64 0, .int .i64 (2 + (i : Int)), .int .i64 1, .int .i64 1, .int .i64 0, .int .u32 0] 51) := ⟨_, rfl⟩
      have GY : Hid (W1.heap[gy]? = some (.cells #[.int .i64 ((i : Int) / 30), .int .i64 (m : Int), .int .i64 0, .int .i64 (2 + (i : Int)), .int .i64 1, .int .i64 1, .int .i64 0, .int .u32 0] 51 (0, 0))) := Lib.hid (by rw [hW1, hgy]; exact heap_alloc_new _ _)
      have B01 := Lib.hid (alloc_bel hW1)
      have S1 : Hid (W1.heap.size = gy + 1) := Lib.hid (by rw [hW1, hgy]; simp)
      have HGY := Lib.hid hgy
      rw [← hW1, ← hgy]
      clear hW1 hgy w1m hs
      obtain ⟨r, hr⟩ : ∃ r, r = m + q := ⟨_, rfl⟩
      have w2m : wrap64 ((m : Int) + (q : Int)) = (r : Int) := by have := HM2.out; have := HQ2.out; unfold wrap64; omega
      have HR := Lib.hid hr
      clear hr
      have g1 : ∀ y : SubW W1.heap.size W1, y.at_.cell? ⟨gy, 1, none⟩ = some (.int .i64 (m : Int)) := fun y => nd_cell (row_stays GY.out y.ok_) 1 _ rfl
      have hs1 : wrap64 ((s : Int) + 1) = ((s + 1 : Nat) : Int) := by have := HS.out; unfold wrap64; omega
      have hs2 : (((s + 1 : Nat) : Int) == 0) = false := by simp; omega
      have hs3 : (i : Int) % ((s + 1 : Nat) : Int) = (q : Int) := by rw [HQ.out]; rfl
      have hs4 : (i : Int).tmod ((s + 1 : Nat) : Int) = (q : Int) := by rw [HQ.out]; rfl
      have hs5 : (i : Int) % ((s : Int) + 1) = (q : Int) := by rw [HQ.out]; rfl
      refine region_below_tail 9 W1.heap.size W1 (Below.refl _ _) (by kernel_rfl) (by kernel_rfl) ?_
      simp only [List.take_succ_cons, List.take_zero, List.drop_succ_cons, List.drop_zero]
      repeat (go_big_quiet_step (fail))
      refine wpQuiet_nil ?_
      rintro w' ⟨y, rfl⟩
      have GYy := Lib.hid (row_stays GY.out y.ok_)
      have BY := Lib.hid y.ok_
      obtain ⟨V0, hV0⟩ : ∃ V0, V0 = y.at_ := ⟨_, rfl⟩
      rw [← hV0] at GYy BY ⊢
      clear hV0 g1
      have k1 := nd_cell GYy.out 2 (.int .i64 0) rfl
      have k2 : V0.frozen? ⟨gy, 2, none⟩ = false := nd_frozen GYy.out
      go_upto_region 12 with fail
      obtain ⟨x1, hx1⟩ : ∃ x1, x1 = V0.setCell ⟨gy, 2, none⟩ (.int .i64 (r : Int)) := ⟨_, rfl⟩
      have GX : Hid (x1.heap[gy]? = some (.cells #[.int .i64 ((i : Int) / 30), .int .i64 (m : Int), .int .i64 (r : Int), .int .i64 (2 + (i : Int)), .int .i64 1, .int .i64 1, .int .i64 0, .int .u32 0] 51 (0, 0))) := Lib.hid (by rw [hx1]; exact heap_setCell_same V0 gy 2 _ _ _ GYy.out)
      have B0x : Hid (Below W0.heap.size W0 x1) := Lib.hid (by rw [hx1]; exact bel_cell (B01.out.trans (BY.out.mono B01.out.size)) (by rw [HGY.out]; exact Nat.le_refl _))
      rw [← hx1]
      clear hx1 k1 k2 GYy BY GY S1 B01 w2m hs1 hs2 hs3 hs4 hs5
      have R1 := Lib.hid (row_below HI.out.r1 B0x.out)
      have R2 := Lib.hid (row_below HI.out.r2 B0x.out)
      have L1 : Hid (∀ k, (Value.slice A1 i c1).ownBlock = some k → wo.heap.size ≤ k ∧ k < gy) := Lib.hid (fun k hk => by rw [HGY.out]; exact World.ownsRow.lt HI.out.r1 k hk)
      have L2 : Hid (∀ k, (Value.slice A2 i c2).ownBlock = some k → wo.heap.size ≤ k ∧ k < gy) := Lib.hid (fun k hk => by rw [HGY.out]; exact World.ownsRow.lt HI.out.r2 k hk)
      have BX : Hid (Below wo.heap.size wo x1) := Lib.hid (HI.out.bel.trans (B0x.out.mono HI.out.bel.size))
      obtain ⟨X, hX⟩ : ∃ X : Nat → Prop, X = fun k => (Value.slice A1 i c1).ownBlock = some k ∨ (Value.slice A2 i c2).ownBlock = some k := ⟨_, rfl⟩
      have HXX := Lib.hid hX
      have nX : ¬ X gy := by
        rw [hX]
        rintro (e | e)
        · exact Nat.lt_irrefl _ (L1.out _ e).2
        · exact Nat.lt_irrefl _ (L2.out _ e).2
      have hce : enC (entI s i) = [.int .i64 ((i : Int) / 30), .int .i64 (m : Int), .int .i64 (r : Int), .int .i64 (2 + (i : Int)), .int .i64 1, .int .i64 1, .int .i64 0, .int .u32 0] := by
        rw [entC, ← HM.out, ← HQ.out, ← HR.out]
        rfl
      have HCE := Lib.hid hce
      have HEN : Hid (∀ W, Calls Try.prog 36 #[.agg #[.int .i64 ((i : Int) / 30), .int .i64 (m : Int), .int .i64 (r : Int), .int .i64 (2 + (i : Int)), .int .i64 1, .int .i64 1, .int .i64 0, .int .u32 0]] W fun e' w' => e' = .returned (.agg #[.int .i64 ((i : Int) / 30), .int .i64 (m : Int), .int .i64 (r : Int), .int .i64 (2 + (i : Int)), .int .i64 1, .int .i64 1, .int .i64 0, .int .u32 0]) ∧ Below W.heap.size W w') := Lib.hid (fun W => entry_any ⟨(i : Int) / 30, (m : Int), (r : Int), 2 + (i : Int), 1, 1, 0, 0⟩ W)
      have hf1 : Hid (Instr.fill (fun i => some (i * ie.size, ie.size)) ((Array.range (1 * ie.size)).map ((Value.agg #[.int .i64 0, .int .i64 0, .int .i64 0, .int .i64 0, .int .i64 0, .int .i64 0, .int .i64 0, .int .u32 0]).cells[· % (Value.agg #[.int .i64 0, .int .i64 0, .int .i64 0, .int .i64 0, .int .i64 0, .int .i64 0, .int .i64 0, .int .u32 0]).cells.size]!)) [(0, .agg #[.int .i64 ((i : Int) / 30), .int .i64 (m : Int), .int .i64 (r : Int), .int .i64 (2 + (i : Int)), .int .i64 1, .int .i64 1, .int .i64 0, .int .u32 0])] = some #[.int .i64 ((i : Int) / 30), .int .i64 (m : Int), .int .i64 (r : Int), .int .i64 (2 + (i : Int)), .int .i64 1, .int .i64 1, .int .i64 0, .int .u32 0]) := Lib.hid (by rw [hies]; exact fill_eight _ _ rfl (by simp))
      have hf2 : Hid (Instr.fill (fun i => some (i * jf.size, jf.size)) ((Array.range (1 * jf.size)).map ((Value.agg #[.int .i64 0, .int .i64 0, .int .i64 0, .int .i64 0, .int .i64 0, .int .i64 0, .int .i64 0, .int .u32 0]).cells[· % (Value.agg #[.int .i64 0, .int .i64 0, .int .i64 0, .int .i64 0, .int .i64 0, .int .i64 0, .int .i64 0, .int .u32 0]).cells.size]!)) [(0, .agg #[.int .i64 ((i : Int) / 30), .int .i64 (m : Int), .int .i64 (r : Int), .int .i64 (2 + (i : Int)), .int .i64 1, .int .i64 1, .int .i64 0, .int .u32 0])] = some #[.int .i64 ((i : Int) / 30), .int .i64 (m : Int), .int .i64 (r : Int), .int .i64 (2 + (i : Int)), .int .i64 1, .int .i64 1, .int .i64 0, .int .u32 0]) := Lib.hid (by rw [hjs]; exact fill_eight _ _ rfl (by simp))
      have g1 : ∀ y : SubX X x1, y.at_.heap[gy]? = some (.cells #[.int .i64 ((i : Int) / 30), .int .i64 (m : Int), .int .i64 (r : Int), .int .i64 (2 + (i : Int)), .int .i64 1, .int .i64 1, .int .i64 0, .int .u32 0] 51 (0, 0)) := fun y => y.ok_.heap GX.out nX
      clear hX nX hce
      refine region_waysX 9 X (.one [0, 1, 4, 5] 2 (.one [] 3 (.one [] 6 (.one [] 7 (.one [] 8 (.done [])))))) (by kernel_rfl) (by kernel_rfl) ?_
      rintro wd hbd
      have BD := Lib.hid hbd
      clear hbd
      rw [wpWaysT_one]
      try simp only [List.map_cons, List.map_nil, opAt, List.getElem?_toArray, List.getElem?_cons_zero, List.getElem?_cons_succ, Option.getD_some]
      repeat (first
        | (go_big_quiet_want; refine quietX_load_row 51 (.tmp 15) rfl gy rfl 51 _ (0, 0) _ g1 Try.underlying51 rfl (by kernel_rfl) ?_; simp only [Act.put, List.setIfInBounds_toArray, List.set_cons_zero, List.set_cons_succ]; go_big_quiet_on)
        | go_big_quiet_step (fail))
      clear g1
      refine wpQuiet_nil ?_
      go_wp2_with (refine wpList_buildSlice rfl 22 51 1 _ rfl #[.int .i64 ((i : Int) / 30), .int .i64 (m : Int), .int .i64 (r : Int), .int .i64 (2 + (i : Int)), .int .i64 1, .int .i64 1, .int .i64 0, .int .u32 0] ie _ Try.underlying22 hie hiez (by rw [hies]; decide) (by rw [hies]; decide) (by rw [Array.toList_map]; exact hf1.out) ?_)
      obtain ⟨u1, hu1⟩ : ∃ u1, u1 = wd.alloc (.cells #[.int .i64 ((i : Int) / 30), .int .i64 (m : Int), .int .i64 (r : Int), .int .i64 (2 + (i : Int)), .int .i64 1, .int .i64 1, .int .i64 0, .int .u32 0] 51) := ⟨_, rfl⟩
      rw [← hu1]
      have BU1 := Lib.hid (BD.out.trans ((alloc_bel hu1).mono BD.out.size))
      have CU1 : Hid (CellsAt u1 (some ⟨wd.heap.size, 0, none⟩) (enC (entI s i))) := Lib.hid (by rw [hu1, HCE.out]; exact cellsAt_new wd [.int .i64 ((i : Int) / 30), .int .i64 (m : Int), .int .i64 (r : Int), .int .i64 (2 + (i : Int)), .int .i64 1, .int .i64 1, .int .i64 0, .int .u32 0] _)
      have RU1 := Lib.hid (row_below R1.out BU1.out)
      clear hu1
      refine ⟨⟨⟨_, outerX_of_below BU1.out⟩, rfl⟩, ?_⟩
      try simp only [Act.put, List.setIfInBounds_toArray, List.set_cons_zero, List.set_cons_succ]
      rw [wpWaysT_one]
      try simp only [List.map_cons, List.map_nil, opAt, List.getElem?_toArray, List.getElem?_cons_zero, List.getElem?_cons_succ, Option.getD_some]
      refine wpQuiet_nil ?_
      go_wp2_with (at_builtin; refine wpList_append_row rfl (.tmp 66) (.tmp 68) 22 rfl Try.underlying22 (Value.agg #[.int .i64 0, .int .i64 0, .int .i64 0, .int .i64 0, .int .i64 0, .int .i64 0, .int .i64 0, .int .u32 0]) 64 infoEnt_from_any (by rfl) (by decide) _ rfl RU1.out (some ⟨wd.heap.size, 0, none⟩) 1 1 rfl rfl CU1.out (enC_one _) (by have := hi150; omega) (by have := hi150; unfold maxLen; omega) (by have := BX.out.size; have := BU1.out.size; omega) (i + 1) rfl ((ents (i + 1) s).flatMap enC) (ents_flat i s).symm ?_; intro A3 c3 u2 R3 g3; have O2 : Hid (OuterX X x1 u2) := Lib.hid ((outerX_of_below BU1.out).grown g3 (fun k hk => .inl (by rw [HXX.out]; exact .inl hk))); have K2 : Hid (KeptNot 51 u1 u2) := Lib.hid (KeptNot.of_row RU1.out g3); have NX2 : Hid (Below wo.heap.size u1 u2) := Lib.hid (grown_new RU1.out (Nat.le_refl _) (by have := BX.out.size; have := BU1.out.size; omega) g3); have RX := Lib.hid R3; clear R3 g3)
      have RV2 : Hid (u2.ownsRow wo.heap.size 77 8 (.slice A2 i c2) i ((ents i s).flatMap enC)) := Lib.hid (K2.out.row (row_below R2.out BU1.out) (by decide))
      have BW2 : Hid (Below wo.heap.size wo u2) := Lib.hid ((BX.out.trans (BU1.out.mono BX.out.size)).trans NX2.out)
      refine ⟨⟨⟨_, O2.out⟩, rfl⟩, ?_⟩
      try simp only [Act.put, List.setIfInBounds_toArray, List.set_cons_zero, List.set_cons_succ]
      rw [wpWaysT_one]
      try simp only [List.map_cons, List.map_nil, opAt, List.getElem?_toArray, List.getElem?_cons_zero, List.getElem?_cons_succ, Option.getD_some]
      refine wpQuiet_nil ?_
      go_wp2_with (go_at_call 36; refine (HEN.out _).mono ?_; rintro e u3 ⟨rfl, hb⟩; have BU3 := Lib.hid hb; clear hb)
      have O3 : Hid (OuterX X x1 u3) := Lib.hid (O2.out.then BU3.out O2.out.size)
      refine ⟨⟨⟨_, O3.out⟩, rfl⟩, ?_⟩
      try simp only [Act.put, List.setIfInBounds_toArray, List.set_cons_zero, List.set_cons_succ]
      rw [wpWaysT_one]
      try simp only [List.map_cons, List.map_nil, opAt, List.getElem?_toArray, List.getElem?_cons_zero, List.getElem?_cons_succ, Option.getD_some]
      refine wpQuiet_nil ?_
      go_wp2_with (refine wpList_buildSlice rfl 31 77 1 _ rfl #[.int .i64 ((i : Int) / 30), .int .i64 (m : Int), .int .i64 (r : Int), .int .i64 (2 + (i : Int)), .int .i64 1, .int .i64 1, .int .i64 0, .int .u32 0] jf _ Try.underlying31 hjf hjz (by rw [hjs]; decide) (by rw [hjs]; decide) (by rw [Array.toList_map]; exact hf2.out) ?_)
      obtain ⟨u4, hu4⟩ : ∃ u4, u4 = u3.alloc (.cells #[.int .i64 ((i : Int) / 30), .int .i64 (m : Int), .int .i64 (r : Int), .int .i64 (2 + (i : Int)), .int .i64 1, .int .i64 1, .int .i64 0, .int .u32 0] 77) := ⟨_, rfl⟩
      rw [← hu4]
      have BU4 : Hid (Below u2.heap.size u2 u4) := Lib.hid (BU3.out.trans ((alloc_bel hu4).mono BU3.out.size))
      have CU4 : Hid (CellsAt u4 (some ⟨u3.heap.size, 0, none⟩) (enC (entI s i))) := Lib.hid (by rw [hu4, HCE.out]; exact cellsAt_new u3 [.int .i64 ((i : Int) / 30), .int .i64 (m : Int), .int .i64 (r : Int), .int .i64 (2 + (i : Int)), .int .i64 1, .int .i64 1, .int .i64 0, .int .u32 0] _)
      have RU4 := Lib.hid (row_below RV2.out BU4.out)
      have RW4 := Lib.hid (row_below RX.out BU4.out)
      have BW4 : Hid (Below wo.heap.size wo u4) := Lib.hid (BW2.out.trans (BU4.out.mono BW2.out.size))
      have O4 : Hid (OuterX X x1 u4) := Lib.hid (O2.out.then BU4.out O2.out.size)
      clear hu4
      refine ⟨⟨⟨_, O4.out⟩, rfl⟩, ?_⟩
      try simp only [Act.put, List.setIfInBounds_toArray, List.set_cons_zero, List.set_cons_succ]
      rw [wpWaysT_one]
      try simp only [List.map_cons, List.map_nil, opAt, List.getElem?_toArray, List.getElem?_cons_zero, List.getElem?_cons_succ, Option.getD_some]
      refine wpQuiet_nil ?_
      go_wp2_with (at_builtin; refine wpList_append_row rfl (.tmp 70) (.tmp 73) 31 rfl Try.underlying31 (Value.agg #[.int .i64 0, .int .i64 0, .int .i64 0, .int .i64 0, .int .i64 0, .int .i64 0, .int .i64 0, .int .u32 0]) 64 infoEnt (by rfl) (by decide) _ rfl RU4.out (some ⟨u3.heap.size, 0, none⟩) 1 1 rfl rfl CU4.out (enC_one _) (by have := hi150; omega) (by have := hi150; unfold maxLen; omega) (by have := BW4.out.size; omega) (i + 1) rfl ((ents (i + 1) s).flatMap enC) (ents_flat i s).symm ?_; intro A5 c5 u5 R5 g5; have O5 : Hid (OuterX X x1 u5) := Lib.hid (O4.out.grown g5 (fun k hk => .inl (by rw [HXX.out]; exact .inr hk))); have K5 : Hid (KeptNot 77 u4 u5) := Lib.hid (KeptNot.of_row RU4.out g5); have NX5 : Hid (Below wo.heap.size u4 u5) := Lib.hid (grown_new RU4.out (Nat.le_refl _) (by have := BW4.out.size; omega) g5); have RY := Lib.hid R5; clear R5 g5)
      refine ⟨⟨⟨_, O5.out⟩, rfl⟩, ?_⟩
      try simp only [Act.put, List.setIfInBounds_toArray, List.set_cons_zero, List.set_cons_succ]
      rw [wpWaysT_done]
      simp only [List.map_nil, List.drop_succ_cons, List.drop_zero]
      refine wpQuiet_nil ?_
      have HEND : Hid (BuI w wo u5 s (i + 1) A3 c3 A5 c5) := Lib.hid { r1 := K5.out.row RW4.out (by decide), r2 := RY.out, bel := BW4.out.trans NX5.out, z := fun h => by omega }
      go_wp2_with fail
      go_roundw
      case rel => exact ⟨i + 1, A3, c3, A5, c5, by omega, rfl, rfl, by go_num, HEND⟩
      case measure => first | (simp [intOf]; done) | (simp [intOf]; omega)
    · obtain rfl : i = k := by omega
      have hdk : decide ((i : Int) < (i : Int)) = false := by simp
      have BW0 : Hid (Below wo.heap.size wo W0) := Lib.hid HI.out.bel
      have R1 := Lib.hid HI.out.r1
      have HLD := Lib.hid (load_ents gv g i s wo.heap.size hk HS.out A2 c2 W0 HI.out.r2 HI.out.z (V6.out.below BW0.out) (D6.out.below BW0.out))
      have D0 := Lib.hid (D6.out.below BW0.out)
      have G0 : Hid (W0.heap[w.heap.size]? = some (.cells #[.int .i64 0, .int .i64 0] 63 (0, 0))) := Lib.hid (row_stays (row_stays (row_stays G1.out B12.out) N6.out) BW0.out)
      have BWW : Hid (Below w.heap.size w W0) := Lib.hid (BO.out.trans (BW0.out.mono BO.out.size))
      have HB1 : Hid (w.heap.size ≤ w1.heap.size) := Lib.hid B1.out.size
      clear hdk
      go_upto_region 14 with (go_at_call 56; refine HLD.out.mono ?_; rintro e w7 ⟨a, hh, U, L, rfl, hw, ht⟩; have W7 := Lib.hid (hw.pre BWW.out); have O7 := Lib.hid hw.out; have HT := Lib.hid ht; clear hw ht)
      have nx : ∀ (q : Nat) (cs : Array Value) (T : TypeId), W0.heap[q]? = some (.cells cs T (0, 0)) → T ≠ 143 → T ≠ 159 → T ≠ 5 → T ≠ 211 → w7.heap[q]? = W0.heap[q]? := fun q cs T hq h1 h2 h3 h4 => O7.out.block q (Array.getElem?_eq_some_iff.1 hq).1 (fun hx => by
        rcases hx with hx | hx
        · exact D0.out.notX hq h2 (.inl h3) h4 hx
        · have h5 := V6.out.below BW0.out
          unfold ViewAt at h5
          rw [hx, h5] at hq
          cases hq
          exact h1 rfl)
      have G7 := Lib.hid ((nx _ _ _ G0.out (by decide) (by decide) (by decide) (by decide)).trans G0.out)
      have R7 : Hid (w7.ownsRow wo.heap.size 51 8 (.slice A1 i c1) i ((ents i s).flatMap enC)) := Lib.hid (row_keep R1.out (fun q cur _ hc => nx _ _ _ hc (by decide) (by decide) (by decide) (by decide)))
      obtain ⟨w8, hw8⟩ : ∃ w8, w8 = w7.alloc (.cells #[.int .i64 (a : Int), .int .i64 (hh : Int)] 63) := ⟨_, rfl⟩
      have G16 : Hid (w8.heap[w7.heap.size]? = some (.cells #[.int .i64 (a : Int), .int .i64 (hh : Int)] 63 (0, 0))) := Lib.hid (by rw [hw8]; exact heap_alloc_new _ _)
      have B78 := Lib.hid (alloc_bel hw8)
      have G8 := Lib.hid (row_stays G7.out B78.out)
      rw [← hw8]
      clear hw8 nx
      have hne : w7.heap.size ≠ w.heap.size := by have := (Array.getElem?_eq_some_iff.1 G7.out).1; omega
      have g1 : ∀ y : SubX (fun q => q = w.heap.size) w8, y.at_.heap[w7.heap.size]? = some (.cells #[.int .i64 (a : Int), .int .i64 (hh : Int)] 63 (0, 0)) := fun y => y.ok_.heap G16.out hne
      refine region_waysX 8 (fun q => q = w.heap.size) (.one [0, 1, 2, 3, 4, 5] 6 (.done [7])) (by kernel_rfl) (by kernel_rfl) ?_
      rintro wd hbd
      have BD := Lib.hid hbd
      clear hbd
      rw [wpWaysT_one]
      try simp only [List.map_cons, List.map_nil, opAt, List.getElem?_toArray, List.getElem?_cons_zero, List.getElem?_cons_succ, Option.getD_some]
      repeat (first
        | (go_big_quiet_want; refine quietX_load_row 63 (.tmp 16) rfl w7.heap.size rfl 63 _ (0, 0) _ g1 Try.underlying63 rfl (by kernel_rfl) ?_; simp only [Act.put, List.setIfInBounds_toArray, List.set_cons_zero, List.set_cons_succ]; go_big_quiet_on)
        | go_big_quiet_step (fail))
      clear g1
      refine wpQuiet_nil ?_
      have GD := Lib.hid (row_stays G8.out BD.out)
      go_wp2_with (refine wpList_store_row rfl 63 (.tmp 5) (.tmp 82) rfl w.heap.size #[.int .i64 (a : Int), .int .i64 (hh : Int)] rfl rfl 63 _ GD.out (by kernel_rfl) rfl (by simp [Value.oneCell']) ?_)
      have OX : Hid (OuterX (fun q => q = w.heap.size) w8 (wd.setRow w.heap.size #[.int .i64 (a : Int), .int .i64 (hh : Int)])) := Lib.hid ((outerX_of_below BD.out).subTrans ⟨rfl, rfl, rfl, by simp, fun q _ hq => setRow_other _ _ _ _ hq⟩)
      refine ⟨⟨⟨_, OX.out⟩, rfl⟩, ?_⟩
      try simp only [Act.put, List.setIfInBounds_toArray, List.set_cons_zero, List.set_cons_succ]
      rw [wpWaysT_done]
      simp only [List.map_cons, List.map_nil, List.drop_succ_cons, List.drop_zero, opAt, List.getElem?_toArray, List.getElem?_cons_zero, List.getElem?_cons_succ, Option.getD_some]
      repeat (first
        | go_big_quiet_step (fail))
      refine wpQuiet_nil ?_
      have B7D : Hid (Below w7.heap.size w7 wd) := Lib.hid (B78.out.trans (BD.out.mono B78.out.size))
      have KF := Lib.hid (KeptNot.of_setRow GD.out #[.int .i64 (a : Int), .int .i64 (hh : Int)])
      have WF : Hid (Wrote w (wd.setRow w.heap.size #[.int .i64 (a : Int), .int .i64 (hh : Int)]) gv g 1 200 U map0 w1.heap.size gs gn (200 * 256) cs cn (.slice none 0 0) (List.replicate (200 * 256) 0) (List.replicate (200 * 256) 0) [] L) := Lib.hid (((W7.out.post (KeptNot.of_below (E := 63) B7D.out) (B7D.out.mono (by have := (Array.getElem?_eq_some_iff.1 G7.out).1; omega)) (by decide) (by decide) (by decide) (by decide)).post KF.out (below_setRow (Below.refl _ _) (Nat.le_refl _) _) (by decide) (by decide) (by decide) (by decide)))
      have RF := Lib.hid (KF.out.row (row_below R7.out B7D.out) (by decide))
      go_wp2_with fail
      refine bodyPost_ret (v := .tuple #[.pointer (some ⟨gv, 0, none⟩), .agg #[.int .i64 (a : Int), .int .i64 (hh : Int)], .slice A1 i c1, .bool true]) (results_build (p := 4) (q := 5) (r := 6) (u := 7) (ty := 63) rfl _ _ w.heap.size 63 _ (0, 0) _ rfl (setRow_heap _ _ _ _ _ _ GD.out) Try.underlying63 rfl (by kernel_rfl)) rfl ⟨gv, a, hh, A1, c1, rfl, ?_, row_mono RF.out BO.out.size, ?_⟩
      · obtain ⟨rw', ws', nw', d1, d2, d3, d4⟩ := WF.out.disk
        exact ⟨U, g, _, _, _, _, _, _, _, _, _, _, _, WF.out.view, d1, HT.out nw' d3⟩
      · have h1 := WF.out.out
        refine ⟨h1.os, h1.tape, h1.output, h1.size, fun q hq => h1.block q hq (fun hx => ?_)⟩
        have hb1 := HB1.out
        have hgB := D2.out.gB
        have hnB := (OwnB.parts D2.out.now).1
        rcases hx with (hx | hx | hx) | hx
        · omega
        · omega
        · cases hx
        · have := GV.out
          omega
end Go.Proofs.Ytgkddhncfaeidaa
