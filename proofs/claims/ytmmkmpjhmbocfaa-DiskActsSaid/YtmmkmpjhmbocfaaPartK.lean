/- Several texts in one: DiskActs: the walk (under way). DiskActs: the walk, whatever the number of pages. -/
import Derived.Test.YtmmkmpjhmbocfaaPartH
import Derived.Test.YtmmkmpjhmbocfaaRdL
import Derived.Test.YtmmkmpjhmbocfaaWays4
import Derived.Test.YtmmkmpjhmbocfaaDiskLoads
import Derived.Deep.CutBlock
namespace Go.Proofs.Ytmmkmpjhmbocfaa
open Go.ChangeShapes Go.WideShapes Go.ChangeAt Go.RowKit Go.Deep
set_option linter.unusedVariables false
section
variable (w : World)
theorem modD (a : Int) : ∃ k : Nat, k < 8 ∧ wrap64 ((IntKind.u64.wrap a).tmod 8) = (k : Int) := by
  have h1 : 0 ≤ IntKind.u64.wrap a := by rw [IntKind.wrap_u64]; omega
  rw [Int.tmod_eq_emod_of_nonneg h1]
  rw [IntWalk.wrap64_in (IntKind.u64.wrap a % 8) ⟨by omega, by omega⟩]
  exact ⟨(IntKind.u64.wrap a % 8).toNat, by omega, by omega⟩
set_option maxRecDepth 100000
set_option maxHeartbeats 40000000 in
theorem acts_ok (p : Nat) (hp8 : 8 ≤ p) (hp5 : p ≤ 512) (A : Option Addr) (rl rc : Nat) (rs : List DA) (hl : rs.length = rl) (hlm : rl ≤ maxLen) (hrs : DActsAt w A rs) :
    Calls Try.prog 3 #[.int .i64 (p : Int), .slice A rl rc] w fun e w' => e = .returned (.bool true) ∧ Below w.heap.size w w' := by
  have hc1 : decide ((p : Int) < (8 : Int)) = false := by simp; omega
  have hc2 : decide ((512 : Int) < (p : Int)) = false := by simp; omega
  obtain ⟨n, hn⟩ : ∃ n, n = 4 * p := ⟨_, rfl⟩
  have HN := Lib.hid hn
  have HRS := Lib.hid hrs
  have HL := Lib.hid hl
  clear hrs hl hn
  go_enter Try.func3, Try.ntmps3
  go_upto_region 6 with (first
    | (go_at_call 9; (refine (nil_none _).mono ?_); rintro e w1 ⟨rfl, rfl⟩)
    | (go_at_call 10; (refine (nil_fail _ _).mono ?_); rintro e w1 ⟨rfl, rfl⟩)
    | (go_at_call 11; (refine (nil_crash _).mono ?_); rintro e w1 ⟨rfl, rfl⟩)
    | (go_at_call 12; (refine (nil_read _ _).mono ?_); rintro e w1 ⟨rfl, rfl⟩)
    | (go_at_call 13; (refine (tears_any _).mono ?_); rintro e w1 ⟨rfl, hb1⟩)
    | (go_at_call 14; (refine (nil_write _ _ _).mono ?_); rintro e w2 ⟨rfl, rfl⟩)
    | (go_at_call 15; (refine (nil_flush _).mono ?_); rintro e w2 ⟨rfl, rfl⟩)
    | (go_at_call 16; (refine (nil_on _).mono ?_); rintro e w2 ⟨rfl, rfl⟩)
    | (go_at_call 17; (refine (nil_pages _).mono ?_); rintro e w2 ⟨rfl, rfl⟩)
    | (go_at_call 18; (refine (nil_waiting _).mono ?_); rintro e w2 ⟨rfl, rfl⟩)
    | (go_at_call 19; (refine (nil_image _).mono ?_); rintro e w2 ⟨rfl, rfl⟩))
  go_upto_region 7 with (go_at_call 20; (refine (new_ok p hp8 hp5 _).mono ?_); rintro e w3 ⟨g, gs, gn, cs, cn, rfl, d3, hb3⟩; have D3 := Lib.hid d3; clear d3)
  go_upto_region 10 with (go_at_call 21; (refine (rnew_ok p n hp8 hp5 HN.out _).mono ?_); rintro e w4 ⟨⟨r, sv, vs, rfl, hr4, d4⟩, hb4⟩)
  have hDi : Hid (Di w1 w4 w2.heap.size w3.heap.size g gs gn r n [] (List.replicate (64 * n) 0) (List.replicate (64 * n) 0) true (-1)) :=
    Lib.hid (Di.start D3.out HN.out (Nat.le_refl _) hb4 (hb1.trans ((hb3.trans (hb4.mono hb3.size)).mono hb1.size)) hb1.size hb4.size d4)
  clear d4 D3 hc1 hc2 hr4
  obtain ⟨B, eB⟩ : ∃ B, B = w2.heap.size := ⟨_, rfl⟩
  obtain ⟨N0, eN⟩ : ∃ N, N = w3.heap.size := ⟨_, rfl⟩
  rw [← eB, ← eN] at hDi
  clear eB eN hb1 hb3 hb4
  go_wp2_with fail
  go_loopw [10] (fun i wr => ∃ (k : Nat) (ws : List (Nat × List UInt8)) (st nw : List UInt8) (on : Bool) (left : Int), k ≤ rl ∧ k ≤ 50 ∧ i = .int .i64 k ∧ Hid (ws.length ≤ k) ∧ Hid (Di w1 wr B N0 g gs gn r n ws st nw on left)) (fun i _ => 50 - (intOf i).toNat)
  case atStart => exact ⟨0, [], _, _, true, -1, by omega, by omega, rfl, Lib.hid (Nat.le_refl _), hDi⟩
  case round =>
    obtain ⟨k, ws, st, nw, on, left, hkl, hk5, rfl, HWS, HD⟩ := hrel
    clear hDi
    by_cases hlt : k < rl ∧ k < 50
    · obtain ⟨hlt1, hlt2⟩ := hlt
      obtain ⟨bz, off, rfl, hcell⟩ := HRS.out.2 (by intro e; have := HL.out; subst e; simp at this; omega)
      obtain ⟨ck0, ck1, ck2, ck3, ck4⟩ := hcell k (by rw [HL.out]; exact hlt1)
      rw [addr_add'] at ck0 ck1 ck2 ck3 ck4
      have c0 := (HD.out.bel.cell (p := ⟨bz, off + k * 5, none⟩) (World.block_lt_of_cell? _ _ ck0)).trans ck0
      have c1 := (HD.out.bel.cell (p := ⟨bz, off + (k * 5 + 1), none⟩) (World.block_lt_of_cell? _ _ ck1)).trans ck1
      have c2 := (HD.out.bel.cell (p := ⟨bz, off + (k * 5 + 2), none⟩) (World.block_lt_of_cell? _ _ ck2)).trans ck2
      have c3 := (HD.out.bel.cell (p := ⟨bz, off + (k * 5 + 3), none⟩) (World.block_lt_of_cell? _ _ ck3)).trans ck3
      have c4 := (HD.out.bel.cell (p := ⟨bz, off + (k * 5 + 4), none⟩) (World.block_lt_of_cell? _ _ ck4)).trans ck4
      have hok : (rs[k]'(by rw [HL.out]; exact hlt1)).ok w1 := HRS.out.1 _ (List.getElem_mem _)
      obtain ⟨q, hq⟩ : ∃ q, q = rs[k]'(by rw [HL.out]; exact hlt1) := ⟨_, rfl⟩
      rw [← hq] at c0 c1 c2 c3 c4 hok
      have HOK := Lib.hid hok
      clear hcell ck0 ck1 ck2 ck3 ck4 hq hok
      simp only [← Nat.add_assoc] at c1 c2 c3 c4
      go_upto_region 14 with fail
      obtain ⟨g10, e10⟩ : ∃ x, x = wr.heap.size := ⟨_, rfl⟩
      obtain ⟨W10, eW10⟩ : ∃ W, W = wr.alloc (.cells #[.int .i64 q.wh, .int .i64 q.ix, .slice q.BA q.bl q.bc, .slice q.KA q.kl q.kc, .slice q.TA q.tl q.tc] 42) := ⟨_, rfl⟩
      have HD10 : Hid (Di w1 W10 B N0 g gs gn r n ws st nw on left) := Lib.hid (by rw [eW10]; exact HD.out.below ((Below.refl _ _).alloc (Nat.le_refl _) _))
      have h10 : W10.heap[g10]? = some (.cells #[.int .i64 q.wh, .int .i64 q.ix, .slice q.BA q.bl q.bc, .slice q.KA q.kl q.kc, .slice q.TA q.tl q.tc] 42 (0, 0)) := by rw [eW10, e10]; exact heap_alloc_new _ _
      have HN10 : Hid (N0 ≤ g10) := Lib.hid (by rw [e10]; exact HD.out.N0l)
      rw [← e10, ← eW10]
      have HG10 := Lib.hid h10
      have b0 := blk_cell h10 0 (.int .i64 q.wh) rfl
      clear e10 eW10 c0 c1 c2 c3 c4 h10 HD
      obtain ⟨K, hK8, hKe⟩ := modD q.wh
      have HKE : Hid (wrap64 ((IntKind.u64.wrap q.wh).tmod 8) = (K : Int)) := Lib.hid hKe
      clear hKe
      go_upto_block 2 with fail
      rw [HKE.out]
      clear b0 HKE
      go_cut [] from 88 to 245 (fun wx => ∃ (ws1 : List (Nat × List UInt8)) (st1 nw1 : List UInt8) (on1 : Bool) (left1 : Int), Hid (ws1.length ≤ k + 1) ∧ Hid (Di w1 wx B N0 g gs gn r n ws1 st1 nw1 on1 left1))
      case first =>
        have hk : K = 0 ∨ (1 ≤ K ∧ K ≤ 4) ∨ K = 5 ∨ K = 6 ∨ K = 7 := by omega
        rcases hk with hk | hk | hk | hk | hk
        · as_aux_lemma =>
          rw [show (K : Int) = 0 by omega]
          obtain ⟨er, m, xs, hxm, hrd⟩ := HD10.out.read (by have := HWS.out; omega) q.ix
          have HRD := Lib.hid hrd
          have HXM := Lib.hid hxm
          have b1 := blk_cell HG10.out 1 (.int .i64 q.ix) rfl
          clear hrd hxm
          go_upto_region 17 with (go_at_call 12; (refine (HRD.out).mono ?_); rintro e w11 ⟨A1, cA1, rfl, hx1, hb11, hr2⟩; have HR2 := Lib.hid hr2; have HX1 := Lib.hid hx1; clear hr2 hx1)
          have b2 : w11.cell? ⟨g10, 1, none⟩ = some (.int .i64 q.ix) := (hb11.cell (World.block_lt_of_cell? _ _ b1)).trans b1
          go_upto_region 18 with (go_at_call 22; (refine (HR2.out).mono ?_); rintro e w12 ⟨A2, cA2, rfl, hx2, rfl⟩; have HX2 := Lib.hid hx2; clear hx2)
          have t1 := text_dk A1 m cA1 xs HXM.out HX1.out
          have t2 := text_dk A2 m cA2 xs HXM.out HX2.out
          go_wp2_with fail
          go_meet
          exact ⟨ws, st, nw, on, left, Lib.hid (by have := HWS.out; omega), Lib.hid (HD10.out.below hb11)⟩
        · obtain ⟨hk1, hk4⟩ := hk
          have hk : K = 1 ∨ K = 2 ∨ K = 3 ∨ K = 4 := by omega
          clear hk1 hk4
          have hb0 := HD10.out.bel.size
          have b1 := blk_cell HG10.out 1 (.int .i64 q.ix) rfl
          have b2 := blk_cell HG10.out 2 (.slice q.BA q.bl q.bc) rfl
          have HL10 : Hid (g10 < W10.heap.size) := Lib.hid (World.block_lt_of_cell? _ _ b2)
          obtain ⟨bm, hbm⟩ : ∃ m, m = 64 - q.bl := ⟨_, rfl⟩
          have HBM := Lib.hid hbm
          clear hbm
          by_cases hbl : q.bl ≤ 64
          · have e1 : min (q.bl : Int) 64 = (q.bl : Int) := by omega
            have e2 : wrap64 ((64 : Int) - (q.bl : Int)) = (bm : Int) := by rw [IntWalk.wrap64_in _ ⟨by omega, by omega⟩]; have := HBM.out; omega
            have HM0 : Hid (max ((64 : Int) - (q.bl : Int)) 0 = (bm : Int)) := Lib.hid (by have := HBM.out; omega)
            have e4 : decide ((64 : Int) < (q.bl : Int)) = false := by simp; omega
            have HS := fun W => slice_upto 27 (by kernel_rfl) (by kernel_rfl) q.BA q.bl q.bc q.bl HOK.out.cb W
            obtain ⟨zs, hzs⟩ : ∃ zs, q.bs ++ List.replicate bm 0 = zs := ⟨_, rfl⟩
            have hzl : zs.length = 64 := by rw [← hzs]; simp; have := HBM.out; have := HOK.out.lb; omega
            have HZS := Lib.hid hzs
            have HZL := Lib.hid hzl
            have HBL := Lib.hid hbl
            clear hzs hzl hbl
            obtain ⟨z, hz, hz4⟩ : ∃ z : Int, (K : Int) = z ∧ (z = 1 ∨ z = 2 ∨ z = 3 ∨ z = 4) := ⟨_, rfl, by omega⟩
            rw [hz]
            clear hz hk
            rcases hz4 with rfl | rfl | rfl | rfl
            all_goals as_aux_lemma =>
              go_upto_region 24 with fail
              have G2 : ∀ y : SubW W10.heap.size W10, y.at_.cell? ⟨g10, 2, none⟩ = some (.slice q.BA q.bl q.bc) := fun y => (y.ok_.cell HL10.out).trans b2
              refine region_ways4 W10.heap.size (Nat.le_refl _) (.one [1, 2, 3, 4, 5, 6, 7, 9, 10, 11, 12, 13] 0 (.one [] 8 (.one [] 14 (.done [15])))) (by kernel_rfl) (by kernel_rfl) ?_
              rintro wd hbd
              rw [wpWays_one4]
              try simp only [List.map_cons, List.map_nil, opAt, List.getElem?_toArray, List.getElem?_cons_zero, List.getElem?_cons_succ, Option.getD_some]
              repeat (go_big_quiet_step (fail))
              refine wpQuiet_nil ?_
              go_wp2_with fail
              have B1 : Hid (Below W10.heap.size W10 (wd.alloc (.cells #[] 5))) := Lib.hid (hbd.alloc hbd.size _)
              have os1 : OwnS (wd.alloc (.cells #[] 5)) W10.heap.size (.slice (some ⟨wd.heap.size, 0, none⟩) 0 0) 5 [] := OwnS.new wd 5 [] W10.heap.size hbd.size (by unfold maxLen; simp)
              have bn1 := B1.out.mono hb0
              have hx1 := bytes_below (HD10.out.bel.trans bn1) (Nat.le_refl _) HOK.out.xb
              refine ⟨⟨⟨_, B1.out⟩, rfl⟩, ?_⟩
              try simp only [Act.put, List.setIfInBounds_toArray, List.set_cons_zero, List.set_cons_succ]
              rw [wpWays_one4]
              try simp only [List.map_nil, opAt, List.getElem?_toArray, List.getElem?_cons_zero, List.getElem?_cons_succ, Option.getD_some]
              repeat (go_big_quiet_step (fail))
              refine wpQuiet_nil ?_
              go_wp2_with (at_builtin; refine wpList_append_z rfl (.tmp 138) (.tmp 145) 27 rfl Try.underlying27 infoU8 rfl os1 q.BA q.bc q.bl q.bs q.bs rfl HOK.out.lb hx1 rfl (by have := HBL.out; simp; omega) B1.out.size ?_; intro A8 c8 w8 ho8 hg8)
              have B2 : Hid (Below W10.heap.size W10 w8) := Lib.hid (B1.out.grown hg8 B1.out.size (fun k hk => (os1.block k hk).1))
              have bn2 := B2.out.mono hb0
              obtain ⟨A9, c9, w9, hr9, ho9, hg9⟩ := run_append_zs (P := Try.prog) 27 3 27 Try.underlying27 .i64 Try.underlying3 infoU8 ho8 bm HZS.out (by have := HBL.out; have := HOK.out.lb; have := HBM.out; omega) B2.out.size
              have B3 : Hid (Below W10.heap.size W10 w9) := Lib.hid (B2.out.grown hg9 B2.out.size (fun k hk => (ho8.block k hk).1))
              have bn3 := B3.out.mono hb0
              rw [HZL.out] at hr9 ho9
              have HO9 := Lib.hid ho9
              have HR9 := Lib.hid hr9
              clear ho9 hg9 ho8 hg8 hr9
              refine ⟨⟨⟨_, B2.out⟩, rfl⟩, ?_⟩
              try simp only [Act.put, List.setIfInBounds_toArray, List.set_cons_zero, List.set_cons_succ]
              rw [wpWays_one4]
              try simp only [List.map_nil, opAt, List.getElem?_toArray, List.getElem?_cons_zero, List.getElem?_cons_succ, Option.getD_some]
              refine wpQuiet_nil ?_
              go_wp2_with (at_builtin; refine Lib.wpList_append_run _ rfl (.tmp 146) (.tmp 151) 27 3 rfl _ (.int .i64 (bm : Int)) rfl (congrArg (Value.int .i64) HM0.out) _ _ HR9.out ?_)
              refine ⟨⟨⟨_, B3.out⟩, rfl⟩, ?_⟩
              try simp only [Act.put, List.setIfInBounds_toArray, List.set_cons_zero, List.set_cons_succ]
              rw [wpWays_done4]
              try simp only [List.map_cons, List.map_nil, opAt, List.getElem?_toArray, List.getElem?_cons_zero, List.getElem?_cons_succ, Option.getD_some]
              repeat (go_big_quiet_step (fail))
              refine wpQuiet_nil ?_
              have c1 : w9.cell? ⟨g10, 1, none⟩ = some (.int .i64 q.ix) := (B3.out.cell HL10.out).trans b1
              have c2 : w9.cell? ⟨g10, 2, none⟩ = some (.slice q.BA q.bl q.bc) := (B3.out.cell HL10.out).trans b2
              go_upto_region 27 with fail
              refine region_ways4 w1.heap.size (Nat.le_trans HD10.out.bel.size B3.out.size) (.two [0, 1, 3, 5, 6, 8] 2 (.two [] 4 (.one [] 7 (.one [] 9 (.done [10, 11]))) 7 (.one [] 4 (.one [] 9 (.done [10, 11])))) 7 (.one [] 2 (.one [] 4 (.one [] 9 (.done [10, 11]))))) (by kernel_rfl) (by kernel_rfl) ?_
              rintro wd hbd
              have bd0 : Hid (Below w1.heap.size w9 wd) := Lib.hid (hbd.mono (Nat.le_trans HD10.out.bel.size B3.out.size))
              have HGd : Hid (wd.heap[g10]? = some (.cells #[.int .i64 q.wh, .int .i64 q.ix, .slice q.BA q.bl q.bc, .slice q.KA q.kl q.kc, .slice q.TA q.tl q.tc] 42 (0, 0))) := Lib.hid ((hbd.block g10 (Nat.lt_of_lt_of_le HL10.out B3.out.size)).trans ((B3.out.block g10 HL10.out).trans HG10.out))
              have HDd : Hid (Di w1 wd B N0 g gs gn r n ws st nw on left) := Lib.hid ((HD10.out.below B3.out).below hbd)
              have hOd := HO9.out.below hbd
              obtain ⟨er, on1, left1, nw1, ws1, hw1, hwr⟩ := HDd.out.write (by have := HWS.out; omega) q.ix A9 64 c9 zs HZL.out hOd.bytes (fun _ a ha => own_at hOd ha (Nat.le_trans HD10.out.N0l (Nat.le_refl _)))
              have HWR := Lib.hid hwr
              have HW1 := Lib.hid hw1
              have x1 := blk_cell HGd.out 1 (.int .i64 q.ix) rfl
              clear hwr hw1 hbd c1 c2
              rw [wpWays_two4]
              try simp only [List.map_cons, List.map_nil, opAt, List.getElem?_toArray, List.getElem?_cons_zero, List.getElem?_cons_succ, Option.getD_some]
              repeat (go_big_quiet_step (fail))
              refine wpQuiet_nil ⟨?_, ?_⟩
              · go_wp2_with fail
                refine ⟨⟨⟨_, bd0.out⟩, rfl⟩, ?_⟩
                try simp only [Act.put, List.setIfInBounds_toArray, List.set_cons_zero, List.set_cons_succ]
                rw [wpWays_two4]
                try simp only [List.map_nil, opAt, List.getElem?_toArray, List.getElem?_cons_zero, List.getElem?_cons_succ, Option.getD_some]
                refine wpQuiet_nil ⟨?_, ?_⟩
                · go_wp2_with (go_at_call 14; (refine (HWR.out).mono ?_); rintro e w11 ⟨rfl, ha11, hb11, hr2⟩; have HR2 := Lib.hid hr2; have HA11 := Lib.hid ha11; have bd1 := Lib.hid (bd0.out.trans hb11); clear hr2 ha11 hb11)
                  have x2 : w11.cell? ⟨g10, 1, none⟩ = some (.int .i64 q.ix) := blk_cell ((HA11.out g10 _ HGd.out).trans HGd.out) 1 (.int .i64 q.ix) rfl
                  refine ⟨⟨⟨_, bd1.out⟩, rfl⟩, ?_⟩
                  try simp only [Act.put, List.setIfInBounds_toArray, List.set_cons_zero, List.set_cons_succ]
                  rw [wpWays_one4]
                  try simp only [List.map_nil, opAt, List.getElem?_toArray, List.getElem?_cons_zero, List.getElem?_cons_succ, Option.getD_some]
                  repeat (go_big_quiet_step (fail))
                  refine wpQuiet_nil ?_
                  go_wp2_with fail
                  refine ⟨⟨⟨_, bd1.out⟩, rfl⟩, ?_⟩
                  try simp only [Act.put, List.setIfInBounds_toArray, List.set_cons_zero, List.set_cons_succ]
                  rw [wpWays_one4]
                  try simp only [List.map_nil, opAt, List.getElem?_toArray, List.getElem?_cons_zero, List.getElem?_cons_succ, Option.getD_some]
                  repeat (go_big_quiet_step (fail))
                  refine wpQuiet_nil ?_
                  go_wp2_with (go_at_call 23; (refine (HR2.out).mono ?_); rintro e w12 ⟨rfl, hd12, hb12⟩; have HD12 := Lib.hid hd12; have bd2 := Lib.hid (bd0.out.trans hb12); clear hd12 hb12)
                  refine ⟨⟨⟨_, bd2.out⟩, rfl⟩, ?_⟩
                  try simp only [Act.put, List.setIfInBounds_toArray, List.set_cons_zero, List.set_cons_succ]
                  rw [wpWays_done4]
                  try simp only [List.map_cons, List.map_nil, opAt, List.getElem?_toArray, List.getElem?_cons_zero, List.getElem?_cons_succ, Option.getD_some]
                  repeat (go_big_quiet_step (fail))
                  refine wpQuiet_nil ?_
                  go_wp2_with fail
                  go_meet
                  exact ⟨ws1, st, nw1, on1, left1, Lib.hid (by have := HWS.out; have := HW1.out; omega), HD12⟩
                · go_wp2_with fail
                  refine ⟨⟨⟨_, bd0.out⟩, rfl⟩, ?_⟩
                  try simp only [Act.put, List.setIfInBounds_toArray, List.set_cons_zero, List.set_cons_succ]
                  rw [wpWays_one4]
                  try simp only [List.map_nil, opAt, List.getElem?_toArray, List.getElem?_cons_zero, List.getElem?_cons_succ, Option.getD_some]
                  repeat (go_big_quiet_step (fail))
                  refine wpQuiet_nil ?_
                  go_wp2_with (go_at_call 14; (refine (HWR.out).mono ?_); rintro e w11 ⟨rfl, ha11, hb11, hr2⟩; have HR2 := Lib.hid hr2; have HA11 := Lib.hid ha11; have bd1 := Lib.hid (bd0.out.trans hb11); clear hr2 ha11 hb11)
                  refine ⟨⟨⟨_, bd1.out⟩, rfl⟩, ?_⟩
                  try simp only [Act.put, List.setIfInBounds_toArray, List.set_cons_zero, List.set_cons_succ]
                  rw [wpWays_one4]
                  try simp only [List.map_nil, opAt, List.getElem?_toArray, List.getElem?_cons_zero, List.getElem?_cons_succ, Option.getD_some]
                  repeat (go_big_quiet_step (fail))
                  refine wpQuiet_nil ?_
                  go_wp2_with (go_at_call 23; (refine (HR2.out).mono ?_); rintro e w12 ⟨rfl, hd12, hb12⟩; have HD12 := Lib.hid hd12; have bd2 := Lib.hid (bd0.out.trans hb12); clear hd12 hb12)
                  refine ⟨⟨⟨_, bd2.out⟩, rfl⟩, ?_⟩
                  try simp only [Act.put, List.setIfInBounds_toArray, List.set_cons_zero, List.set_cons_succ]
                  rw [wpWays_done4]
                  try simp only [List.map_cons, List.map_nil, opAt, List.getElem?_toArray, List.getElem?_cons_zero, List.getElem?_cons_succ, Option.getD_some]
                  repeat (go_big_quiet_step (fail))
                  refine wpQuiet_nil ?_
                  go_wp2_with fail
                  go_meet
                  exact ⟨ws1, st, nw1, on1, left1, Lib.hid (by have := HWS.out; have := HW1.out; omega), HD12⟩
              · go_wp2_with fail
                refine ⟨⟨⟨_, bd0.out⟩, rfl⟩, ?_⟩
                try simp only [Act.put, List.setIfInBounds_toArray, List.set_cons_zero, List.set_cons_succ]
                rw [wpWays_one4]
                try simp only [List.map_nil, opAt, List.getElem?_toArray, List.getElem?_cons_zero, List.getElem?_cons_succ, Option.getD_some]
                repeat (go_big_quiet_step (fail))
                refine wpQuiet_nil ?_
                go_wp2_with fail
                refine ⟨⟨⟨_, bd0.out⟩, rfl⟩, ?_⟩
                try simp only [Act.put, List.setIfInBounds_toArray, List.set_cons_zero, List.set_cons_succ]
                rw [wpWays_one4]
                try simp only [List.map_nil, opAt, List.getElem?_toArray, List.getElem?_cons_zero, List.getElem?_cons_succ, Option.getD_some]
                repeat (go_big_quiet_step (fail))
                refine wpQuiet_nil ?_
                go_wp2_with (go_at_call 14; (refine (HWR.out).mono ?_); rintro e w11 ⟨rfl, ha11, hb11, hr2⟩; have HR2 := Lib.hid hr2; have HA11 := Lib.hid ha11; have bd1 := Lib.hid (bd0.out.trans hb11); clear hr2 ha11 hb11)
                refine ⟨⟨⟨_, bd1.out⟩, rfl⟩, ?_⟩
                try simp only [Act.put, List.setIfInBounds_toArray, List.set_cons_zero, List.set_cons_succ]
                rw [wpWays_one4]
                try simp only [List.map_nil, opAt, List.getElem?_toArray, List.getElem?_cons_zero, List.getElem?_cons_succ, Option.getD_some]
                repeat (go_big_quiet_step (fail))
                refine wpQuiet_nil ?_
                go_wp2_with (go_at_call 23; (refine (HR2.out).mono ?_); rintro e w12 ⟨rfl, hd12, hb12⟩; have HD12 := Lib.hid hd12; have bd2 := Lib.hid (bd0.out.trans hb12); clear hd12 hb12)
                refine ⟨⟨⟨_, bd2.out⟩, rfl⟩, ?_⟩
                try simp only [Act.put, List.setIfInBounds_toArray, List.set_cons_zero, List.set_cons_succ]
                rw [wpWays_done4]
                try simp only [List.map_cons, List.map_nil, opAt, List.getElem?_toArray, List.getElem?_cons_zero, List.getElem?_cons_succ, Option.getD_some]
                repeat (go_big_quiet_step (fail))
                refine wpQuiet_nil ?_
                go_wp2_with fail
                go_meet
                exact ⟨ws1, st, nw1, on1, left1, Lib.hid (by have := HWS.out; have := HW1.out; omega), HD12⟩
          · have e1 : min (q.bl : Int) 64 = 64 := by omega
            have hmx : q.bl ≤ 9223372036854775807 := by have h1 := HOK.out.cb; have h2 := HOK.out.mbb; unfold maxLen at h2; omega
            have e2 : wrap64 ((64 : Int) - (q.bl : Int)) = (64 : Int) - (q.bl : Int) := IntWalk.wrap64_in _ ⟨by omega, by omega⟩
            have HM0 : Hid (max ((64 : Int) - (q.bl : Int)) 0 = (bm : Int)) := Lib.hid (by have := HBM.out; omega)
            have e4 : decide ((64 : Int) < (q.bl : Int)) = true := by simp; omega
            have hc65 : 65 ≤ q.bc := by have := HOK.out.cb; omega
            have HS64 : ∀ W, (Instr.sliceAt 27 (.slice q.BA q.bl q.bc) none (some (.int .i64 64)) none).run Try.prog W = .ok (.slice q.BA 64 q.bc) W := fun W => slice_upto 27 (by kernel_rfl) (by kernel_rfl) q.BA q.bl q.bc 64 (by omega) W
            have HS65 : ∀ W, (Instr.sliceAt 27 (.slice q.BA q.bl q.bc) none (some (.int .i64 65)) none).run Try.prog W = .ok (.slice q.BA 65 q.bc) W := fun W => slice_upto 27 (by kernel_rfl) (by kernel_rfl) q.BA q.bl q.bc 65 hc65 W
            obtain ⟨zs, hzs⟩ : ∃ zs, q.bs.take 64 ++ List.replicate bm 0 = zs := ⟨_, rfl⟩
            have hzl : zs.length = 64 := by rw [← hzs]; simp; have := HBM.out; have := HOK.out.lb; omega
            have HZS := Lib.hid hzs
            have HZL := Lib.hid hzl
            have HBL := Lib.hid hbl
            clear hzs hzl hbl hmx hc65
            obtain ⟨z, hz, hz4⟩ : ∃ z : Int, (K : Int) = z ∧ (z = 1 ∨ z = 2 ∨ z = 3 ∨ z = 4) := ⟨_, rfl, by omega⟩
            rw [hz]
            clear hz hk
            rcases hz4 with rfl | rfl | rfl | rfl
            all_goals as_aux_lemma =>
              go_upto_region 24 with fail
              have G2 : ∀ y : SubW W10.heap.size W10, y.at_.cell? ⟨g10, 2, none⟩ = some (.slice q.BA q.bl q.bc) := fun y => (y.ok_.cell HL10.out).trans b2
              refine region_ways4 W10.heap.size (Nat.le_refl _) (.one [1, 2, 3, 4, 5, 6, 7, 9, 10, 11, 12, 13] 0 (.one [] 8 (.one [] 14 (.done [15])))) (by kernel_rfl) (by kernel_rfl) ?_
              rintro wd hbd
              rw [wpWays_one4]
              try simp only [List.map_cons, List.map_nil, opAt, List.getElem?_toArray, List.getElem?_cons_zero, List.getElem?_cons_succ, Option.getD_some]
              repeat (go_big_quiet_step (fail))
              refine wpQuiet_nil ?_
              go_wp2_with fail
              have B1 : Hid (Below W10.heap.size W10 (wd.alloc (.cells #[] 5))) := Lib.hid (hbd.alloc hbd.size _)
              have os1 : OwnS (wd.alloc (.cells #[] 5)) W10.heap.size (.slice (some ⟨wd.heap.size, 0, none⟩) 0 0) 5 [] := OwnS.new wd 5 [] W10.heap.size hbd.size (by unfold maxLen; simp)
              have bn1 := B1.out.mono hb0
              have hx1 := bytes_below (HD10.out.bel.trans bn1) (Nat.le_refl _) (BytesAt.take HOK.out.xb 64)
              refine ⟨⟨⟨_, B1.out⟩, rfl⟩, ?_⟩
              try simp only [Act.put, List.setIfInBounds_toArray, List.set_cons_zero, List.set_cons_succ]
              rw [wpWays_one4]
              try simp only [List.map_nil, opAt, List.getElem?_toArray, List.getElem?_cons_zero, List.getElem?_cons_succ, Option.getD_some]
              repeat (go_big_quiet_step (fail))
              refine wpQuiet_nil ?_
              go_wp2_with (at_builtin; refine wpList_append_z rfl (.tmp 138) (.tmp 145) 27 rfl Try.underlying27 infoU8 rfl os1 q.BA q.bc 64 (q.bs.take 64) (q.bs.take 64) rfl (by have := HBL.out; have := HOK.out.lb; simp; omega) hx1 rfl (by simp) B1.out.size ?_; intro A8 c8 w8 ho8 hg8)
              have B2 : Hid (Below W10.heap.size W10 w8) := Lib.hid (B1.out.grown hg8 B1.out.size (fun k hk => (os1.block k hk).1))
              have bn2 := B2.out.mono hb0
              obtain ⟨A9, c9, w9, hr9, ho9, hg9⟩ := run_append_zs (P := Try.prog) 27 3 27 Try.underlying27 .i64 Try.underlying3 infoU8 ho8 bm HZS.out (by have := HBL.out; have := HOK.out.lb; have := HBM.out; simp; omega) B2.out.size
              have B3 : Hid (Below W10.heap.size W10 w9) := Lib.hid (B2.out.grown hg9 B2.out.size (fun k hk => (ho8.block k hk).1))
              have bn3 := B3.out.mono hb0
              rw [HZL.out] at hr9 ho9
              have HO9 := Lib.hid ho9
              have HR9 := Lib.hid hr9
              clear ho9 hg9 ho8 hg8 hr9
              refine ⟨⟨⟨_, B2.out⟩, rfl⟩, ?_⟩
              try simp only [Act.put, List.setIfInBounds_toArray, List.set_cons_zero, List.set_cons_succ]
              rw [wpWays_one4]
              try simp only [List.map_nil, opAt, List.getElem?_toArray, List.getElem?_cons_zero, List.getElem?_cons_succ, Option.getD_some]
              refine wpQuiet_nil ?_
              go_wp2_with (at_builtin; refine Lib.wpList_append_run _ rfl (.tmp 146) (.tmp 151) 27 3 rfl _ (.int .i64 (bm : Int)) rfl (congrArg (Value.int .i64) HM0.out) _ _ HR9.out ?_)
              refine ⟨⟨⟨_, B3.out⟩, rfl⟩, ?_⟩
              try simp only [Act.put, List.setIfInBounds_toArray, List.set_cons_zero, List.set_cons_succ]
              rw [wpWays_done4]
              try simp only [List.map_cons, List.map_nil, opAt, List.getElem?_toArray, List.getElem?_cons_zero, List.getElem?_cons_succ, Option.getD_some]
              repeat (go_big_quiet_step (fail))
              refine wpQuiet_nil ?_
              have c1 : w9.cell? ⟨g10, 1, none⟩ = some (.int .i64 q.ix) := (B3.out.cell HL10.out).trans b1
              have c2 : w9.cell? ⟨g10, 2, none⟩ = some (.slice q.BA q.bl q.bc) := (B3.out.cell HL10.out).trans b2
              go_upto_region 27 with fail
              refine region_ways4 w1.heap.size (Nat.le_trans HD10.out.bel.size B3.out.size) (.two [0, 1, 3, 5, 6, 8] 2 (.two [] 4 (.one [] 7 (.one [] 9 (.done [10, 11]))) 7 (.one [] 4 (.one [] 9 (.done [10, 11])))) 7 (.one [] 2 (.one [] 4 (.one [] 9 (.done [10, 11]))))) (by kernel_rfl) (by kernel_rfl) ?_
              rintro wd hbd
              have bd0 : Hid (Below w1.heap.size w9 wd) := Lib.hid (hbd.mono (Nat.le_trans HD10.out.bel.size B3.out.size))
              have HGd : Hid (wd.heap[g10]? = some (.cells #[.int .i64 q.wh, .int .i64 q.ix, .slice q.BA q.bl q.bc, .slice q.KA q.kl q.kc, .slice q.TA q.tl q.tc] 42 (0, 0))) := Lib.hid ((hbd.block g10 (Nat.lt_of_lt_of_le HL10.out B3.out.size)).trans ((B3.out.block g10 HL10.out).trans HG10.out))
              have HDd : Hid (Di w1 wd B N0 g gs gn r n ws st nw on left) := Lib.hid ((HD10.out.below B3.out).below hbd)
              obtain ⟨er, on1, left1, nw1, ws1, hw1, hwr⟩ := HDd.out.write (by have := HWS.out; omega) q.ix q.BA 65 q.bc (q.bs.take 65) (by have := HOK.out.lb; have := HBL.out; simp; omega) (bytes_below HDd.out.bel (Nat.le_refl _) (BytesAt.take HOK.out.xb 65)) (fun h => by omega)
              have HWR := Lib.hid hwr
              have HW1 := Lib.hid hw1
              have x1 := blk_cell HGd.out 1 (.int .i64 q.ix) rfl
              clear hwr hw1 hbd c1 c2
              rw [wpWays_two4]
              try simp only [List.map_cons, List.map_nil, opAt, List.getElem?_toArray, List.getElem?_cons_zero, List.getElem?_cons_succ, Option.getD_some]
              repeat (go_big_quiet_step (fail))
              refine wpQuiet_nil ⟨?_, ?_⟩
              · go_wp2_with fail
                refine ⟨⟨⟨_, bd0.out⟩, rfl⟩, ?_⟩
                try simp only [Act.put, List.setIfInBounds_toArray, List.set_cons_zero, List.set_cons_succ]
                rw [wpWays_two4]
                try simp only [List.map_nil, opAt, List.getElem?_toArray, List.getElem?_cons_zero, List.getElem?_cons_succ, Option.getD_some]
                refine wpQuiet_nil ⟨?_, ?_⟩
                · go_wp2_with (go_at_call 14; (refine (HWR.out).mono ?_); rintro e w11 ⟨rfl, ha11, hb11, hr2⟩; have HR2 := Lib.hid hr2; have HA11 := Lib.hid ha11; have bd1 := Lib.hid (bd0.out.trans hb11); clear hr2 ha11 hb11)
                  have x2 : w11.cell? ⟨g10, 1, none⟩ = some (.int .i64 q.ix) := blk_cell ((HA11.out g10 _ HGd.out).trans HGd.out) 1 (.int .i64 q.ix) rfl
                  refine ⟨⟨⟨_, bd1.out⟩, rfl⟩, ?_⟩
                  try simp only [Act.put, List.setIfInBounds_toArray, List.set_cons_zero, List.set_cons_succ]
                  rw [wpWays_one4]
                  try simp only [List.map_nil, opAt, List.getElem?_toArray, List.getElem?_cons_zero, List.getElem?_cons_succ, Option.getD_some]
                  repeat (go_big_quiet_step (fail))
                  refine wpQuiet_nil ?_
                  go_wp2_with fail
                  refine ⟨⟨⟨_, bd1.out⟩, rfl⟩, ?_⟩
                  try simp only [Act.put, List.setIfInBounds_toArray, List.set_cons_zero, List.set_cons_succ]
                  rw [wpWays_one4]
                  try simp only [List.map_nil, opAt, List.getElem?_toArray, List.getElem?_cons_zero, List.getElem?_cons_succ, Option.getD_some]
                  repeat (go_big_quiet_step (fail))
                  refine wpQuiet_nil ?_
                  go_wp2_with (go_at_call 23; (refine (HR2.out).mono ?_); rintro e w12 ⟨rfl, hd12, hb12⟩; have HD12 := Lib.hid hd12; have bd2 := Lib.hid (bd0.out.trans hb12); clear hd12 hb12)
                  refine ⟨⟨⟨_, bd2.out⟩, rfl⟩, ?_⟩
                  try simp only [Act.put, List.setIfInBounds_toArray, List.set_cons_zero, List.set_cons_succ]
                  rw [wpWays_done4]
                  try simp only [List.map_cons, List.map_nil, opAt, List.getElem?_toArray, List.getElem?_cons_zero, List.getElem?_cons_succ, Option.getD_some]
                  repeat (go_big_quiet_step (fail))
                  refine wpQuiet_nil ?_
                  go_wp2_with fail
                  go_meet
                  exact ⟨ws1, st, nw1, on1, left1, Lib.hid (by have := HWS.out; have := HW1.out; omega), HD12⟩
                · go_wp2_with fail
                  refine ⟨⟨⟨_, bd0.out⟩, rfl⟩, ?_⟩
                  try simp only [Act.put, List.setIfInBounds_toArray, List.set_cons_zero, List.set_cons_succ]
                  rw [wpWays_one4]
                  try simp only [List.map_nil, opAt, List.getElem?_toArray, List.getElem?_cons_zero, List.getElem?_cons_succ, Option.getD_some]
                  repeat (go_big_quiet_step (fail))
                  refine wpQuiet_nil ?_
                  go_wp2_with (go_at_call 14; (refine (HWR.out).mono ?_); rintro e w11 ⟨rfl, ha11, hb11, hr2⟩; have HR2 := Lib.hid hr2; have HA11 := Lib.hid ha11; have bd1 := Lib.hid (bd0.out.trans hb11); clear hr2 ha11 hb11)
                  refine ⟨⟨⟨_, bd1.out⟩, rfl⟩, ?_⟩
                  try simp only [Act.put, List.setIfInBounds_toArray, List.set_cons_zero, List.set_cons_succ]
                  rw [wpWays_one4]
                  try simp only [List.map_nil, opAt, List.getElem?_toArray, List.getElem?_cons_zero, List.getElem?_cons_succ, Option.getD_some]
                  repeat (go_big_quiet_step (fail))
                  refine wpQuiet_nil ?_
                  go_wp2_with (go_at_call 23; (refine (HR2.out).mono ?_); rintro e w12 ⟨rfl, hd12, hb12⟩; have HD12 := Lib.hid hd12; have bd2 := Lib.hid (bd0.out.trans hb12); clear hd12 hb12)
                  refine ⟨⟨⟨_, bd2.out⟩, rfl⟩, ?_⟩
                  try simp only [Act.put, List.setIfInBounds_toArray, List.set_cons_zero, List.set_cons_succ]
                  rw [wpWays_done4]
                  try simp only [List.map_cons, List.map_nil, opAt, List.getElem?_toArray, List.getElem?_cons_zero, List.getElem?_cons_succ, Option.getD_some]
                  repeat (go_big_quiet_step (fail))
                  refine wpQuiet_nil ?_
                  go_wp2_with fail
                  go_meet
                  exact ⟨ws1, st, nw1, on1, left1, Lib.hid (by have := HWS.out; have := HW1.out; omega), HD12⟩
              · go_wp2_with fail
                refine ⟨⟨⟨_, bd0.out⟩, rfl⟩, ?_⟩
                try simp only [Act.put, List.setIfInBounds_toArray, List.set_cons_zero, List.set_cons_succ]
                rw [wpWays_one4]
                try simp only [List.map_nil, opAt, List.getElem?_toArray, List.getElem?_cons_zero, List.getElem?_cons_succ, Option.getD_some]
                repeat (go_big_quiet_step (fail))
                refine wpQuiet_nil ?_
                go_wp2_with fail
                refine ⟨⟨⟨_, bd0.out⟩, rfl⟩, ?_⟩
                try simp only [Act.put, List.setIfInBounds_toArray, List.set_cons_zero, List.set_cons_succ]
                rw [wpWays_one4]
                try simp only [List.map_nil, opAt, List.getElem?_toArray, List.getElem?_cons_zero, List.getElem?_cons_succ, Option.getD_some]
                repeat (go_big_quiet_step (fail))
                refine wpQuiet_nil ?_
                go_wp2_with (go_at_call 14; (refine (HWR.out).mono ?_); rintro e w11 ⟨rfl, ha11, hb11, hr2⟩; have HR2 := Lib.hid hr2; have HA11 := Lib.hid ha11; have bd1 := Lib.hid (bd0.out.trans hb11); clear hr2 ha11 hb11)
                refine ⟨⟨⟨_, bd1.out⟩, rfl⟩, ?_⟩
                try simp only [Act.put, List.setIfInBounds_toArray, List.set_cons_zero, List.set_cons_succ]
                rw [wpWays_one4]
                try simp only [List.map_nil, opAt, List.getElem?_toArray, List.getElem?_cons_zero, List.getElem?_cons_succ, Option.getD_some]
                repeat (go_big_quiet_step (fail))
                refine wpQuiet_nil ?_
                go_wp2_with (go_at_call 23; (refine (HR2.out).mono ?_); rintro e w12 ⟨rfl, hd12, hb12⟩; have HD12 := Lib.hid hd12; have bd2 := Lib.hid (bd0.out.trans hb12); clear hd12 hb12)
                refine ⟨⟨⟨_, bd2.out⟩, rfl⟩, ?_⟩
                try simp only [Act.put, List.setIfInBounds_toArray, List.set_cons_zero, List.set_cons_succ]
                rw [wpWays_done4]
                try simp only [List.map_cons, List.map_nil, opAt, List.getElem?_toArray, List.getElem?_cons_zero, List.getElem?_cons_succ, Option.getD_some]
                repeat (go_big_quiet_step (fail))
                refine wpQuiet_nil ?_
                go_wp2_with fail
                go_meet
                exact ⟨ws1, st, nw1, on1, left1, Lib.hid (by have := HWS.out; have := HW1.out; omega), HD12⟩
        · as_aux_lemma =>
          rw [show (K : Int) = 5 by omega]
          obtain ⟨er, on1, left1, st1, ws1, hw1, hfl⟩ := HD10.out.flush (by have := HWS.out; omega)
          have HFL := Lib.hid hfl
          have HW1 := Lib.hid hw1
          clear hfl hw1
          go_upto_region 32 with (first
            | (go_at_call 15; (refine (HFL.out).mono ?_); rintro e w11 ⟨rfl, ha11, hr2⟩; have HR2 := Lib.hid hr2; clear hr2)
            | (go_at_call 24; (refine (HR2.out).mono ?_); rintro e w12 ⟨rfl, hd12⟩; have HD12 := Lib.hid hd12; clear hd12))
          go_wp2_with fail
          go_meet
          exact ⟨ws1, st1, nw, on1, left1, Lib.hid (by have := HWS.out; have := HW1.out; omega), HD12⟩
        · as_aux_lemma =>
          rw [show (K : Int) = 6 by omega]
          obtain ⟨left1, hfl⟩ := HD10.out.fail q.ix HOK.out.ii
          have HFL := Lib.hid hfl
          have b1 := blk_cell HG10.out 1 (.int .i64 q.ix) rfl
          clear hfl
          go_upto_region 35 with (go_at_call 10; (refine (HFL.out).mono ?_); rintro e w11 ⟨rfl, ha11, hu, hfz, hoff, hd1, hd2⟩; have HD1 := Lib.hid hd1; have HD2 := Lib.hid hd2; clear hd1 hd2)
          have b2 : w11.cell? ⟨g10, 1, none⟩ = some (.int .i64 q.ix) := blk_cell ((ha11 g10 _ HG10.out).trans HG10.out) 1 (.int .i64 q.ix) rfl
          obtain ⟨u, hu⟩ := hu
          go_upto_region 36 with fail
          have b3 : (w11.setCell ⟨r, 3, none⟩ (.int .i64 (max q.ix (-1)))).cell? ⟨r, 2, none⟩ = some (.bool (!on)) := by first | exact (World.cell?_setCell_other _ _ _ _ (fun e => by injection e with _ e2; omega)).trans hoff | exact (World.cell?_setCell_other _ _ _ (fun e => by injection e with _ e2; omega)).trans hoff | exact (World.cell?_setCell_other _ _ (fun e => by injection e with _ e2; omega)).trans hoff | exact (World.cell?_setCell_other _ (fun e => by injection e with _ e2; omega)).trans hoff
          have b4 : ∃ u, (w11.setCell ⟨r, 3, none⟩ (.int .i64 (max q.ix (-1)))).cell? ⟨r, 3, none⟩ = some u := ⟨.int .i64 (max q.ix (-1)), by first | exact World.cell?_setCell_same _ _ _ hu | exact World.cell?_setCell_same _ _ hu | exact World.cell?_setCell_same _ hu⟩
          have b5 : (w11.setCell ⟨r, 3, none⟩ (.int .i64 (max q.ix (-1)))).frozen? ⟨r, 3, none⟩ = false := by first | (simpa using hfz) | exact (World.frozen?_setCells r [_] 3 w11 _).trans hfz
          obtain ⟨u2, b4⟩ := b4
          obtain ⟨W12, eW12⟩ : ∃ W, W = w11.setCell ⟨r, 3, none⟩ (.int .i64 (max q.ix (-1))) := ⟨_, rfl⟩
          rw [← eW12] at b3 b4 b5 HD1 HD2 ⊢
          clear eW12 hu hfz hoff
          by_cases hon : on = true
          · rw [show (!on) = false by rw [hon]; rfl] at b3
            go_wp2_with fail
            go_meet
            exact ⟨ws, st, nw, on, left1, Lib.hid (by have := HWS.out; omega), Lib.hid (HD1.out hon)⟩
          · have hof : on = false := by simpa using hon
            rw [show (!on) = true by rw [hof]; rfl] at b3
            go_wp2_with fail
            go_meet
            exact ⟨ws, st, nw, on, left1, Lib.hid (by have := HWS.out; omega), Lib.hid (HD2.out hof)⟩
        · as_aux_lemma =>
          rw [show (K : Int) = 7 by omega]
          obtain ⟨st1, hfa⟩ := HD10.out.fates (by have := HWS.out; omega) q HOK.out
          have HFA := Lib.hid hfa
          clear hfa
          go_upto_region 42 with (first
            | (refine wpList_load_row rfl 42 (.tmp 11) rfl g10 rfl 42 #[.int .i64 q.wh, .int .i64 q.ix, .slice q.BA q.bl q.bc, .slice q.KA q.kl q.kc, .slice q.TA q.tl q.tc] (0, 0) _ HG10.out Try.underlying42 rfl rfl ?_)
            | (go_at_call 25; (refine (HFA.out).mono ?_); rintro e w11 ⟨vF, vK, vT, rfl, hb11, hr2⟩; have HR2 := Lib.hid hr2; clear hr2)
            | (go_at_call 11; (refine (HR2.out).mono ?_); rintro e w12 ⟨rfl, ha12, hr3⟩; have HR3 := Lib.hid hr3; clear hr3)
            | (go_at_call 26; (refine (HR3.out).mono ?_); rintro e w13 ⟨rfl, hd13⟩; have HD13 := Lib.hid hd13; clear hd13))
          go_meet
          exact ⟨[], st1, st1, true, -1, Lib.hid (by simp), HD13⟩
      case rest =>
       as_aux_lemma =>
        obtain ⟨ws1, st1, nw1, on1, left1, HW1, HD1⟩ := hcut
        obtain ⟨WX, rfl⟩ : ∃ W, W = wc := ⟨_, rfl⟩
        clear HD10 HG10 HN10 HOK
        obtain ⟨nb, hnb⟩ : ∃ nb, nb = !on1 := ⟨_, rfl⟩
        have hne : (on1 == nb) = false := by rw [hnb]; cases on1 <;> rfl
        have HNB := Lib.hid hnb
        obtain ⟨WA, wcp, hWA⟩ := HD1.out.tells.2.2.2.2.2.2.1
        have hR2 := HD1.out.tells.2.2.2.2.2.1
        rw [← hnb] at hR2
        have G1 : ∀ y : SubW WX.heap.size WX, y.at_.cell? ⟨r, 1, none⟩ = some (.slice WA ws1.length wcp) := fun y => (y.ok_.cell (World.block_lt_of_cell? _ _ hWA)).trans hWA
        have G2 : ∀ y : SubW WX.heap.size WX, y.at_.cell? ⟨r, 2, none⟩ = some (.bool nb) := fun y => (y.ok_.cell (World.block_lt_of_cell? _ _ hR2)).trans hR2
        have HPG : Hid (64 * n / 256 = p) := Lib.hid (by have := HN.out; omega)
        have HST : Hid (st1.length = 64 * n) := Lib.hid HD1.out.tells.2.2.2.2.2.2.2.1
        clear hnb hWA hR2
        go_upto_region 42 with fail
        refine region_ways4 WX.heap.size (Nat.le_refl _) (.one [0, 2, 3, 4, 5] 1 (.one [6, 7, 8, 10, 11, 12, 13, 14] 9 (.one [15, 16, 17, 18, 20] 19 (.one [21, 22, 23, 24, 27] 25 (.two [] 26 (.one [] 28 (.one [] 29 (.done [30, 31]))) 28 (.two [] 26 (.one [] 29 (.done [30, 31])) 29 (.one [] 26 (.done [30, 31])))))))) (by kernel_rfl) (by kernel_rfl) ?_
        rintro wd hbd
        have BD := Lib.hid hbd
        obtain ⟨ca, cb, cc, cd, -⟩ := (HD1.out.below hbd).tells
        rw [HPG.out] at cc
        have CA := Lib.hid ca
        have CB := Lib.hid cb
        have CC := Lib.hid cc
        have CD := Lib.hid cd
        clear ca cb cc cd hbd
        rw [wpWays_one4]
        try simp only [List.map_cons, List.map_nil, opAt, List.getElem?_toArray, List.getElem?_cons_zero, List.getElem?_cons_succ, Option.getD_some]
        repeat (go_big_quiet_step (fail))
        refine wpQuiet_nil ?_
        go_wp2_with (go_at_call 16; (refine (CA.out).mono ?_); rintro e w11 ⟨rfl, rfl⟩)
        refine ⟨⟨⟨_, BD.out⟩, rfl⟩, ?_⟩
        try simp only [Act.put, List.setIfInBounds_toArray, List.set_cons_zero, List.set_cons_succ]
        rw [wpWays_one4]
        try simp only [List.map_cons, List.map_nil, opAt, List.getElem?_toArray, List.getElem?_cons_zero, List.getElem?_cons_succ, Option.getD_some]
        repeat (go_big_quiet_step (fail))
        refine wpQuiet_nil ?_
        go_wp2_with (go_at_call 18; (refine (CB.out).mono ?_); rintro e w11 ⟨rfl, rfl⟩)
        refine ⟨⟨⟨_, BD.out⟩, rfl⟩, ?_⟩
        try simp only [Act.put, List.setIfInBounds_toArray, List.set_cons_zero, List.set_cons_succ]
        rw [wpWays_one4]
        try simp only [List.map_cons, List.map_nil, opAt, List.getElem?_toArray, List.getElem?_cons_zero, List.getElem?_cons_succ, Option.getD_some]
        repeat (go_big_quiet_step (fail))
        refine wpQuiet_nil ?_
        go_wp2_with (go_at_call 17; (refine (CC.out).mono ?_); rintro e w11 ⟨rfl, rfl⟩)
        refine ⟨⟨⟨_, BD.out⟩, rfl⟩, ?_⟩
        try simp only [Act.put, List.setIfInBounds_toArray, List.set_cons_zero, List.set_cons_succ]
        rw [wpWays_one4]
        try simp only [List.map_cons, List.map_nil, opAt, List.getElem?_toArray, List.getElem?_cons_zero, List.getElem?_cons_succ, Option.getD_some]
        repeat (go_big_quiet_step (fail))
        refine wpQuiet_nil ?_
        go_wp2_with (go_at_call 19; (refine (CD.out).mono ?_); rintro e w11 ⟨A1, cA1, rfl, hoA1, hbA1⟩; have HA1 := Lib.hid hoA1; have B1 := Lib.hid (BD.out.trans (hbA1.mono BD.out.size)); clear hoA1 hbA1)
        have CE := Lib.hid (HD1.out.below B1.out).tells.2.2.2.2.1
        have t1 := text_dk A1 (64 * n) cA1 st1 HST.out HA1.out.bytes
        refine ⟨⟨⟨_, B1.out⟩, rfl⟩, ?_⟩
        try simp only [Act.put, List.setIfInBounds_toArray, List.set_cons_zero, List.set_cons_succ]
        rw [wpWays_two4]
        try simp only [List.map_nil, opAt, List.getElem?_toArray, List.getElem?_cons_zero, List.getElem?_cons_succ, Option.getD_some]
        refine wpQuiet_nil ⟨?_, ?_⟩
        · go_wp2_with fail
          refine ⟨⟨⟨_, B1.out⟩, rfl⟩, ?_⟩
          try simp only [Act.put, List.setIfInBounds_toArray, List.set_cons_zero, List.set_cons_succ]
          rw [wpWays_one4]
          try simp only [List.map_nil, opAt, List.getElem?_toArray, List.getElem?_cons_zero, List.getElem?_cons_succ, Option.getD_some]
          repeat (go_big_quiet_step (fail))
          refine wpQuiet_nil ?_
          go_wp2_with (go_at_call 27; (refine (CE.out).mono ?_); rintro e w12 ⟨A2, cA2, rfl, hoA2, hbA2⟩; have HA2 := Lib.hid hoA2; have B2 := Lib.hid (B1.out.trans (hbA2.mono B1.out.size)); have HA3 := Lib.hid (HA1.out.below hbA2); clear hoA2 hbA2)
          have t2 := text_dk A2 (64 * n) cA2 st1 HST.out HA2.out.bytes
          refine ⟨⟨⟨_, B2.out⟩, rfl⟩, ?_⟩
          try simp only [Act.put, List.setIfInBounds_toArray, List.set_cons_zero, List.set_cons_succ]
          rw [wpWays_one4]
          try simp only [List.map_nil, opAt, List.getElem?_toArray, List.getElem?_cons_zero, List.getElem?_cons_succ, Option.getD_some]
          repeat (go_big_quiet_step (fail))
          refine wpQuiet_nil ?_
          go_wp2_with fail
          refine ⟨⟨⟨_, B2.out⟩, rfl⟩, ?_⟩
          try simp only [Act.put, List.setIfInBounds_toArray, List.set_cons_zero, List.set_cons_succ]
          rw [wpWays_done4]
          try simp only [List.map_cons, List.map_nil, opAt, List.getElem?_toArray, List.getElem?_cons_zero, List.getElem?_cons_succ, Option.getD_some]
          repeat (go_big_quiet_step (fail))
          refine wpQuiet_nil ?_
          clear t1 t2
          go_wp2_with fail
          go_roundw
          case rel => exact ⟨k + 1, ws1, st1, nw1, on1, left1, by omega, by omega, by go_num, Lib.hid HW1.out, Lib.hid (HD1.out.below B2.out)⟩
          case measure => simp [intOf]; omega
        · go_wp2_with (go_at_call 27; (refine (CE.out).mono ?_); rintro e w12 ⟨A2, cA2, rfl, hoA2, hbA2⟩; have HA2 := Lib.hid hoA2; have B2 := Lib.hid (B1.out.trans (hbA2.mono B1.out.size)); have HA3 := Lib.hid (HA1.out.below hbA2); clear hoA2 hbA2)
          clear t1
          have t1 := text_dk A1 (64 * n) cA1 st1 HST.out HA3.out.bytes
          have t2 := text_dk A2 (64 * n) cA2 st1 HST.out HA2.out.bytes
          refine ⟨⟨⟨_, B2.out⟩, rfl⟩, ?_⟩
          try simp only [Act.put, List.setIfInBounds_toArray, List.set_cons_zero, List.set_cons_succ]
          rw [wpWays_two4]
          try simp only [List.map_nil, opAt, List.getElem?_toArray, List.getElem?_cons_zero, List.getElem?_cons_succ, Option.getD_some]
          refine wpQuiet_nil ⟨?_, ?_⟩
          · go_wp2_with fail
            refine ⟨⟨⟨_, B2.out⟩, rfl⟩, ?_⟩
            try simp only [Act.put, List.setIfInBounds_toArray, List.set_cons_zero, List.set_cons_succ]
            rw [wpWays_one4]
            try simp only [List.map_nil, opAt, List.getElem?_toArray, List.getElem?_cons_zero, List.getElem?_cons_succ, Option.getD_some]
            repeat (go_big_quiet_step (fail))
            refine wpQuiet_nil ?_
            go_wp2_with fail
            refine ⟨⟨⟨_, B2.out⟩, rfl⟩, ?_⟩
            try simp only [Act.put, List.setIfInBounds_toArray, List.set_cons_zero, List.set_cons_succ]
            rw [wpWays_done4]
            try simp only [List.map_cons, List.map_nil, opAt, List.getElem?_toArray, List.getElem?_cons_zero, List.getElem?_cons_succ, Option.getD_some]
            repeat (go_big_quiet_step (fail))
            refine wpQuiet_nil ?_
            clear t1 t2
            go_wp2_with fail
            go_roundw
            case rel => exact ⟨k + 1, ws1, st1, nw1, on1, left1, by omega, by omega, by go_num, Lib.hid HW1.out, Lib.hid (HD1.out.below B2.out)⟩
            case measure => simp [intOf]; omega
          · go_wp2_with fail
            refine ⟨⟨⟨_, B2.out⟩, rfl⟩, ?_⟩
            try simp only [Act.put, List.setIfInBounds_toArray, List.set_cons_zero, List.set_cons_succ]
            rw [wpWays_one4]
            try simp only [List.map_nil, opAt, List.getElem?_toArray, List.getElem?_cons_zero, List.getElem?_cons_succ, Option.getD_some]
            repeat (go_big_quiet_step (fail))
            refine wpQuiet_nil ?_
            go_wp2_with fail
            refine ⟨⟨⟨_, B2.out⟩, rfl⟩, ?_⟩
            try simp only [Act.put, List.setIfInBounds_toArray, List.set_cons_zero, List.set_cons_succ]
            rw [wpWays_done4]
            try simp only [List.map_cons, List.map_nil, opAt, List.getElem?_toArray, List.getElem?_cons_zero, List.getElem?_cons_succ, Option.getD_some]
            repeat (go_big_quiet_step (fail))
            refine wpQuiet_nil ?_
            clear t1 t2
            go_wp2_with fail
            go_roundw
            case rel => exact ⟨k + 1, ws1, st1, nw1, on1, left1, by omega, by omega, by go_num, Lib.hid HW1.out, Lib.hid (HD1.out.below B2.out)⟩
            case measure => simp [intOf]; omega
    · by_cases hl2 : k < rl
      · have d1 : decide ((k : Int) < (rl : Int)) = true := by simp; omega
        have d2 : decide ((k : Int) < 50) = false := by simp; omega
        have d2' : decide (k < 50) = false := by simp; omega
        as_aux_lemma =>
          go_upto_region 44 with fail
          obtain ⟨W0, rfl⟩ : ∃ W0, W0 = wr := ⟨_, rfl⟩
          have HIM := Lib.hid HD.out.tells.2.2.2.1
          have HST : Hid (st.length = 64 * n) := Lib.hid HD.out.tells.2.2.2.2.2.2.2.1
          have hn1 : 64 * n % 256 = 0 := by have := HN.out; omega
          have hn2 : 2048 ≤ 64 * n := by have := HN.out; omega
          have hn3 : 64 * n ≤ 131072 := by have := HN.out; omega
          have HN1 := Lib.hid hn1
          have HN2 := Lib.hid hn2
          have HN3 := Lib.hid hn3
          clear hn1 hn2 hn3
          go_upto_region 45 with (first
            | (go_at_call 19; (refine (HIM.out).mono ?_); rintro e w21 ⟨A1, c1, rfl, ho1, hb21⟩; obtain ⟨q1, rfl, hob1, hl1⟩ := ho1.ownB (by have := HN2.out; omega); have HO1 := Lib.hid hob1.bytes; have B21 := Lib.hid hb21; clear ho1 hob1 hl1 hb21)
            | (go_at_call 28; (refine (load_ok _ (64 * n) c1 st w21 HO1.out HST.out HN1.out HN2.out HN3.out (fun h => by cases h)).mono ?_); rintro e w22 ⟨g2, gs2, gn2, cs2, cn2, rfl, hD2, hb22⟩; have D2 := Lib.hid hD2; have B22 := Lib.hid hb22; clear hD2 hb22))
          have HDW := Lib.hid ((HD.out.below B21.out).below B22.out)
          refine region_ways4 w22.heap.size (Nat.le_refl _) (.one [0, 1, 2, 3, 4, 5, 6, 7, 10] 8 (.two [] 9 (.one [] 11 (.one [] 12 (.one [13, 14, 15, 16] 17 (.done [18, 19])))) 11 (.two [] 9 (.one [] 12 (.one [13, 14, 15, 16] 17 (.done [18, 19]))) 12 (.one [] 9 (.one [13, 14, 15, 16] 17 (.done [18, 19])))))) (by kernel_rfl) (by kernel_rfl) ?_
          rintro wd hbd
          have BD := Lib.hid hbd
          clear hbd
          have CD := Lib.hid (image_any (D2.out.below BD.out))
          rw [wpWays_one4]
          try simp only [List.map_cons, List.map_nil, opAt, List.getElem?_toArray, List.getElem?_cons_zero, List.getElem?_cons_succ, Option.getD_some]
          repeat (go_big_quiet_step (fail))
          refine wpQuiet_nil ?_
          go_wp2_with (go_at_call 19; (refine (CD.out).mono ?_); rintro e w11 ⟨A1, cA1, rfl, hoA1, hbA1⟩; have HA1 := Lib.hid hoA1; have B1 := Lib.hid (BD.out.trans (hbA1.mono BD.out.size)); clear hoA1 hbA1)
          have CE := Lib.hid (HDW.out.below B1.out).tells.2.2.2.2.1
          have t1 := text_dk A1 (64 * n) cA1 st HST.out HA1.out.bytes
          refine ⟨⟨⟨_, B1.out⟩, rfl⟩, ?_⟩
          try simp only [Act.put, List.setIfInBounds_toArray, List.set_cons_zero, List.set_cons_succ]
          rw [wpWays_two4]
          try simp only [List.map_nil, opAt, List.getElem?_toArray, List.getElem?_cons_zero, List.getElem?_cons_succ, Option.getD_some]
          refine wpQuiet_nil ⟨?_, ?_⟩
          · go_wp2_with fail
            refine ⟨⟨⟨_, B1.out⟩, rfl⟩, ?_⟩
            try simp only [Act.put, List.setIfInBounds_toArray, List.set_cons_zero, List.set_cons_succ]
            rw [wpWays_one4]
            try simp only [List.map_nil, opAt, List.getElem?_toArray, List.getElem?_cons_zero, List.getElem?_cons_succ, Option.getD_some]
            repeat (go_big_quiet_step (fail))
            refine wpQuiet_nil ?_
            go_wp2_with (go_at_call 27; (refine (CE.out).mono ?_); rintro e w12 ⟨A2, cA2, rfl, hoA2, hbA2⟩; have HA2 := Lib.hid hoA2; have B2 := Lib.hid (B1.out.trans (hbA2.mono B1.out.size)); have HA3 := Lib.hid (HA1.out.below hbA2); clear hoA2 hbA2)
            have t2 := text_dk A2 (64 * n) cA2 st HST.out HA2.out.bytes
            refine ⟨⟨⟨_, B2.out⟩, rfl⟩, ?_⟩
            try simp only [Act.put, List.setIfInBounds_toArray, List.set_cons_zero, List.set_cons_succ]
            rw [wpWays_one4]
            try simp only [List.map_nil, opAt, List.getElem?_toArray, List.getElem?_cons_zero, List.getElem?_cons_succ, Option.getD_some]
            repeat (go_big_quiet_step (fail))
            refine wpQuiet_nil ?_
            go_wp2_with fail
            refine ⟨⟨⟨_, B2.out⟩, rfl⟩, ?_⟩
            try simp only [Act.put, List.setIfInBounds_toArray, List.set_cons_zero, List.set_cons_succ]
            rw [wpWays_one4]
            try simp only [List.map_cons, List.map_nil, opAt, List.getElem?_toArray, List.getElem?_cons_zero, List.getElem?_cons_succ, Option.getD_some]
            repeat (go_big_quiet_step (fail))
            refine wpQuiet_nil ?_
            have CF := Lib.hid (on_any (D2.out.below B2.out))
            clear t1 t2
            go_wp2_with (go_at_call 16; (refine (CF.out).mono ?_); rintro e w13 ⟨rfl, rfl⟩)
            refine ⟨⟨⟨_, B2.out⟩, rfl⟩, ?_⟩
            try simp only [Act.put, List.setIfInBounds_toArray, List.set_cons_zero, List.set_cons_succ]
            rw [wpWays_done4]
            try simp only [List.map_cons, List.map_nil, opAt, List.getElem?_toArray, List.getElem?_cons_zero, List.getElem?_cons_succ, Option.getD_some]
            repeat (go_big_quiet_step (fail))
            refine wpQuiet_nil ?_
            go_wp2_with fail
            go_ret
            exact ⟨rfl, (HDW.out.below B2.out).bel⟩
          · go_wp2_with (go_at_call 27; (refine (CE.out).mono ?_); rintro e w12 ⟨A2, cA2, rfl, hoA2, hbA2⟩; have HA2 := Lib.hid hoA2; have B2 := Lib.hid (B1.out.trans (hbA2.mono B1.out.size)); have HA3 := Lib.hid (HA1.out.below hbA2); clear hoA2 hbA2)
            clear t1
            have t1 := text_dk A1 (64 * n) cA1 st HST.out HA3.out.bytes
            have t2 := text_dk A2 (64 * n) cA2 st HST.out HA2.out.bytes
            refine ⟨⟨⟨_, B2.out⟩, rfl⟩, ?_⟩
            try simp only [Act.put, List.setIfInBounds_toArray, List.set_cons_zero, List.set_cons_succ]
            rw [wpWays_two4]
            try simp only [List.map_nil, opAt, List.getElem?_toArray, List.getElem?_cons_zero, List.getElem?_cons_succ, Option.getD_some]
            refine wpQuiet_nil ⟨?_, ?_⟩
            · go_wp2_with fail
              refine ⟨⟨⟨_, B2.out⟩, rfl⟩, ?_⟩
              try simp only [Act.put, List.setIfInBounds_toArray, List.set_cons_zero, List.set_cons_succ]
              rw [wpWays_one4]
              try simp only [List.map_nil, opAt, List.getElem?_toArray, List.getElem?_cons_zero, List.getElem?_cons_succ, Option.getD_some]
              repeat (go_big_quiet_step (fail))
              refine wpQuiet_nil ?_
              go_wp2_with fail
              refine ⟨⟨⟨_, B2.out⟩, rfl⟩, ?_⟩
              try simp only [Act.put, List.setIfInBounds_toArray, List.set_cons_zero, List.set_cons_succ]
              rw [wpWays_one4]
              try simp only [List.map_cons, List.map_nil, opAt, List.getElem?_toArray, List.getElem?_cons_zero, List.getElem?_cons_succ, Option.getD_some]
              repeat (go_big_quiet_step (fail))
              refine wpQuiet_nil ?_
              have CF := Lib.hid (on_any (D2.out.below B2.out))
              clear t1 t2
              go_wp2_with (go_at_call 16; (refine (CF.out).mono ?_); rintro e w13 ⟨rfl, rfl⟩)
              refine ⟨⟨⟨_, B2.out⟩, rfl⟩, ?_⟩
              try simp only [Act.put, List.setIfInBounds_toArray, List.set_cons_zero, List.set_cons_succ]
              rw [wpWays_done4]
              try simp only [List.map_cons, List.map_nil, opAt, List.getElem?_toArray, List.getElem?_cons_zero, List.getElem?_cons_succ, Option.getD_some]
              repeat (go_big_quiet_step (fail))
              refine wpQuiet_nil ?_
              go_wp2_with fail
              go_ret
              exact ⟨rfl, (HDW.out.below B2.out).bel⟩
            · go_wp2_with fail
              refine ⟨⟨⟨_, B2.out⟩, rfl⟩, ?_⟩
              try simp only [Act.put, List.setIfInBounds_toArray, List.set_cons_zero, List.set_cons_succ]
              rw [wpWays_one4]
              try simp only [List.map_nil, opAt, List.getElem?_toArray, List.getElem?_cons_zero, List.getElem?_cons_succ, Option.getD_some]
              repeat (go_big_quiet_step (fail))
              refine wpQuiet_nil ?_
              go_wp2_with fail
              refine ⟨⟨⟨_, B2.out⟩, rfl⟩, ?_⟩
              try simp only [Act.put, List.setIfInBounds_toArray, List.set_cons_zero, List.set_cons_succ]
              rw [wpWays_one4]
              try simp only [List.map_cons, List.map_nil, opAt, List.getElem?_toArray, List.getElem?_cons_zero, List.getElem?_cons_succ, Option.getD_some]
              repeat (go_big_quiet_step (fail))
              refine wpQuiet_nil ?_
              have CF := Lib.hid (on_any (D2.out.below B2.out))
              clear t1 t2
              go_wp2_with (go_at_call 16; (refine (CF.out).mono ?_); rintro e w13 ⟨rfl, rfl⟩)
              refine ⟨⟨⟨_, B2.out⟩, rfl⟩, ?_⟩
              try simp only [Act.put, List.setIfInBounds_toArray, List.set_cons_zero, List.set_cons_succ]
              rw [wpWays_done4]
              try simp only [List.map_cons, List.map_nil, opAt, List.getElem?_toArray, List.getElem?_cons_zero, List.getElem?_cons_succ, Option.getD_some]
              repeat (go_big_quiet_step (fail))
              refine wpQuiet_nil ?_
              go_wp2_with fail
              go_ret
              exact ⟨rfl, (HDW.out.below B2.out).bel⟩
      · have d1 : decide ((k : Int) < (rl : Int)) = false := by simp; omega
        as_aux_lemma =>
          go_upto_region 44 with fail
          obtain ⟨W0, rfl⟩ : ∃ W0, W0 = wr := ⟨_, rfl⟩
          have HIM := Lib.hid HD.out.tells.2.2.2.1
          have HST : Hid (st.length = 64 * n) := Lib.hid HD.out.tells.2.2.2.2.2.2.2.1
          have hn1 : 64 * n % 256 = 0 := by have := HN.out; omega
          have hn2 : 2048 ≤ 64 * n := by have := HN.out; omega
          have hn3 : 64 * n ≤ 131072 := by have := HN.out; omega
          have HN1 := Lib.hid hn1
          have HN2 := Lib.hid hn2
          have HN3 := Lib.hid hn3
          clear hn1 hn2 hn3
          go_upto_region 45 with (first
            | (go_at_call 19; (refine (HIM.out).mono ?_); rintro e w21 ⟨A1, c1, rfl, ho1, hb21⟩; obtain ⟨q1, rfl, hob1, hl1⟩ := ho1.ownB (by have := HN2.out; omega); have HO1 := Lib.hid hob1.bytes; have B21 := Lib.hid hb21; clear ho1 hob1 hl1 hb21)
            | (go_at_call 28; (refine (load_ok _ (64 * n) c1 st w21 HO1.out HST.out HN1.out HN2.out HN3.out (fun h => by cases h)).mono ?_); rintro e w22 ⟨g2, gs2, gn2, cs2, cn2, rfl, hD2, hb22⟩; have D2 := Lib.hid hD2; have B22 := Lib.hid hb22; clear hD2 hb22))
          have HDW := Lib.hid ((HD.out.below B21.out).below B22.out)
          refine region_ways4 w22.heap.size (Nat.le_refl _) (.one [0, 1, 2, 3, 4, 5, 6, 7, 10] 8 (.two [] 9 (.one [] 11 (.one [] 12 (.one [13, 14, 15, 16] 17 (.done [18, 19])))) 11 (.two [] 9 (.one [] 12 (.one [13, 14, 15, 16] 17 (.done [18, 19]))) 12 (.one [] 9 (.one [13, 14, 15, 16] 17 (.done [18, 19])))))) (by kernel_rfl) (by kernel_rfl) ?_
          rintro wd hbd
          have BD := Lib.hid hbd
          clear hbd
          have CD := Lib.hid (image_any (D2.out.below BD.out))
          rw [wpWays_one4]
          try simp only [List.map_cons, List.map_nil, opAt, List.getElem?_toArray, List.getElem?_cons_zero, List.getElem?_cons_succ, Option.getD_some]
          repeat (go_big_quiet_step (fail))
          refine wpQuiet_nil ?_
          go_wp2_with (go_at_call 19; (refine (CD.out).mono ?_); rintro e w11 ⟨A1, cA1, rfl, hoA1, hbA1⟩; have HA1 := Lib.hid hoA1; have B1 := Lib.hid (BD.out.trans (hbA1.mono BD.out.size)); clear hoA1 hbA1)
          have CE := Lib.hid (HDW.out.below B1.out).tells.2.2.2.2.1
          have t1 := text_dk A1 (64 * n) cA1 st HST.out HA1.out.bytes
          refine ⟨⟨⟨_, B1.out⟩, rfl⟩, ?_⟩
          try simp only [Act.put, List.setIfInBounds_toArray, List.set_cons_zero, List.set_cons_succ]
          rw [wpWays_two4]
          try simp only [List.map_nil, opAt, List.getElem?_toArray, List.getElem?_cons_zero, List.getElem?_cons_succ, Option.getD_some]
          refine wpQuiet_nil ⟨?_, ?_⟩
          · go_wp2_with fail
            refine ⟨⟨⟨_, B1.out⟩, rfl⟩, ?_⟩
            try simp only [Act.put, List.setIfInBounds_toArray, List.set_cons_zero, List.set_cons_succ]
            rw [wpWays_one4]
            try simp only [List.map_nil, opAt, List.getElem?_toArray, List.getElem?_cons_zero, List.getElem?_cons_succ, Option.getD_some]
            repeat (go_big_quiet_step (fail))
            refine wpQuiet_nil ?_
            go_wp2_with (go_at_call 27; (refine (CE.out).mono ?_); rintro e w12 ⟨A2, cA2, rfl, hoA2, hbA2⟩; have HA2 := Lib.hid hoA2; have B2 := Lib.hid (B1.out.trans (hbA2.mono B1.out.size)); have HA3 := Lib.hid (HA1.out.below hbA2); clear hoA2 hbA2)
            have t2 := text_dk A2 (64 * n) cA2 st HST.out HA2.out.bytes
            refine ⟨⟨⟨_, B2.out⟩, rfl⟩, ?_⟩
            try simp only [Act.put, List.setIfInBounds_toArray, List.set_cons_zero, List.set_cons_succ]
            rw [wpWays_one4]
            try simp only [List.map_nil, opAt, List.getElem?_toArray, List.getElem?_cons_zero, List.getElem?_cons_succ, Option.getD_some]
            repeat (go_big_quiet_step (fail))
            refine wpQuiet_nil ?_
            go_wp2_with fail
            refine ⟨⟨⟨_, B2.out⟩, rfl⟩, ?_⟩
            try simp only [Act.put, List.setIfInBounds_toArray, List.set_cons_zero, List.set_cons_succ]
            rw [wpWays_one4]
            try simp only [List.map_cons, List.map_nil, opAt, List.getElem?_toArray, List.getElem?_cons_zero, List.getElem?_cons_succ, Option.getD_some]
            repeat (go_big_quiet_step (fail))
            refine wpQuiet_nil ?_
            have CF := Lib.hid (on_any (D2.out.below B2.out))
            clear t1 t2
            go_wp2_with (go_at_call 16; (refine (CF.out).mono ?_); rintro e w13 ⟨rfl, rfl⟩)
            refine ⟨⟨⟨_, B2.out⟩, rfl⟩, ?_⟩
            try simp only [Act.put, List.setIfInBounds_toArray, List.set_cons_zero, List.set_cons_succ]
            rw [wpWays_done4]
            try simp only [List.map_cons, List.map_nil, opAt, List.getElem?_toArray, List.getElem?_cons_zero, List.getElem?_cons_succ, Option.getD_some]
            repeat (go_big_quiet_step (fail))
            refine wpQuiet_nil ?_
            go_wp2_with fail
            go_ret
            exact ⟨rfl, (HDW.out.below B2.out).bel⟩
          · go_wp2_with (go_at_call 27; (refine (CE.out).mono ?_); rintro e w12 ⟨A2, cA2, rfl, hoA2, hbA2⟩; have HA2 := Lib.hid hoA2; have B2 := Lib.hid (B1.out.trans (hbA2.mono B1.out.size)); have HA3 := Lib.hid (HA1.out.below hbA2); clear hoA2 hbA2)
            clear t1
            have t1 := text_dk A1 (64 * n) cA1 st HST.out HA3.out.bytes
            have t2 := text_dk A2 (64 * n) cA2 st HST.out HA2.out.bytes
            refine ⟨⟨⟨_, B2.out⟩, rfl⟩, ?_⟩
            try simp only [Act.put, List.setIfInBounds_toArray, List.set_cons_zero, List.set_cons_succ]
            rw [wpWays_two4]
            try simp only [List.map_nil, opAt, List.getElem?_toArray, List.getElem?_cons_zero, List.getElem?_cons_succ, Option.getD_some]
            refine wpQuiet_nil ⟨?_, ?_⟩
            · go_wp2_with fail
              refine ⟨⟨⟨_, B2.out⟩, rfl⟩, ?_⟩
              try simp only [Act.put, List.setIfInBounds_toArray, List.set_cons_zero, List.set_cons_succ]
              rw [wpWays_one4]
              try simp only [List.map_nil, opAt, List.getElem?_toArray, List.getElem?_cons_zero, List.getElem?_cons_succ, Option.getD_some]
              repeat (go_big_quiet_step (fail))
              refine wpQuiet_nil ?_
              go_wp2_with fail
              refine ⟨⟨⟨_, B2.out⟩, rfl⟩, ?_⟩
              try simp only [Act.put, List.setIfInBounds_toArray, List.set_cons_zero, List.set_cons_succ]
              rw [wpWays_one4]
              try simp only [List.map_cons, List.map_nil, opAt, List.getElem?_toArray, List.getElem?_cons_zero, List.getElem?_cons_succ, Option.getD_some]
              repeat (go_big_quiet_step (fail))
              refine wpQuiet_nil ?_
              have CF := Lib.hid (on_any (D2.out.below B2.out))
              clear t1 t2
              go_wp2_with (go_at_call 16; (refine (CF.out).mono ?_); rintro e w13 ⟨rfl, rfl⟩)
              refine ⟨⟨⟨_, B2.out⟩, rfl⟩, ?_⟩
              try simp only [Act.put, List.setIfInBounds_toArray, List.set_cons_zero, List.set_cons_succ]
              rw [wpWays_done4]
              try simp only [List.map_cons, List.map_nil, opAt, List.getElem?_toArray, List.getElem?_cons_zero, List.getElem?_cons_succ, Option.getD_some]
              repeat (go_big_quiet_step (fail))
              refine wpQuiet_nil ?_
              go_wp2_with fail
              go_ret
              exact ⟨rfl, (HDW.out.below B2.out).bel⟩
            · go_wp2_with fail
              refine ⟨⟨⟨_, B2.out⟩, rfl⟩, ?_⟩
              try simp only [Act.put, List.setIfInBounds_toArray, List.set_cons_zero, List.set_cons_succ]
              rw [wpWays_one4]
              try simp only [List.map_nil, opAt, List.getElem?_toArray, List.getElem?_cons_zero, List.getElem?_cons_succ, Option.getD_some]
              repeat (go_big_quiet_step (fail))
              refine wpQuiet_nil ?_
              go_wp2_with fail
              refine ⟨⟨⟨_, B2.out⟩, rfl⟩, ?_⟩
              try simp only [Act.put, List.setIfInBounds_toArray, List.set_cons_zero, List.set_cons_succ]
              rw [wpWays_one4]
              try simp only [List.map_cons, List.map_nil, opAt, List.getElem?_toArray, List.getElem?_cons_zero, List.getElem?_cons_succ, Option.getD_some]
              repeat (go_big_quiet_step (fail))
              refine wpQuiet_nil ?_
              have CF := Lib.hid (on_any (D2.out.below B2.out))
              clear t1 t2
              go_wp2_with (go_at_call 16; (refine (CF.out).mono ?_); rintro e w13 ⟨rfl, rfl⟩)
              refine ⟨⟨⟨_, B2.out⟩, rfl⟩, ?_⟩
              try simp only [Act.put, List.setIfInBounds_toArray, List.set_cons_zero, List.set_cons_succ]
              rw [wpWays_done4]
              try simp only [List.map_cons, List.map_nil, opAt, List.getElem?_toArray, List.getElem?_cons_zero, List.getElem?_cons_succ, Option.getD_some]
              repeat (go_big_quiet_step (fail))
              refine wpQuiet_nil ?_
              go_wp2_with fail
              go_ret
              exact ⟨rfl, (HDW.out.below B2.out).bel⟩
end
end Go.Proofs.Ytmmkmpjhmbocfaa

namespace Go.Proofs.Ytmmkmpjhmbocfaa
open Go.ChangeShapes Go.WideShapes Go.ChangeAt Go.RowKit Go.Deep
set_option linter.unusedVariables false
section
variable {w : World}
theorem diskActs_walk (z : Int) (hz : (Lit.int .i64 z).wf = true) (A : Option Addr) (c : Nat) (rs : List DA) (hrs : DActsAt w A rs) (hc : rs.length ≤ c) (hm : c ≤ maxLen) :
    Calls Try.prog 3 #[.int .i64 z, .slice A rs.length c] w fun e w' => e = .returned (.bool true) ∧ Below w.heap.size w w' := by
  by_cases h : z < 8 ∨ 512 < z
  · exact acts_few w z h _
  · obtain ⟨p, rfl⟩ := Int.eq_ofNat_of_zero_le (show 0 ≤ z by omega)
    exact acts_ok w p (by omega) (by omega) A rs.length c rs rfl (Nat.le_trans hc hm) hrs
end
end Go.Proofs.Ytmmkmpjhmbocfaa
