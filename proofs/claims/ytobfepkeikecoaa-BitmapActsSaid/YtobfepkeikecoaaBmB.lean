/- Get of package bitmap: the map whose bytes some are. -/
import Derived.Test.YtobfepkeikecoaaBmR
import Derived.Test.YtobfepkeikecoaaWays4
import Derived.Test.YtobfepkeikecoaaBmT
namespace Go.Proofs.Ytobfepkeikecoaa
open Go.RowKit PageM
set_option linter.unusedVariables false

/-- The i-th bit of a map's bytes. -/
def bitOf (xs : List UInt8) (i : Nat) : Bool := decide ((xs.getD (2 + i / 8) 0).toNat / 2 ^ (i % 8) % 2 = 1)
/-- The first k bits, as they are set in a map in which no page is in use. -/
def getN (xs : List UInt8) : Nat → List Bool
  | 0 => List.replicate 512 false
  | k + 1 => (getN xs k).set k (bitOf xs k)
theorem length_getN (xs : List UInt8) : ∀ k, (getN xs k).length = 512
  | 0 => List.length_replicate
  | k + 1 => by rw [getN, List.length_set, length_getN xs k]
/-- How many pages some bytes tell of; how many bits are looked at; which pages; and what Put makes of that. -/
def gotP (xs : List UInt8) : Nat := (xs.getD 0 0).toNat * 256 + (xs.getD 1 0).toNat
def gotL (xs : List UInt8) : Nat := min (min (gotP xs) 512) (8 * (xs.length - 2))
def gotU (xs : List UInt8) : List Bool := getN xs (gotL xs)
def bmPut (p : Int) (U : List Bool) : List UInt8 := if okM p U then bmN p.toNat U p.toNat else []
theorem and_bit8 : ∀ e, e < 8 → ∀ o, o < 256 → (bits BinOp.and IntKind.u8 (((o : Nat) : Int) / 2 ^ e) 1 == 1) = decide (o / 2 ^ e % 2 = 1) := by decide +kernel

theorem and_bit (e : Nat) (he : e < 8) (x : UInt8) : (bits BinOp.and IntKind.u8 ((x.toNat : Int) / 2 ^ e) 1 == 1) = decide (x.toNat / 2 ^ e % 2 = 1) := and_bit8 e he _ x.toNat_lt

theorem beq_bytesB (xs ys : List UInt8) : (xs == ys) = decide (xs = ys) := by
  rw [Bool.eq_iff_iff, beq_iff_eq, decide_eq_true_iff]
theorem ret_eqB {v u : Value} (h : v = u) : Ending.returned v = Ending.returned u := by rw [h]
theorem equal_b (A B : Option Addr) (c d n m : Nat) (xs ys : List UInt8) (w : World) (hn : xs.length = n) (hm : ys.length = m) (hx : BytesAt w A xs) (hy : BytesAt w B ys) :
    Calls Try.prog 42 #[.slice A n c, .slice B m d] w fun e w' => e = .returned (.bool (decide (xs = ys))) ∧ w = w' := by
  subst hn
  subst hm
  have e1 := run_text (P := Try.prog) 42 9 Try.underlying42 Try.underlying5 Try.underlying9 A c hx
  have e2 := run_text (P := Try.prog) 42 9 Try.underlying42 Try.underlying5 Try.underlying9 B d hy
  go_enter Try.func42, Try.ntmps42
  go_wp2_with fail
  go_ret
  refine ⟨ret_eqB ?_, rfl⟩
  exact congrArg Value.bool (beq_bytesB xs ys)

theorem bytes_get {w : World} {ab ao : Nat} {xs : List UInt8} (h : BytesAt w (some ⟨ab, ao, none⟩) xs) (i : Nat) (hi : i < xs.length) : w.cell? ⟨ab, ao + i, none⟩ = some (.int .u8 ((xs.getD i 0).toNat : Int)) := by
  obtain ⟨b, o, he, hc⟩ := h (fun h0 => by subst h0; simp at hi)
  injection he with he
  injection he with h1 h2 _
  subst h1 h2
  rw [hc i hi]
  congr 3
  rw [List.getD_eq_getElem?_getD, List.getElem?_eq_getElem hi]
  rfl
theorem results_cell_tmpB {P : Program} {fn : Func} {p u : Tmp} {ty : TypeId} (h : fn.results = #[.cell p ty, .tmp u]) (tmps : Array Value) (w : World) (g : Nat) (t : TypeId) (cs : Array Value) (fr : Nat × Nat) (d : TypeDesc)
    (hp : tmps.getD p undef = .pointer (some ⟨g, 0, none⟩)) (hg : w.heap[g]? = some (.cells cs t fr))
    (hu : P.underlying ty = some d) (hd : (match d with | .struct _ | .array _ _ => true | _ => false) = true) (hi : (P.info? ty).map (·.size) = some cs.size) :
    (results fn tmps).run P w = .ok (.tuple #[.agg cs, tmps.getD u undef]) w := by
  have hp' : tmps[p]?.getD undef = .pointer (some ⟨g, 0, none⟩) := by simpa using hp
  simp [results, h, hp', asAddr, run_loadVar_row w g t ty cs fr d hg hu hd hi]
theorem one_zeroMap : (Try.zeroCells25).all (·.oneCell') = true := by rw [zeroMap]; exact one_mapC _ _
theorem infoZero : (Try.prog.info? 25).map (·.size) = some (Try.zeroCells25).size := infoMap.trans (congrArg some size_zeroMap.symm)
theorem or_two (a : Nat) (ha : a < 256) (b : Nat) (hb : b < 256) : bits BinOp.or IntKind.i64 (wrap64 (wrap64 ((a : Nat) : Int) * 256)) (wrap64 ((b : Nat) : Int)) = ((a * 256 + b : Nat) : Int) := by
  have e1 : wrap64 (wrap64 ((a : Nat) : Int) * 256) = ((a * 256 : Nat) : Int) := by unfold wrap64; omega
  have e2 : wrap64 ((b : Nat) : Int) = (b : Int) := by unfold wrap64; omega
  rw [e1, e2]
  have hx : a * 256 ||| b < 2 ^ 16 := Nat.or_lt_two_pow (by omega) (by omega)
  have h3 : bits BinOp.or IntKind.i64 ((a * 256 : Nat) : Int) ((b : Nat) : Int) = ((a * 256 ||| b : Nat) : Int) := by
    show IntKind.i64.wrap ((BitVec.ofInt 64 ((a * 256 : Nat) : Int) ||| BitVec.ofInt 64 ((b : Nat) : Int)).toNat : Int) = _
    rw [BitVec.toNat_or, ofInt_u64 _ (by omega), ofInt_u64 _ (by omega), IntKind.wrap_i64]
    omega
  rw [h3, nat_join 8 (a * 256) b (by omega) (by omega)]
theorem cell_lt {w : World} {a : Addr} {v : Value} (h : w.cell? a = some v) : a.block < w.heap.size := by
  rcases Nat.lt_or_ge a.block w.heap.size with h0 | h0
  · exact h0
  · simp [World.cell?, Array.getElem?_eq_none h0] at h

set_option maxHeartbeats 4000000 in
set_option maxRecDepth 100000 in
theorem get_bm (A : Option Addr) (cap n : Nat) (xs : List UInt8) (w : World) (hn : xs.length = n) (h2 : 2 ≤ n) (hm : n ≤ 100000) (hx : BytesAt w A xs) (hc : n ≤ cap) (RC : Array Value) (rn : Nat)
    (hrc : RC = if bmPut (gotP xs : Int) (gotU xs) = xs then mapC (gotP xs : Int) (gotU xs) else mapC 0 (List.replicate 512 false)) (hrn : rn = if bmPut (gotP xs : Int) (gotU xs) = xs then 0 else 3) :
    Calls Try.prog 17 #[.slice A n cap] w fun e w' => e = .returned (.tuple #[.agg RC, .int .i64 (rn : Int)]) ∧ Below w.heap.size w w' := by
  obtain ⟨ab, ao, rfl, hcell⟩ := hx (by intro h0; subst h0; simp at hn; omega)
  have hb1 : Below w.heap.size w (w.alloc (.cells Try.zeroCells25 25)) := (Below.refl _ _).alloc (Nat.le_refl _) _
  have hlt0 : ab < w.heap.size := cell_lt (hcell 0 (by omega))
  have hz : Hid ((w.alloc (.cells Try.zeroCells25 25)).heap[w.heap.size]? = some (.cells Try.zeroCells25 25 (0, 0))) := Lib.hid (heap_alloc_new _ _)
  have HX1 : Hid (BytesAt (w.alloc (.cells Try.zeroCells25 25)) (some ⟨ab, ao, none⟩) xs) := Lib.hid (hx.below hb1)
  obtain ⟨x0, hx0⟩ : ∃ x, x = xs.getD 0 0 := ⟨_, rfl⟩
  obtain ⟨x1, hx1⟩ : ∃ x, x = xs.getD 1 0 := ⟨_, rfl⟩
  have cell0 : ∀ i, (hi : i < n) → (w.alloc (.cells Try.zeroCells25 25)).cell? ⟨ab, ao + i, none⟩ = some (.int .u8 ((xs.getD i 0).toNat : Int)) := fun i hi => by
    rw [World.cell?_of_block (a := ⟨ab, ao + i, none⟩) (hb1.block ab hlt0), hcell i (by omega)]
    congr 3
    rw [List.getD_eq_getElem?_getD, List.getElem?_eq_getElem (by omega)]
    rfl
  obtain ⟨W1, eW⟩ : ∃ W1, W1 = w.alloc (.cells Try.zeroCells25 25) := ⟨_, rfl⟩
  have hs1 : W1.heap.size = w.heap.size + 1 := by rw [eW]; simp
  have EW := Lib.hid eW.symm
  rw [← eW] at hb1 hz HX1 cell0
  have hab1 : ab < W1.heap.size := by omega
  have f0 : ∀ y : SubW W1.heap.size W1, y.at_.cell? ⟨ab, ao, none⟩ = some (.int .u8 (x0.toNat : Int)) := fun y => by
    rw [World.cell?_of_block (a := ⟨ab, ao, none⟩) (y.ok_.block ab hab1), hx0]
    exact cell0 0 (by omega)
  have f1 : ∀ y : SubW W1.heap.size W1, y.at_.cell? ⟨ab, ao + 1, none⟩ = some (.int .u8 (x1.toNat : Int)) := fun y => by
    rw [World.cell?_of_block (a := ⟨ab, ao + 1, none⟩) (y.ok_.block ab hab1), hx1]
    exact cell0 1 (by omega)
  have hPg : gotP xs = x0.toNat * 256 + x1.toNat := by rw [hx0, hx1]; rfl
  have HPG := Lib.hid hPg
  have HRC := Lib.hid hrc
  have HRN := Lib.hid hrn
  have HB1 := Lib.hid hb1
  have HXX := Lib.hid hx
  have HN := Lib.hid hn
  have h2i : decide ((n : Int) < 2) = false := by simp; omega
  clear hrc hrn hPg eW hb1 hcell hx0 hx1 cell0 hx hn
  go_enter Try.func17, Try.ntmps17
  go_upto_region 3 with fail
  rw [EW.out]
  refine region_ways4 W1.heap.size (Nat.le_refl _) (.one [0, 1, 2, 3, 4, 5, 6, 7, 8, 9, 10] 11 (.one [] 12 (.done []))) (by kernel_rfl) (by kernel_rfl) ?_
  rintro w0 hbd
  rw [wpWays_one4]
  try simp only [List.map_cons, List.map_nil, opAt, List.getElem?_toArray, List.getElem?_cons_zero, List.getElem?_cons_succ, Option.getD_some]
  repeat (go_big_quiet_step (fail))
  refine wpQuiet_nil ?_
  obtain ⟨p, hp⟩ : ∃ p, p = gotP xs := ⟨_, rfl⟩
  have hor := or_two _ x0.toNat_lt _ x1.toNat_lt
  rw [← HPG.out, ← hp] at hor
  rw [hor, built_map]
  obtain ⟨C0, eC0⟩ : ∃ C0, C0 = mapC (p : Int) (List.replicate 512 false) := ⟨_, rfl⟩
  have hS0 : Hid (some 513 = some C0.size) := Lib.hid (by rw [eC0, size_mapC List.length_replicate])
  have hO0 : Hid (C0.all (·.oneCell') = true) := Lib.hid (by rw [eC0]; exact one_mapC _ _)
  have EC0 := Lib.hid eC0
  rw [← eC0]
  clear eC0 f0 f1 hor
  go_wp2_with fail
  have b1 := hbd.alloc hbd.size (.cells Try.zeroCells25 25)
  refine ⟨⟨⟨_, b1⟩, rfl⟩, ?_⟩
  try simp only [Act.put, List.setIfInBounds_toArray, List.set_cons_zero, List.set_cons_succ]
  rw [wpWays_one4]
  try simp only [List.map_nil, opAt, List.getElem?_toArray, List.getElem?_cons_zero, List.getElem?_cons_succ, Option.getD_some]
  refine wpQuiet_nil ?_
  go_wp2_with (refine wpList_store_row rfl 25 (.tmp 4) (.tmp 20) rfl w0.heap.size C0 rfl rfl 25 Try.zeroCells25 (heap_alloc_new _ _) (infoMap.trans hS0.out) (size_zeroMap.trans (Option.some.inj hS0.out)) hO0.out ?_; rw [World.setRow_alloc_new])
  have b2 := hbd.alloc hbd.size (.cells C0 25)
  refine ⟨⟨⟨_, b2⟩, rfl⟩, ?_⟩
  try simp only [Act.put, List.setIfInBounds_toArray, List.set_cons_zero, List.set_cons_succ]
  rw [wpWays_done4]
  try simp only [List.map_nil]
  refine wpQuiet_nil ?_
  obtain ⟨g4, hg4⟩ : ∃ g4, g4 = w0.heap.size := ⟨_, rfl⟩
  rw [← hg4]
  obtain ⟨W2, eW2⟩ : ∃ W2, W2 = w0.alloc (.cells C0 25) := ⟨_, rfl⟩
  rw [← eW2] at b2 ⊢
  have hm0 : MapAt W2 g4 25 (p : Int) (getN xs 0) := by rw [eW2, hg4, EC0.out]; exact MapAt.new w0 _ _ _
  have hg41 : W1.heap.size ≤ g4 := by rw [hg4]; exact hbd.size
  have c0 := hm0.c0
  obtain ⟨lim, hlim⟩ : ∃ lim, lim = gotL xs := ⟨_, rfl⟩
  have hmin : lim = min (min p 512) (8 * (n - 2)) := by
    rw [hlim]
    unfold gotL
    rw [HN.out, ← hp]
  have hl5 : lim ≤ 512 ∧ lim ≤ 8 * (n - 2) := by
    rw [hlim]; unfold gotL; rw [HN.out]; omega
  have HM0 := Lib.hid hm0
  have HL := Lib.hid hlim
  have HP := Lib.hid hp
  have HB2 := Lib.hid b2
  clear b1 eW2 hbd hm0 hlim hp hg4
  go_upto_region 4 with fail
  go_cut [27, 28] (fun s27 s28 wx => s27 = .int .i64 (lim : Int) ∧ s28 = .int .i64 0 ∧ wx = W2)
  case first =>
    go_wp2_with fail
    all_goals go_meet
    all_goals exact ⟨congrArg (Value.int .i64) (by omega), rfl, rfl⟩
  case rest =>
    obtain ⟨rfl, rfl, hwc⟩ := hcut
    subst hwc
    clear c0
    go_wp2_with fail
    go_loopw [28] (fun i wr => ∃ k : Nat, k ≤ lim ∧ i = .int .i64 k ∧ Hid (MapAt wr g4 25 (p : Int) (getN xs k)) ∧ Hid (Below W1.heap.size W1 wr)) (fun i _ => lim - (intOf i).toNat)
    case atStart => exact ⟨0, by omega, rfl, HM0, HB2⟩
    case round =>
      obtain ⟨k, hk, rfl, hm, hB⟩ := hrel
      by_cases hlt : k < lim
      · obtain ⟨j, hj⟩ : ∃ j, j = 2 + k / 8 := ⟨_, rfl⟩
        obtain ⟨e, he⟩ : ∃ e, e = k % 8 := ⟨_, rfl⟩
        have hji : (2 : Int) + (k : Int) / 8 = (j : Int) := by omega
        have hei : (k : Int) % 8 = (e : Int) := by omega
        have he8 : e < 8 := by omega
        have hjn : j < n := by omega
        have hjn' : (j : Int) < (n : Int) := by omega
        obtain ⟨x, hx⟩ : ∃ x, x = xs.getD j 0 := ⟨_, rfl⟩
        have cb := bytes_get (HX1.out.below hB.out) j (by rw [HN.out]; omega)
        rw [← hx] at cb
        have cm := hm.out.cs k (by rw [length_getN]; omega)
        have cf := hm.out.fr (1 + k)
        have hbit : bitOf xs k = decide (x.toNat / 2 ^ e % 2 = 1) := by rw [hx, hj, he]; rfl
        obtain ⟨bb, hbb⟩ : ∃ bb, bb = decide (x.toNat / 2 ^ e % 2 = 1) := ⟨_, rfl⟩
        have hand := and_bit e he8 x
        rw [← hbb] at hand hbit
        have HBIT := Lib.hid hbit
        clear hbit hbb hx hj he
        go_wp2_with fail
        go_roundw
        case rel => exact ⟨k + 1, by omega, by go_num, Lib.hid (by have := hm.out.set k bb; rw [← HBIT.out] at this; rw [← HBIT.out]; exact this), Lib.hid (below_setCM hB.out hg41)⟩
        case measure => simp [intOf]; omega
      · obtain rfl : k = lim := by omega
        obtain ⟨U, hU⟩ : ∃ U, U = getN xs k := ⟨_, rfl⟩
        have hm' := hm.out
        rw [← hU] at hm'
        have hUl : U.length = 512 := by rw [hU]; exact length_getN xs k
        have hgU : gotU xs = U := by rw [hU, HL.out]; rfl
        have hrc := HRC.out
        have hrn := HRN.out
        rw [hgU, ← HP.out] at hrc hrn
        obtain ⟨C, eC⟩ : ∃ C, C = mapC (p : Int) U := ⟨_, rfl⟩
        unfold MapAt at hm'
        rw [← eC] at hm' hrc
        have hS : Hid (some 513 = some C.size) := Lib.hid (by rw [eC, size_mapC hUl])
        have hO : Hid (C.all (·.oneCell') = true) := Lib.hid (by rw [eC]; exact one_mapC _ _)
        have HM := Lib.hid hm'
        have EC := Lib.hid eC
        have hz4 : wr.heap[w.heap.size]? = some (.cells Try.zeroCells25 25 (0, 0)) := (hB.out.block _ (by omega)).trans hz.out
        have HZ4 := Lib.hid hz4
        have hBw : Below w.heap.size w wr := HB1.out.trans (hB.out.mono (by omega))
        have HXR := Lib.hid (HXX.out.below hBw)
        have hg4l : g4 < wr.heap.size := (Array.getElem?_eq_some_iff.1 HM.out).1
        have HRC' := Lib.hid hrc
        have HRN' := Lib.hid hrn
        have hwl : w.heap.size < wr.heap.size := by omega
        clear hm' eC hz4 hrc hrn hgU hU hm hB
        by_cases hok : okM (p : Int) U
        · obtain ⟨n4, hn4⟩ : ∃ n4, n4 = 2 + (p + 7) / 8 := ⟨_, rfl⟩
          have HPT : Hid (∀ W, Calls Try.prog 16 #[.agg C] W fun e w' => ∃ q, e = .returned (.slice (some ⟨q, 0, none⟩) n4 n4) ∧ OwnB w' (W.heap.size + 1) q n4 5 (bmN p U p) ∧ Below W.heap.size W w') := Lib.hid (fun W => put_bm p U hUl hok W C EC.out n4 hn4)
          have hlp : (bmN p U p).length = n4 := by rw [length_bmN, hn4]
          have hbp : bmPut (p : Int) U = bmN p U p := by unfold bmPut; rw [if_pos hok, Int.toNat_natCast]
          obtain ⟨X, hX⟩ : ∃ X, X = bmN p U p := ⟨_, rfl⟩
          rw [← hX] at HPT hlp hbp
          rw [hbp] at HRC' HRN'
          have HLP := Lib.hid hlp
          clear hok hn4 hX hlp hbp
          by_cases heq : X = xs
          · have hd : decide (X = xs) = true := by simpa using heq
            have HF : Hid (RC = C ∧ rn = 0) := Lib.hid ⟨by rw [HRC'.out, if_pos heq], by rw [HRN'.out, if_pos heq]⟩
            have HD := Lib.hid hd
            clear heq hd HRC' HRN'
            go_wp2_with (first
              | (refine wpList_load_row rfl 25 (.tmp 4) rfl g4 rfl 25 C (0, 0) _ HM.out Try.underlying25 rfl (infoMap.trans hS.out) ?_)
              | (go_at_call 16; (refine (HPT.out _).mono ?_); rintro e w5 ⟨q5, rfl, ho5, hb5⟩)
              | (go_at_call 42; (refine (equal_b _ _ _ _ _ _ X xs _ HLP.out HN.out ho5.bytes (HXR.out.below hb5)).mono ?_); rintro e w6 ⟨rfl, rfl⟩; rw [HD.out])
              | (refine wpList_load_row rfl 25 (.tmp 4) rfl g4 rfl 25 C (0, 0) _ ((hb5.block _ hg4l).trans HM.out) Try.underlying25 rfl (infoMap.trans hS.out) ?_)
              | (refine wpList_store_row rfl 25 (.tmp 2) (.tmp 52) rfl w.heap.size C rfl rfl 25 Try.zeroCells25 ((hb5.block _ hwl).trans HZ4.out) (infoMap.trans hS.out) (size_zeroMap.trans (Option.some.inj hS.out)) hO.out ?_))
            refine bodyPost_ret (v := .tuple #[.agg C, .int .i64 0]) (results_cell_tmpB (p := 2) (u := 3) (ty := 25) rfl _ _ w.heap.size 25 C (0, 0) _ rfl (setRow_heap _ _ _ _ _ _ ((hb5.block _ hwl).trans HZ4.out)) Try.underlying25 rfl (infoMap.trans hS.out)) rfl ⟨?_, below_setRow (hBw.trans (hb5.mono hBw.size)) (Nat.le_refl _) _⟩
            rw [HF.out.1, HF.out.2]
            rfl
          · have hd : decide (X = xs) = false := by simpa using heq
            have HF : Hid (RC = mapC 0 (List.replicate 512 false) ∧ rn = 3) := Lib.hid ⟨by rw [HRC'.out, if_neg heq], by rw [HRN'.out, if_neg heq]⟩
            have HD := Lib.hid hd
            clear heq hd HRC' HRN'
            go_wp2_with (first
              | (refine wpList_load_row rfl 25 (.tmp 4) rfl g4 rfl 25 C (0, 0) _ HM.out Try.underlying25 rfl (infoMap.trans hS.out) ?_)
              | (go_at_call 16; (refine (HPT.out _).mono ?_); rintro e w5 ⟨q5, rfl, ho5, hb5⟩)
              | (go_at_call 42; (refine (equal_b _ _ _ _ _ _ X xs _ HLP.out HN.out ho5.bytes (HXR.out.below hb5)).mono ?_); rintro e w6 ⟨rfl, rfl⟩; rw [HD.out])
              | (refine wpList_store_row rfl 25 (.tmp 2) (.tmp 51) rfl w.heap.size Try.zeroCells25 rfl rfl 25 Try.zeroCells25 ((hb5.block _ hwl).trans HZ4.out) infoZero rfl one_zeroMap ?_))
            refine bodyPost_ret (v := .tuple #[.agg Try.zeroCells25, .int .i64 3]) (results_cell_tmpB (p := 2) (u := 3) (ty := 25) rfl _ _ w.heap.size 25 Try.zeroCells25 (0, 0) _ rfl (setRow_heap _ _ _ _ _ _ ((hb5.block _ hwl).trans HZ4.out)) Try.underlying25 rfl infoZero) rfl ⟨?_, below_setRow (hBw.trans (hb5.mono hBw.size)) (Nat.le_refl _) _⟩
            rw [HF.out.1, HF.out.2, zeroMap]
            rfl
        · have HPT : Hid (∀ W, Calls Try.prog 16 #[.agg C] W fun e w' => e = .returned (.slice none 0 0) ∧ Below W.heap.size W w') := Lib.hid (fun W => put_no (p : Int) U hUl hok W C EC.out)
          have hbp : bmPut (p : Int) U = [] := if_neg hok
          have heq : ¬ ([] : List UInt8) = xs := fun h => by have := HN.out; rw [← h] at this; simp at this; omega
          rw [hbp] at HRC' HRN'
          have hd : decide (([] : List UInt8) = xs) = false := decide_eq_false heq
          have HF : Hid (RC = mapC 0 (List.replicate 512 false) ∧ rn = 3) := Lib.hid ⟨by rw [HRC'.out, if_neg heq], by rw [HRN'.out, if_neg heq]⟩
          have HD := Lib.hid hd
          clear heq hd HRC' HRN' hok hbp
          go_wp2_with (first
            | (refine wpList_load_row rfl 25 (.tmp 4) rfl g4 rfl 25 C (0, 0) _ HM.out Try.underlying25 rfl (infoMap.trans hS.out) ?_)
            | (go_at_call 16; (refine (HPT.out _).mono ?_); rintro e w5 ⟨rfl, hb5⟩)
            | (go_at_call 42; (refine (equal_b none _ _ _ 0 _ [] xs _ rfl HN.out (fun h => absurd rfl h) (HXR.out.below hb5)).mono ?_); rintro e w6 ⟨rfl, rfl⟩; rw [HD.out])
            | (refine wpList_store_row rfl 25 (.tmp 2) (.tmp 51) rfl w.heap.size Try.zeroCells25 rfl rfl 25 Try.zeroCells25 ((hb5.block _ hwl).trans HZ4.out) infoZero rfl one_zeroMap ?_))
          refine bodyPost_ret (v := .tuple #[.agg Try.zeroCells25, .int .i64 3]) (results_cell_tmpB (p := 2) (u := 3) (ty := 25) rfl _ _ w.heap.size 25 Try.zeroCells25 (0, 0) _ rfl (setRow_heap _ _ _ _ _ _ ((hb5.block _ hwl).trans HZ4.out)) Try.underlying25 rfl infoZero) rfl ⟨?_, below_setRow (hBw.trans (hb5.mono hBw.size)) (Nat.le_refl _) _⟩
          rw [HF.out.1, HF.out.2, zeroMap]
          rfl
end Go.Proofs.Ytobfepkeikecoaa
