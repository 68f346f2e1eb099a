/- Several texts in one: Calls of no disk. DiskActs: the fates of an act. DiskActs: its row of acts. DiskActs: what the code's disk answers besides; it and the reference's beside each other. DiskActs: both disks' Writes and Flushes together. DiskActs: both disks' Flushes, Crashes, Fails, Reads; what both tell. DiskActs: both disks at the start. DiskActs: its beginning, where no disk is made. DiskActs: fates and both Crashes. -/
import Derived.Test.YtmmkmpjhmbocfaaPartG
import Derived.Test.YtmmkmpjhmbocfaaBoolRow
import Derived.Deep.CutRange
import Derived.Test.YtmmkmpjhmbocfaaRowKit
import Derived.Deep.SlicePairs
import Derived.Test.YtmmkmpjhmbocfaaPartD
import Derived.Test.YtmmkmpjhmbocfaaPartF
import Derived.Deep.AppendLies
namespace Go.Proofs.Ytmmkmpjhmbocfaa
open Go.ChangeShapes Go.WideShapes Go.ChangeAt Go.RowKit
set_option linter.unusedVariables false
section
variable (w : World)
set_option maxRecDepth 100000
theorem nil_none : Calls Try.prog 9 #[] w fun e w' => e = .returned (.pointer none) ∧ w' = w := by
  go_enter Try.func9, Try.ntmps9
  go_wp2_with fail
  go_ret
  exact ⟨rfl, rfl⟩
theorem nil_refused : Calls Try.prog 49 #[.pointer none] w fun e w' => e = .returned (.int .i64 1) ∧ w' = w := by
  go_enter Try.func49, Try.ntmps49
  go_wp2_with fail
  go_ret
  exact ⟨rfl, rfl⟩
theorem nil_fail (z : Int) : Calls Try.prog 10 #[.pointer none, .int .i64 z] w fun e w' => e = .returned (.tuple #[]) ∧ w' = w := by
  go_enter Try.func10, Try.ntmps10
  go_wp2_with (go_at_call 49; (refine (nil_refused _).mono ?_); rintro e w1 ⟨rfl, rfl⟩)
  exact bodyPost_ret (v := .tuple #[]) (results_none rfl _ _ _) rfl ⟨rfl, rfl⟩
theorem nil_crash : Calls Try.prog 11 #[.pointer none, .slice none 0 0] w fun e w' => e = .returned (.tuple #[]) ∧ w' = w := by
  go_enter Try.func11, Try.ntmps11
  go_wp2_with fail
  exact bodyPost_ret (v := .tuple #[]) (results_none rfl _ _ _) rfl ⟨rfl, rfl⟩
theorem nil_read (z : Int) : Calls Try.prog 12 #[.pointer none, .int .i64 z] w fun e w' => e = .returned (.tuple #[.slice none 0 0, .int .i64 1]) ∧ w' = w := by
  go_enter Try.func12, Try.ntmps12
  go_wp2_with (go_at_call 49; (refine (nil_refused _).mono ?_); rintro e w1 ⟨rfl, rfl⟩)
  go_ret2
  exact ⟨rfl, rfl⟩
theorem nil_write (z : Int) (v : Value) : Calls Try.prog 14 #[.pointer none, .int .i64 z, v] w fun e w' => e = .returned (.int .i64 1) ∧ w' = w := by
  go_enter Try.func14, Try.ntmps14
  go_wp2_with (go_at_call 49; (refine (nil_refused _).mono ?_); rintro e w1 ⟨rfl, rfl⟩)
  go_ret
  exact ⟨rfl, rfl⟩
theorem nil_flush : Calls Try.prog 15 #[.pointer none] w fun e w' => e = .returned (.int .i64 1) ∧ w' = w := by
  go_enter Try.func15, Try.ntmps15
  go_wp2_with (go_at_call 49; (refine (nil_refused _).mono ?_); rintro e w1 ⟨rfl, rfl⟩)
  go_ret
  exact ⟨rfl, rfl⟩
theorem nil_on : Calls Try.prog 16 #[.pointer none] w fun e w' => e = .returned (.bool false) ∧ w' = w := by
  go_enter Try.func16, Try.ntmps16
  go_wp2_with fail
  go_ret
  exact ⟨rfl, rfl⟩
theorem nil_pages : Calls Try.prog 17 #[.pointer none] w fun e w' => e = .returned (.int .i64 0) ∧ w' = w := by
  go_enter Try.func17, Try.ntmps17
  go_wp2_with fail
  go_ret
  exact ⟨rfl, rfl⟩
theorem nil_waiting : Calls Try.prog 18 #[.pointer none] w fun e w' => e = .returned (.int .i64 0) ∧ w' = w := by
  go_enter Try.func18, Try.ntmps18
  go_wp2_with fail
  go_ret
  exact ⟨rfl, rfl⟩
theorem nil_image : Calls Try.prog 19 #[.pointer none] w fun e w' => e = .returned (.slice none 0 0) ∧ w' = w := by
  go_enter Try.func19, Try.ntmps19
  go_wp2_with fail
  go_ret
  exact ⟨rfl, rfl⟩
end
end Go.Proofs.Ytmmkmpjhmbocfaa

namespace Go.Proofs.Ytmmkmpjhmbocfaa
open Go.ChangeShapes Go.WideShapes Go.ChangeAt Go.RowKit
set_option linter.unusedVariables false

def ftC (p : Bool × Nat) : List Value := [.bool p.1, .int .u8 (p.2 : Int)]
theorem ftC_one (p : Bool × Nat) : ∀ u ∈ ftC p, u.oneCell' = true := by
  intro u hu
  rcases List.mem_cons.1 hu with rfl | h
  · rfl
  · rcases List.mem_cons.1 h with rfl | h
    · rfl
    · cases h
theorem infoFt : (Try.prog.info? 95).map (fun i => (i.zero, i.size, i.bytes)) = some (some (.agg #[.bool false, .int .u8 0]), 2, 2) := by kernel_rfl
theorem ft_take (fs : List (Bool × Nat)) (j : Nat) (p : Bool × Nat) (h : fs[j]? = some p) : (fs.take (j + 1)).flatMap ftC = (fs.take j).flatMap ftC ++ ftC p := by
  obtain ⟨hj, rfl⟩ := List.getElem?_eq_some_iff.1 h
  rw [List.take_succ_eq_append_getElem hj, List.flatMap_append]
  simp
theorem ft_cells : ∀ (fs : List (Bool × Nat)) (j : Nat) (p : Bool × Nat), fs[j]? = some p → (fs.flatMap ftC)[j * 2]? = some (.bool p.1) ∧ (fs.flatMap ftC)[j * 2 + 1]? = some (.int .u8 (p.2 : Int))
  | [], j, p, h => by simp at h
  | q :: fs, 0, p, h => by
    simp at h
    subst h
    exact ⟨rfl, rfl⟩
  | q :: fs, j + 1, p, h => by
    have ih := ft_cells fs j p (by simpa using h)
    have e : (q :: fs).flatMap ftC = (.bool q.1) :: (.int .u8 (q.2 : Int)) :: fs.flatMap ftC := rfl
    rw [e, show (j + 1) * 2 = j * 2 + 1 + 1 by omega, show j * 2 + 1 + 1 + 1 = (j * 2 + 1) + 1 + 1 by omega]
    simpa using ih
theorem own_base {w : World} {base b2 : Nat} {E : TypeId} {sz m : Nat} {v : Value} {us : List Value} (h : w.ownsRow base E sz v m us) (hb : b2 ≤ base) : w.ownsRow b2 E sz v m us := by
  refine ⟨h.1, ?_⟩
  rcases h.2 with hn | ⟨g, cap, cur, rfl, hg, rest⟩
  · exact .inl hn
  · exact .inr ⟨g, cap, cur, rfl, Nat.le_trans hb hg, rest⟩
theorem own_cap {w : World} {base : Nat} {E : TypeId} {sz m c : Nat} {A : Option Addr} {us : List Value} (h : w.ownsRow base E sz (.slice A m c) m us) : m ≤ c ∧ c ≤ maxLen := by
  rcases h.2 with ⟨h1, h2⟩ | ⟨g, cap, cur, hv, _, _, h3, h4, _⟩
  · injection h1 with h5 h6 h7
    unfold maxLen
    omega
  · injection hv with h5 h6 h7
    subst h7
    exact ⟨h3, h4⟩
theorem slice_upto (t : TypeId) (hu : Try.prog.underlying t = some (.slice (Try.prog.elem t))) (hsz : (Try.prog.info? (Try.prog.elem t)).map (·.size) = some 1) (A : Option Addr) (n c j : Nat) (hj : j ≤ c) (w : World) :
    (Instr.sliceAt t (.slice A n c) none (some (.int .i64 (j : Int))) none).run Try.prog w = .ok (.slice A j c) w := by
  have hz : (sizeOf (Try.prog.elem t)).run Try.prog w = .ok 1 w := by
    cases hq : Try.prog.info? (Try.prog.elem t) with
    | none => rw [hq] at hsz; cases hsz
    | some i => rw [hq] at hsz; simp at hsz; simp [sizeOf, typeInfo, hq, hsz]
  rw [run_sliceAt_slice (t := t) (h := hu), run_slice_h (t := t) (ht := hu) (h0 := by omega) (h2 := by omega), hz]
  have ha : ∀ a : Addr, a.add 0 = a := fun a => by unfold Addr.add; split <;> simp_all
  have hm : A.map (fun x => x.add (0 * 1)) = A := by cases A <;> simp [ha]
  simp only [Result.andThen_ok, sliced, Int.toNat_natCast, Nat.sub_zero, hm, ite_self]
/-- The fates that two rows tell of, as many as both tell and 40 at most. -/
def fatesOf (bs : List Bool) (ts : List UInt8) : List (Bool × Nat) := (bs.zip (ts.map UInt8.toNat)).take 40
theorem fatesOf_len (bs : List Bool) (ts : List UInt8) : (fatesOf bs ts).length = min (min bs.length ts.length) 40 := by
  unfold fatesOf
  rw [List.length_take, List.length_zip, List.length_map]
  omega
theorem fatesOf_at (bs : List Bool) (ts : List UInt8) (j : Nat) (p : Bool × Nat) (h : (fatesOf bs ts)[j]? = some p) : bs[j]? = some p.1 ∧ (∃ t, ts[j]? = some t ∧ p.2 = t.toNat) := by
  have hj := (List.getElem?_eq_some_iff.1 h).1
  rw [fatesOf_len] at hj
  unfold fatesOf at h
  rw [List.getElem?_take, if_pos (by omega)] at h
  have h1 : j < bs.length := by omega
  have h2 : j < ts.length := by omega
  rw [List.getElem?_eq_getElem (by rw [List.length_zip, List.length_map]; omega), List.getElem_zip] at h
  injection h with h
  subst h
  exact ⟨List.getElem?_eq_getElem h1, ts[j], List.getElem?_eq_getElem h2, by simp⟩

set_option maxHeartbeats 4000000 in
set_option maxRecDepth 100000 in
theorem fates_any (zw zi : Int) (vB : Value) (KA TA : Option Addr) (kl kc tl tc : Nat) (bs : List Bool) (ts : List UInt8) (w : World) (hkl : bs.length = kl) (htl : ts.length = tl) (hkc : kl ≤ kc) (htc : tl ≤ tc) (hkm : kc ≤ maxLen) (htm : tc ≤ maxLen) (hb : BoolsAt w KA bs) (ht : BytesAt w TA ts)
    (hk0 : KA = none → kc = 0) (ht0 : TA = none → tc = 0) (nf : Nat) (hnf : nf = (fatesOf bs ts).length) :
    Calls Try.prog 25 #[.agg #[.int .i64 zw, .int .i64 zi, vB, .slice KA kl kc, .slice TA tl tc]] w fun e w' => (∃ FA fc, e = .returned (.tuple #[.slice FA nf fc, .slice KA nf kc, .slice TA nf tc]) ∧ nf ≤ fc ∧ fc ≤ maxLen ∧ w'.ownsRow w.heap.size 95 2 (.slice FA nf fc) nf ((fatesOf bs ts).flatMap ftC)) ∧ Below w.heap.size w w' := by
  unfold maxLen at hkm htm
  obtain ⟨iw, hiw, hiz, his, hib⟩ := info_parts infoFt
  obtain ⟨FS, eFS⟩ : ∃ FS, FS = fatesOf bs ts := ⟨_, rfl⟩
  have hfl := fatesOf_len bs ts
  rw [← eFS] at hfl hnf ⊢
  have hnmin : nf = min (min kl tl) 40 := by omega
  have hnk : nf ≤ kl := by omega
  have hnt : nf ≤ tl := by omega
  have hn40 : nf ≤ 40 := by omega
  obtain ⟨W, eW⟩ : ∃ W, W = w.alloc (.cells #[.int .i64 zw, .int .i64 zi, vB, .slice KA kl kc, .slice TA tl tc] 42) := ⟨_, rfl⟩
  have hrow : W.heap[w.heap.size]? = some (.cells #[.int .i64 zw, .int .i64 zi, vB, .slice KA kl kc, .slice TA tl tc] 42 (0, 0)) := by rw [eW]; exact heap_alloc_new _ _
  have hbel : Below w.heap.size w W := by rw [eW]; exact (Below.refl _ _).alloc (Nat.le_refl _) _
  have k3 := blk_cell hrow 3 _ rfl
  have k4 := blk_cell hrow 4 _ rfl
  have HFS : Hid (∀ j p, FS[j]? = some p → ∃ kb ko tb tf, KA = some ⟨kb, ko, none⟩ ∧ TA = some ⟨tb, tf, none⟩ ∧ w.cell? ⟨kb, ko + j, none⟩ = some (.bool p.1) ∧ w.cell? ⟨tb, tf + j, none⟩ = some (.int .u8 (p.2 : Int))) := Lib.hid (fun j p hp => by
    rw [eFS] at hp
    obtain ⟨h1, t, h2, h3⟩ := fatesOf_at bs ts j p hp
    obtain ⟨hj1, e1⟩ := List.getElem?_eq_some_iff.1 h1
    obtain ⟨hj2, e2⟩ := List.getElem?_eq_some_iff.1 h2
    obtain ⟨kb, ko, rfl, hk⟩ := hb (by intro e; rw [e] at hj1; simp at hj1)
    obtain ⟨tb, tf, rfl, htt⟩ := ht (by intro e; rw [e] at hj2; simp at hj2)
    exact ⟨kb, ko, tb, tf, rfl, rfl, by rw [hk j hj1, e1], by rw [htt j hj2, e2, h3]⟩)
  have HNF := Lib.hid hnf
  have HB := Lib.hid hbel
  have EW := Lib.hid eW.symm
  have K3 := Lib.hid k3
  have K4 := Lib.hid k4
  have HK0 := Lib.hid hk0
  have HT0 := Lib.hid ht0
  have HMIN := Lib.hid hnmin
  clear eFS hfl hnf eW hrow hbel hb ht hkl htl hk0 ht0 hnmin
  go_enter Try.func25, Try.ntmps25
  go_upto_region 1 with fail
  rw [EW.out]
  go_cut [5] (fun s wx => s = .int .i64 (nf : Int) ∧ wx = W)
  case first =>
    go_wp2_with fail
    all_goals
      go_meet
      refine ⟨?_, rfl⟩
      congr 1
      have := HMIN.out
      omega
  case rest =>
    obtain ⟨rfl, rfl⟩ := hcut
    rename_i W
    clear k3 k4
    go_wp2_with fail
    go_loopw [6, 7] (fun fv kv wr => ∃ (j : Nat) (A : Option Addr) (c : Nat), j ≤ nf ∧ kv = .int .i64 (j : Int) ∧ fv = .slice A j c ∧ Hid (wr.ownsRow wc.heap.size 95 2 (.slice A j c) j ((FS.take j).flatMap ftC)) ∧ Hid (Below wc.heap.size wc wr)) (fun _ kv _ => nf - (intOf kv).toNat)
    case atStart => exact ⟨0, none, 0, by omega, rfl, rfl, Lib.hid (World.ownsRow_nil _ _ _ _), Lib.hid (Below.refl _ _)⟩
    case round =>
      obtain ⟨j, A, c, hj, rfl, rfl, HO, HBW⟩ := hrel
      have k3 := (HBW.out.cell (World.block_lt_of_cell? _ _ K3.out)).trans K3.out
      have k4 := (HBW.out.cell (World.block_lt_of_cell? _ _ K4.out)).trans K4.out
      have hws := HBW.out.size
      by_cases hlt : j < nf
      · obtain ⟨p, hp⟩ : ∃ p, FS[j]? = some p := ⟨_, List.getElem?_eq_getElem (by have := HNF.out; omega)⟩
        obtain ⟨kb, ko, tb, tf, rfl, rfl, e0, e1⟩ := HFS.out j p hp
        obtain ⟨pk, pa⟩ := p
        dsimp only at e0 e1
        have hin : Below w.heap.size w wr := HB.out.trans (HBW.out.mono HB.out.size)
        have f0 := (hin.cell (World.block_lt_of_cell? _ _ e0)).trans e0
        have f1 := (hin.cell (World.block_lt_of_cell? _ _ e1)).trans e1
        have G3 : ∀ y : SubW wc.heap.size wr, y.at_.cell? ⟨w.heap.size, 3, none⟩ = some (.slice (some ⟨kb, ko, none⟩) kl kc) := fun y => (y.ok_.cell (World.block_lt_of_cell? _ _ K3.out)).trans k3
        have G4 : ∀ y : SubW wc.heap.size wr, y.at_.cell? ⟨w.heap.size, 4, none⟩ = some (.slice (some ⟨tb, tf, none⟩) tl tc) := fun y => (y.ok_.cell (World.block_lt_of_cell? _ _ K4.out)).trans k4
        have G5 : ∀ y : SubW wc.heap.size wr, y.at_.cell? ⟨kb, ko + j, none⟩ = some (.bool pk) := fun y => (y.ok_.cell (Nat.lt_of_lt_of_le (World.block_lt_of_cell? _ _ e0) HB.out.size)).trans f0
        have G6 : ∀ y : SubW wc.heap.size wr, y.at_.cell? ⟨tb, tf + j, none⟩ = some (.int .u8 (pa : Int)) := fun y => (y.ok_.cell (Nat.lt_of_lt_of_le (World.block_lt_of_cell? _ _ e1) HB.out.size)).trans f1
        have HP := Lib.hid hp
        have HIN := Lib.hid hin
        have hjk : (j : Int) < (kl : Int) := by omega
        have hjt : (j : Int) < (tl : Int) := by omega
        have hfill : Hid (Instr.fill (fun i => some (i * iw.size, iw.size)) ((Array.range (1 * iw.size)).map ((Value.agg #[.bool false, .int .u8 0]).cells[· % (Value.agg #[.bool false, .int .u8 0]).cells.size]!)) [(0, .agg #[.bool pk, .int .u8 (pa : Int)])] = some #[.bool pk, .int .u8 (pa : Int)]) := Lib.hid (by rw [his]; exact fill_two _ _ rfl (by simp))
        clear e0 e1 f0 f1 k3 k4 hp hin
        go_upto_region 6 with fail
        refine region_ways4 wc.heap.size hws (.one [0, 1, 2, 3, 4, 5, 6, 7, 8, 9, 10, 11] 12 (.one [] 13 (.done [14]))) (by kernel_rfl) (by kernel_rfl) ?_
        rintro wd hbd
        rw [wpWays_one4]
        try simp only [List.map_cons, List.map_nil, opAt, List.getElem?_toArray, List.getElem?_cons_zero, List.getElem?_cons_succ, Option.getD_some]
        repeat (go_big_quiet_step (fail))
        refine wpQuiet_nil ?_
        go_wp2_with (refine wpList_buildSlice rfl 51 95 1 _ rfl #[.bool pk, .int .u8 (pa : Int)] iw _ Try.underlying51 hiw hiz (by rw [his]; decide) (by rw [his]; decide) (by rw [Array.toList_map]; exact hfill.out) ?_)
        have b0 := hbd.mono hws
        have b1 : Below wc.heap.size wr (wd.alloc (.cells #[.bool pk, .int .u8 (pa : Int)] 95)) := b0.alloc (by have := b0.size; omega) _
        have hb1' : Below wr.heap.size wr (wd.alloc (.cells #[.bool pk, .int .u8 (pa : Int)] 95)) := hbd.alloc hbd.size _
        have s1 : (wd.alloc (.cells #[.bool pk, .int .u8 (pa : Int)] 95)).ownsRow wc.heap.size 95 2 (.slice A j c) j ((FS.take j).flatMap ftC) := own_keepB HO.out (fun g cur _ hc => hb1'.block g (Array.getElem?_eq_some_iff.1 hc).1)
        have hnews : ∀ (k : Nat) (u : Value), (ftC (pk, pa))[k]? = some u → (wd.alloc (.cells #[.bool pk, .int .u8 (pa : Int)] 95)).cell? ((⟨wd.heap.size, 0, none⟩ : Addr).add k) = some u := by
          intro k u hk
          rw [Addr.add_mid, World.cell?_alloc_new]
          simpa [ftC] using hk
        refine ⟨⟨⟨_, b1⟩, rfl⟩, ?_⟩
        try simp only [Act.put, List.setIfInBounds_toArray, List.set_cons_zero, List.set_cons_succ]
        rw [wpWays_one4]
        try simp only [List.map_cons, List.map_nil, opAt, List.getElem?_toArray, List.getElem?_cons_zero, List.getElem?_cons_succ, Option.getD_some]
        refine wpQuiet_nil ?_
        go_wp2_with (at_builtin; refine wpList_append_own_at _ rfl (.tmp 20) (.tmp 32) 51 rfl wc.heap.size 95 iw _ 2 2 Try.underlying51 hiw hiz his hib rfl (by omega) _ j ((FS.take j).flatMap ftC) rfl s1 ⟨wd.heap.size, 0, none⟩ 1 1 (ftC (pk, pa)) rfl rfl hnews (ftC_one _) (by unfold maxLen; omega) (by omega) (by have := b1.size; omega) ?_; intro rw2 w4 ho4 hg4 _ how4; obtain ⟨A2, c2, rfl⟩ := own_form ho4)
        have b4 : Below wc.heap.size wr w4 := b1.grown hg4 (by have := b1.size; omega) (fun k hk => (HO.out.lt k hk).1)
        refine ⟨⟨⟨_, b4⟩, rfl⟩, ?_⟩
        try simp only [Act.put, List.setIfInBounds_toArray, List.set_cons_zero, List.set_cons_succ]
        rw [wpWays_done4]
        try simp only [List.map_cons, List.map_nil, opAt, List.getElem?_toArray, List.getElem?_cons_zero, List.getElem?_cons_succ, Option.getD_some]
        repeat (go_big_quiet_step (fail))
        refine wpQuiet_nil ?_
        go_wp2_with fail
        go_roundw
        case rel => exact ⟨j + 1, A2, c2, by omega, by go_num, rfl, Lib.hid (by rw [ft_take FS j _ HP.out]; exact ho4), Lib.hid (HBW.out.trans b4)⟩
        case measure => simp [intOf]; omega
      · obtain rfl : j = nf := by omega
        have hFS : FS.take j = FS := List.take_of_length_le (by have := HNF.out; omega)
        rw [hFS] at HO
        have hbel : Below w.heap.size w wr := HB.out.trans (HBW.out.mono HB.out.size)
        have hcap := own_cap HO.out
        have HO2 := Lib.hid (own_base HO.out HB.out.size)
        have HBEL := Lib.hid hbel
        have HCAP := Lib.hid hcap
        clear hbel hcap HO hFS
        have G3 : ∀ y : SubW wr.heap.size wr, y.at_.cell? ⟨w.heap.size, 3, none⟩ = some (.slice KA kl kc) := fun y => (y.ok_.cell (World.block_lt_of_cell? _ _ k3)).trans k3
        have G4 : ∀ y : SubW wr.heap.size wr, y.at_.cell? ⟨w.heap.size, 4, none⟩ = some (.slice TA tl tc) := fun y => (y.ok_.cell (World.block_lt_of_cell? _ _ k4)).trans k4
        clear k3 k4
        have hjc : (j : Int) ≤ (kc : Int) := by omega
        have hjt : (j : Int) ≤ (tc : Int) := by omega
        have HS1 := fun W => slice_upto 40 (by kernel_rfl) (by kernel_rfl) KA kl kc j (by omega) W
        have HS2 := fun W => slice_upto 27 (by kernel_rfl) (by kernel_rfl) TA tl tc j (by omega) W
        go_upto_region 7 with fail
        refine region_below wr.heap.size wr (Below.refl _ _) (by kernel_rfl) (by kernel_rfl) ?_
        repeat (go_big_quiet_step (fail))
        refine wpQuiet_nil ?_
        rintro w' ⟨y, rfl⟩
        have HOY : Hid (y.at_.ownsRow w.heap.size 95 2 (.slice A j c) j (FS.flatMap ftC)) := Lib.hid (own_keepB HO2.out (fun g cur _ hc => y.ok_.block g (Array.getElem?_eq_some_iff.1 hc).1))
        have HBY : Hid (Below w.heap.size w y.at_) := Lib.hid (HBEL.out.trans (y.ok_.mono HBEL.out.size))
        clear G3 G4 HS1 HS2
        go_wp2_with fail
        go_ret3
        exact ⟨⟨A, c, rfl, HCAP.out.1, HCAP.out.2, HOY.out⟩, HBY.out⟩
end Go.Proofs.Ytmmkmpjhmbocfaa

namespace Go.Proofs.Ytmmkmpjhmbocfaa
open Go.ChangeShapes Go.WideShapes Go.ChangeAt Go.RowKit Go.Deep
set_option linter.unusedVariables false

def inI (z : Int) : Prop := -9223372036854775808 ≤ z ∧ z ≤ 9223372036854775807
/-- An act: what, where; its bytes; which writes are kept, and which parts. -/
structure DA where
  wh : Int
  ix : Int
  BA : Option Addr
  bl : Nat
  bc : Nat
  bs : List UInt8
  KA : Option Addr
  kl : Nat
  kc : Nat
  ks : List Bool
  TA : Option Addr
  tl : Nat
  tc : Nat
  ts : List UInt8
instance : Inhabited DA := ⟨⟨0, 0, none, 0, 0, [], none, 0, 0, [], none, 0, 0, []⟩⟩
structure DA.ok (w : World) (a : DA) : Prop where
  iw : inI a.wh
  ii : inI a.ix
  lb : a.bs.length = a.bl
  cb : a.bl ≤ a.bc
  mbb : a.bc ≤ maxLen
  xb : BytesAt w a.BA a.bs
  nb : a.BA = none → a.bc = 0
  lk : a.ks.length = a.kl
  ck : a.kl ≤ a.kc
  mkk : a.kc ≤ maxLen
  xk : BoolsAt w a.KA a.ks
  lt : a.ts.length = a.tl
  ct : a.tl ≤ a.tc
  mtt : a.tc ≤ maxLen
  xt : BytesAt w a.TA a.ts
  nk : a.KA = none → a.kc = 0
  nt : a.TA = none → a.tc = 0
def daAt (w : World) (ad : Addr) (i : Nat) (a : DA) : Prop := w.cell? (ad.add (i * 5)) = some (.int .i64 a.wh) ∧ w.cell? (ad.add (i * 5 + 1)) = some (.int .i64 a.ix) ∧ w.cell? (ad.add (i * 5 + 2)) = some (.slice a.BA a.bl a.bc) ∧
  w.cell? (ad.add (i * 5 + 3)) = some (.slice a.KA a.kl a.kc) ∧ w.cell? (ad.add (i * 5 + 4)) = some (.slice a.TA a.tl a.tc)
/-- A row of acts in memory. -/
def DActsAt (w : World) (A : Option Addr) (rs : List DA) : Prop :=
  (∀ a ∈ rs, a.ok w) ∧ (rs ≠ [] → ∃ b off, A = some ⟨b, off, none⟩ ∧ ∀ i (h : i < rs.length), daAt w ⟨b, off, none⟩ i rs[i])
theorem list5 {α : Type} {l : List α} (h : l.length = 5) : ∃ a b c d e, l = [a, b, c, d, e] := by
  match l, h with
  | [a, b, c, d, e], _ => exact ⟨a, b, c, d, e, rfl⟩
/-- A slice that reads, in its shape. -/
theorem sliceShape {H : Type} {enc : TypeId × Value → H} {P : Program} {W : World} {base : Nat} {spare : Nat → Bool} {held : Bool} {t e : TypeId} {fuel : Nat} {v : Value} {x : DataW H × List MemPlace} (ht : P.underlying t = some (.slice e))
    (h : DataW.trod enc P W base spare held fuel t [v] = some x) : ∃ A l c, v = .slice A l c ∧ (A = none → c = 0) := by
  rcases open_slice ht h with ⟨hcs, _⟩ | ⟨ad, l, c, m, n, D, Pl, hcs, _⟩
  · simp at hcs
    subst hcs
    exact ⟨none, 0, 0, rfl, fun _ => rfl⟩
  · simp at hcs
    subst hcs
    exact ⟨some ad, l, c, rfl, fun h => by cases h⟩

theorem daRow_of {H : Type} {enc : TypeId × Value → H} {W : World} {base : Nat} {held : Bool} {t e : TypeId} {f0 f1 f2 f3 f4 : Field} {a : Option Addr} {len cap fuel : Nat} {x : DataW H × List MemPlace}
    (ht : Try.prog.underlying t = some (.slice e)) (he : Try.prog.underlying e = some (.struct #[f0, f1, f2, f3, f4])) (ce : Try.prog.cellsOf e = 5)
    (o0 : f0.offset = 0) (o1 : f1.offset = 1) (o2 : f2.offset = 2) (o3 : f3.offset = 3) (o4 : f4.offset = 4) (c0 : Try.prog.cellsOf f0.type = 1) (c1 : Try.prog.cellsOf f1.type = 1) (c2 : Try.prog.cellsOf f2.type = 1) (c3 : Try.prog.cellsOf f3.type = 1) (c4 : Try.prog.cellsOf f4.type = 1)
    (u0 : Try.prog.underlying f0.type = some (.int .i64)) (u1 : Try.prog.underlying f1.type = some (.int .i64)) (t2 : f2.type = 27) (t3 : f3.type = 40) (t4 : f4.type = 27)
    (h : DataW.trod enc Try.prog W base (fun _ => true) held fuel t [.slice a len cap] = some x) : ∃ rs : List DA, rs.length = len ∧ len ≤ cap ∧ cap ≤ maxLen ∧ DActsAt W a rs := by
  rcases open_slice ht h with ⟨hcs, _⟩ | ⟨ad, l, c, m, n, D, Pl, hcs, _, hl, hm, hmm, _, hx⟩
  · simp at hcs
    obtain ⟨rfl, rfl, rfl⟩ := hcs
    exact ⟨[], rfl, Nat.le_refl _, by unfold maxLen; omega, by simp, fun h => absurd rfl h⟩
  · simp at hcs
    obtain ⟨rfl, rfl, rfl⟩ := hcs
    have hlm : len ≤ m := by rw [hmm]; split <;> omega
    have hone : ∀ i, i < len → ∃ q : DA, q.ok W ∧ daAt W ad i q := fun i hi => by
      obtain ⟨cs', h1, h2⟩ := hx i (by omega)
      rw [ce] at h1
      obtain ⟨_, hlen, hcell⟩ := World.cells?_some h1
      obtain ⟨xs, k, _, _, _, hxl, hf⟩ := DataW.trod_struct he h2
      obtain ⟨v0, v1, v2, v3, v4, rfl⟩ := list5 hlen
      have hxl5 : xs.length = 5 := hxl
      have g0 : DataW.trod enc Try.prog W base (fun _ => true) held k f0.type (([v0, v1, v2, v3, v4].drop f0.offset).take (Try.prog.cellsOf f0.type)) = some (xs[0]'(by omega)) := (hf 0 f0 rfl).trans (List.getElem?_eq_getElem (by omega))
      have g1 : DataW.trod enc Try.prog W base (fun _ => true) held k f1.type (([v0, v1, v2, v3, v4].drop f1.offset).take (Try.prog.cellsOf f1.type)) = some (xs[1]'(by omega)) := (hf 1 f1 rfl).trans (List.getElem?_eq_getElem (by omega))
      have g2 : DataW.trod enc Try.prog W base (fun _ => true) held k f2.type (([v0, v1, v2, v3, v4].drop f2.offset).take (Try.prog.cellsOf f2.type)) = some (xs[2]'(by omega)) := (hf 2 f2 rfl).trans (List.getElem?_eq_getElem (by omega))
      have g3 : DataW.trod enc Try.prog W base (fun _ => true) held k f3.type (([v0, v1, v2, v3, v4].drop f3.offset).take (Try.prog.cellsOf f3.type)) = some (xs[3]'(by omega)) := (hf 3 f3 rfl).trans (List.getElem?_eq_getElem (by omega))
      have g4 : DataW.trod enc Try.prog W base (fun _ => true) held k f4.type (([v0, v1, v2, v3, v4].drop f4.offset).take (Try.prog.cellsOf f4.type)) = some (xs[4]'(by omega)) := (hf 4 f4 rfl).trans (List.getElem?_eq_getElem (by omega))
      rw [o0, c0] at g0
      rw [o1, c1] at g1
      rw [o2, c2, t2] at g2
      rw [o3, c3, t3] at g3
      rw [o4, c4, t4] at g4
      have e0 := hcell 0 (by omega)
      have e1 := hcell 1 (by omega)
      have e2 := hcell 2 (by omega)
      have e3 := hcell 3 (by omega)
      have e4 := hcell 4 (by omega)
      rw [add_add] at e0 e1 e2 e3 e4
      obtain ⟨z0, k0, _, w0⟩ := DataW.trod_int u0 g0
      obtain ⟨z1, k1, _, w1⟩ := DataW.trod_int u1 g1
      simp at k0 k1
      subst k0 k1
      obtain ⟨A2, l2, q2, rfl, n2⟩ := sliceShape (v := v2) Try.underlying27 g2
      obtain ⟨A3, l3, q3, rfl, n3⟩ := sliceShape (v := v3) Try.underlying40 g3
      obtain ⟨A4, l4, q4, rfl, n4⟩ := sliceShape (v := v4) Try.underlying27 g4
      obtain ⟨ns, hn1, hn2, hn3, hn4⟩ := numRow_of Try.underlying27 Try.underlying5 (by kernel_rfl) g2
      obtain ⟨bs, hb1, hb2⟩ := bytes_of_nums hn4
      obtain ⟨ks, hk1, hk2, hk3, hk4⟩ := boolRow_of Try.underlying40 Try.underlying4 (by kernel_rfl) g3
      obtain ⟨ms, hm1, hm2, hm3, hm4⟩ := numRow_of Try.underlying27 Try.underlying5 (by kernel_rfl) g4
      obtain ⟨ts, ht1, ht2⟩ := bytes_of_nums hm4
      exact ⟨⟨z0, z1, A2, l2, q2, bs, A3, l3, q3, ks, A4, l4, q4, ts⟩, ⟨bounds_i64 w0, bounds_i64 w1, hb1.trans hn1, hn2, hn3, hb2, n2, hk1, hk2, hk3, hk4, ht1.trans hm1, hm2, hm3, ht2, n3, n4⟩, e0, e1, e2, e3, e4⟩
    obtain ⟨q, hq⟩ := choose_lt hone
    refine ⟨(List.range len).map q, by simp, hl, hm, fun y hy => ?_, fun hne => ?_⟩
    · obtain ⟨i, hi, rfl⟩ := List.mem_map.1 hy
      exact (hq i (List.mem_range.1 hi)).1
    · have hpos : 0 < len := by
        rcases Nat.eq_zero_or_pos len with h0 | h0
        · subst h0; simp at hne
        · exact h0
      obtain ⟨b, off, spot⟩ := ad
      have hc0 := (hq 0 hpos).2.1
      have hspot : spot = none := by simpa [Addr.add] using World.cell?_spot hc0
      subst hspot
      refine ⟨b, off, rfl, fun i hi => ?_⟩
      have hi' : i < len := by simpa using hi
      rw [List.getElem_map, List.getElem_range]
      exact (hq i hi').2
end Go.Proofs.Ytmmkmpjhmbocfaa

namespace Go.Proofs.Ytmmkmpjhmbocfaa
open Go.ChangeShapes Go.WideShapes Go.ChangeAt Go.RowKit
set_option linter.unusedVariables false
section
variable {w w' : World} {B N g gs gn L cs cn : Nat} {rw : Value} {st nw : List UInt8} {ws : List (Nat × List UInt8)} {on : Bool} {left : Int}

theorem write_len (h : Dk w B N g gs gn rw L cs cn st nw ws true left) (i : Nat) (hi : 64 * i + 64 ≤ L) (A : Option Addr) (n c : Nat) (hn : n ≠ 64) :
    Calls Try.prog 14 #[.pointer (some ⟨g, 0, none⟩), .int .i64 (i : Int), .slice A n c] w fun e w' => e = .returned (.int .i64 1) ∧ w = w' := by
  have H := Lib.hid h
  have d2 : ((n : Int) == 64) = false := by rw [beq_eq_false_iff_ne]; omega
  have d2' : (n == 64) = false := by rw [beq_eq_false_iff_ne]; omega
  clear h hn
  go_enter Try.func14, Try.ntmps14
  go_wp2_with (first
    | (go_at_call 49; refine (refused_on H.out).mono ?_; rintro e w1 ⟨rfl, rfl⟩)
    | (go_at_call 52; refine (has_yes H.out _ i rfl hi).mono ?_; rintro e w1 ⟨rfl, rfl⟩))
  go_ret
  exact ⟨rfl, rfl⟩
theorem fail_any (h : Dk w B N g gs gn rw L cs cn st nw ws true left) (z : Int) :
    Calls Try.prog 10 #[.pointer (some ⟨g, 0, none⟩), .int .i64 z] w fun e w' => e = .returned (.tuple #[]) ∧ Dk w' B N g gs gn rw L cs cn st nw ws true (max z (-1)) ∧ w.grownBy w' (some g) ∧ w'.heap.size = w.heap.size := by
  have H := Lib.hid h
  have f4 : w.frozen? ⟨g, 4, none⟩ = false := by simp [World.frozen?, h.head]
  have c4 := blk_cell h.head 4 _ rfl
  obtain ⟨z', hz'⟩ : ∃ z', max z (-1) = z' := ⟨_, rfl⟩
  rw [hz']
  clear h
  go_enter Try.func10, Try.ntmps10
  go_wp2_with (go_at_call 49; refine (refused_on H.out).mono ?_; rintro e w1 ⟨rfl, rfl⟩)
  exact bodyPost_end (results_none rfl _ _ _) rfl ⟨rfl, H.out.with true z' (by simp) (fun j hj => Below.heap_setCell w ⟨g, 4, none⟩ _ j hj) ((heap_setCell_same w g 4 _ _ _ H.out.head).trans rfl), grown_setC (World.grownBy.refl w _) 4 _, by simp⟩
theorem fail_off (h : Dk w B N g gs gn rw L cs cn st nw ws false left) (z : Int) :
    Calls Try.prog 10 #[.pointer (some ⟨g, 0, none⟩), .int .i64 z] w fun e w' => e = .returned (.tuple #[]) ∧ w = w' := by
  have H := Lib.hid h
  clear h
  go_enter Try.func10, Try.ntmps10
  go_wp2_with (go_at_call 49; refine (refused_off H.out).mono ?_; rintro e w1 ⟨rfl, rfl⟩)
  exact bodyPost_ret (v := .tuple #[]) (results_none rfl _ _ _) rfl ⟨rfl, rfl⟩
theorem read_off (h : Dk w B N g gs gn rw L cs cn st nw ws false left) (z : Int) :
    Calls Try.prog 12 #[.pointer (some ⟨g, 0, none⟩), .int .i64 z] w fun e w' => e = .returned (.tuple #[.slice none 0 0, .int .i64 2]) ∧ w = w' := by
  have H := Lib.hid h
  clear h
  go_enter Try.func12, Try.ntmps12
  go_wp2_with (go_at_call 49; refine (refused_off H.out).mono ?_; rintro e w1 ⟨rfl, rfl⟩)
  go_ret2
  exact ⟨rfl, rfl⟩
theorem read_arg (h : Dk w B N g gs gn rw L cs cn st nw ws true left) (z : Int) (hz : z < 0 ∨ (L : Int) < 64 * z + 64) :
    Calls Try.prog 12 #[.pointer (some ⟨g, 0, none⟩), .int .i64 z] w fun e w' => e = .returned (.tuple #[.slice none 0 0, .int .i64 1]) ∧ w = w' := by
  have H := Lib.hid h
  have HZ := Lib.hid hz
  clear h hz
  go_enter Try.func12, Try.ntmps12
  go_wp2_with (first
    | (go_at_call 49; refine (refused_on H.out).mono ?_; rintro e w1 ⟨rfl, rfl⟩)
    | (go_at_call 52; refine (has_no H.out z HZ.out).mono ?_; rintro e w1 ⟨rfl, rfl⟩))
  go_ret2
  exact ⟨rfl, rfl⟩

/-- What leaves the blocks of its three kinds alone leaves the disk. -/
theorem Dk.keepT (h : Dk w B N g gs gn rw L cs cn st nw ws on left) (hs : w.heap.size ≤ w'.heap.size) (hk : ∀ (k : Nat) (cur : Array Value) (E : TypeId), w.heap[k]? = some (.cells cur E (0, 0)) → E = 103 ∨ E = 5 ∨ E = 106 → w'.heap[k]? = w.heap[k]?) : Dk w' B N g gs gn rw L cs cn st nw ws on left :=
  { h with
    head := (hk g _ _ h.head (.inl rfl)).trans h.head
    stay := own_keepB (E := 5) h.stay (fun k cur _ hc => hk k cur _ hc (.inr (.inl rfl)))
    now := own_keepB (E := 5) h.now (fun k cur _ hc => hk k cur _ hc (.inr (.inl rfl)))
    wait := own_keepB h.wait (fun k cur _ hc => hk k cur _ hc (.inr (.inr rfl)))
    NN := Nat.le_trans h.NN hs }
theorem Dk.wblock (h : Dk w B N g gs gn rw L cs cn st nw ws on left) {k : Nat} (hk : rw.ownBlock = some k) : ∃ cur, w.heap[k]? = some (.cells cur 106 (0, 0)) := by
  rcases h.wait.2 with ⟨h0, _⟩ | ⟨g', cap, cur, rfl, hb, hgg, _⟩
  · rw [h0] at hk; cases hk
  · injection hk with hk
    subst hk
    exact ⟨cur, hgg⟩
end
section
variable {w w' : World} {B N N0 g gs gn L cs cn r n : Nat} {rw sv wv : Value} {st nw F : List UInt8} {ws ws' : List (Nat × List UInt8)} {vs ks : List Value} {on off : Bool} {left till : Int}
/-- What the reference's disk does leaves the code's. -/
theorem Dk.besideR (h : Dk w B N g gs gn rw L cs cn st nw ws on left) (hr : Rd w N0 r sv wv n vs F ks ws' off till) {X : Nat → Prop} (ho : OuterX X w w') (hX : ∀ k, X k → k = r ∨ sv.ownBlock = some k ∨ wv.ownBlock = some k) : Dk w' B N g gs gn rw L cs cn st nw ws on left :=
  h.keepT ho.size (fun k cur E hc hE => ho.block k (Array.getElem?_eq_some_iff.1 hc).1 (fun hx => by
    have hT : ∃ cur' T, w.heap[k]? = some (.cells cur' T (0, 0)) ∧ (T = 50 ∨ T = 27 ∨ T = 113) := by
      rcases hX k hx with rfl | h1 | h1
      · exact ⟨_, _, hr.head, .inl rfl⟩
      · obtain ⟨c, hc⟩ := hr.sblock h1
        exact ⟨c, _, hc, .inr (.inl rfl)⟩
      · obtain ⟨c, hc⟩ := hr.wblock h1
        exact ⟨c, _, hc, .inr (.inr rfl)⟩
    obtain ⟨cur', T, h1, h2⟩ := hT
    rw [hc] at h1
    injection h1 with h1
    injection h1 with h3 h4
    subst h4
    rcases hE with e | e | e <;> rcases h2 with e2 | e2 | e2 <;> exact absurd (e.symm.trans e2) (by decide)))
/-- What the code's disk does leaves the reference's. -/
theorem Rd.besideD (hr : Rd w N0 r sv wv n vs F ks ws' off till) (h : Dk w B N g gs gn rw L cs cn st nw ws on left) {X : Nat → Prop} (ho : OuterX X w w') (hg : g < N0) (hgs : gs < N0) (hgn : gn < N0) (hX : ∀ k, X k → k = g ∨ k = gs ∨ k = gn ∨ rw.ownBlock = some k) : Rd w' N0 r sv wv n vs F ks ws' off till :=
  hr.outer ho (fun k hx => by
    rcases hX k hx with e | e | e | e
    · exact .inl (by omega)
    · exact .inl (by omega)
    · exact .inl (by omega)
    · exact .inr (h.wblock e))
/-- Both disks, as they stand beside each other between two acts. -/
structure Di (w W : World) (B N0 g gs gn r n : Nat) (ws : List (Nat × List UInt8)) (st nw : List UInt8) (on : Bool) (left : Int) : Prop where
  ex : ∃ N rw cs cn sv wv vs ks till, Dk W B N g gs gn rw (64 * n) cs cn st nw ws on left ∧ Rd W N0 r sv wv n vs st ks ws (!on) till ∧ (on = true → till = left) ∧ (on = false → till = -1)
  lf : -1 ≤ left ∧ left ≤ 9223372036854775807
  sy : synced st nw ws
  bel : Below w.heap.size w W
  wB : w.heap.size ≤ B
  wN : w.heap.size ≤ N0
  gl : g < N0
  gsl : gs < N0
  gnl : gn < N0
  N0l : N0 ≤ W.heap.size
theorem Di.below {W W' : World} (h : Di w W B N0 g gs gn r n ws st nw on left) (hb : Below W.heap.size W W') : Di w W' B N0 g gs gn r n ws st nw on left := by
  obtain ⟨N, rw, cs, cn, sv, wv, vs, ks, till, h1, h2, h3, h4⟩ := h.ex
  exact { h with ex := ⟨N, rw, cs, cn, sv, wv, vs, ks, till, h1.below hb, h2.below hb, h3, h4⟩, bel := h.bel.trans (hb.mono h.bel.size), N0l := Nat.le_trans h.N0l hb.size }
end
end Go.Proofs.Ytmmkmpjhmbocfaa

namespace Go.Proofs.Ytmmkmpjhmbocfaa
open Go.ChangeShapes Go.WideShapes Go.ChangeAt Go.RowKit
set_option linter.unusedVariables false
section
variable {w W W' : World} {B N N0 g gs gn L cs cn r n : Nat} {rw sv wv : Value} {st nw F : List UInt8} {ws ws' : List (Nat × List UInt8)} {vs ks : List Value} {on off : Bool} {left till : Int}

theorem below_outer {b : Nat} {X : Nat → Prop} (hb : Below b w W) (hW : b ≤ W.heap.size) (ho : OuterX X W W') (hX : ∀ k, X k → b ≤ k) : Below b w W' :=
  ⟨ho.os.trans hb.os, ho.tape.trans hb.tape, ho.output.trans hb.output, Nat.le_trans hb.size ho.size, fun k hk => (ho.block k (by omega) (fun hx => by have := hX k hx; omega)).trans (hb.block k hk)⟩
theorem outer_grown {k0 : Nat} (hg : W.grownBy W' (some k0)) : OuterX (fun k => k = k0) W W' :=
  ⟨hg.os, hg.tape, hg.output, hg.size, fun k hk hx => hg.block k hk (fun e => hx (by injection e))⟩
/-- Boxes of acts stay. -/
def ActKept (W W' : World) : Prop := ∀ (k : Nat) (cur : Array Value), W.heap[k]? = some (.cells cur 42 (0, 0)) → W'.heap[k]? = W.heap[k]?
theorem ActKept.refl (W : World) : ActKept W W := fun _ _ _ => rfl
theorem Dk.types (h : Dk W B N g gs gn rw L cs cn st nw ws on left) {k : Nat} (hk : k = g ∨ k = gs ∨ k = gn ∨ rw.ownBlock = some k) : B ≤ k ∧ ∃ cur T, W.heap[k]? = some (.cells cur T (0, 0)) ∧ (T = 103 ∨ T = 5 ∨ T = 106) := by
  rcases hk with rfl | rfl | rfl | hk
  · exact ⟨h.gB, _, _, h.head, .inl rfl⟩
  · rcases h.stay.2 with ⟨h0, _⟩ | ⟨g', cap, cur, hv, hb, hh, _⟩
    · cases h0
    · injection hv with hv
      injection hv with hv
      injection hv with hv
      subst hv
      exact ⟨hb, cur, _, hh, .inr (.inl rfl)⟩
  · rcases h.now.2 with ⟨h0, _⟩ | ⟨g', cap, cur, hv, hb, hh, _⟩
    · cases h0
    · injection hv with hv
      injection hv with hv
      injection hv with hv
      subst hv
      exact ⟨hb, cur, _, hh, .inr (.inl rfl)⟩
  · obtain ⟨cur, hc⟩ := h.wblock hk
    exact ⟨(h.wait.lt k hk).1, cur, _, hc, .inr (.inr rfl)⟩
theorem Rd.types (h : Rd W N0 r sv wv n vs F ks ws off till) {k : Nat} (hk : k = r ∨ sv.ownBlock = some k ∨ wv.ownBlock = some k) : N0 ≤ k ∧ ∃ cur T, W.heap[k]? = some (.cells cur T (0, 0)) ∧ (T = 50 ∨ T = 27 ∨ T = 113) := by
  rcases hk with rfl | hk | hk
  · exact ⟨h.hr, _, _, h.head, .inl rfl⟩
  · obtain ⟨cur, hc⟩ := h.sblock hk
    exact ⟨(h.srow.lt k hk).1, cur, _, hc, .inr (.inl rfl)⟩
  · obtain ⟨cur, hc⟩ := h.wblock hk
    exact ⟨(h.wrow.lt k hk).1, cur, _, hc, .inr (.inr rfl)⟩
theorem Dk.actKept (h : Dk W B N g gs gn rw L cs cn st nw ws on left) {X : Nat → Prop} (ho : OuterX X W W') (hX : ∀ k, X k → k = g ∨ k = gs ∨ k = gn ∨ rw.ownBlock = some k) : ActKept W W' := fun k cur hc =>
  ho.block k (Array.getElem?_eq_some_iff.1 hc).1 (fun hx => by
    obtain ⟨_, cur', T, h1, h2⟩ := h.types (hX k hx)
    rw [hc] at h1
    injection h1 with h1
    injection h1 with h3 h4
    subst h4
    rcases h2 with e | e | e <;> exact absurd e (by decide))

/-- What the code's disk has done, the reference's as it was. -/
theorem Di.stepD (h : Di w W B N0 g gs gn r n ws st nw on left) {N rw cs cn sv wv vs ks till} (h1 : Dk W B N g gs gn rw (64 * n) cs cn st nw ws on left) (h2 : Rd W N0 r sv wv n vs st ks ws (!on) till) {X : Nat → Prop} (ho : OuterX X W W') (hX : ∀ k, X k → k = g ∨ k = gs ∨ k = gn ∨ rw.ownBlock = some k) :
    Rd W' N0 r sv wv n vs st ks ws (!on) till ∧ Below w.heap.size w W' ∧ N0 ≤ W'.heap.size ∧ ActKept W W' :=
  ⟨h2.besideD h1 ho h.gl h.gsl h.gnl hX, below_outer h.bel h.bel.size ho (fun k hx => Nat.le_trans h.wB (h1.types (hX k hx)).1), Nat.le_trans h.N0l ho.size, h1.actKept ho hX⟩

theorem rst_eq (left : Int) (h0 : left ≠ 0) (h1 : -1 ≤ left) : rstepped left = stepped left := by
  unfold rstepped stepped
  rw [if_neg h0]
  split <;> omega
theorem synced_one {st nw : List UInt8} {ws : List (Nat × List UInt8)} (h : synced st nw ws) (i : Nat) (bs : List UInt8) : synced st (putAt nw i bs) (ws ++ [(i, bs)]) := by
  unfold synced at *
  have e := flushN_app st ws [(i, bs)] 1 (Nat.le_refl _)
  rw [List.length_append]
  show flushN st (ws ++ [(i, bs)]) (ws.length + 1) = _
  rw [e, h]
  exact flushN_succ (S := nw) (ws := [(i, bs)]) (k := 0) (p := (i, bs)) rfl

set_option maxHeartbeats 1000000 in
theorem Di.write (h : Di w W B N0 g gs gn r n ws st nw on left) (hws : ws.length ≤ 500) (z : Int) (A : Option Addr) (m c : Nat) (bs : List UInt8) (hm : bs.length = m) (hx : BytesAt W A bs) (hA : m = 64 → ∀ a, A = some a → N0 ≤ a.block ∧ ∃ cur, W.heap[a.block]? = some (.cells cur 5 (0, 0))) :
    ∃ (er : Nat) (on' : Bool) (left' : Int) (nw' : List UInt8) (ws' : List (Nat × List UInt8)), ws'.length ≤ ws.length + 1 ∧
      Calls Try.prog 14 #[.pointer (some ⟨g, 0, none⟩), .int .i64 z, .slice A m c] W fun e w1 => e = .returned (.int .i64 (er : Int)) ∧ ActKept W w1 ∧ Below w.heap.size W w1 ∧
        Calls Try.prog 23 #[.pointer (some ⟨r, 0, none⟩), .int .i64 z, .slice A m c] w1 fun e2 w2 => e2 = .returned (.int .i64 (er : Int)) ∧ Di w w2 B N0 g gs gn r n ws' st nw' on' left' ∧ Below w.heap.size W w2 := by
  obtain ⟨N, rw, cs, cn, sv, wv, vs, ks, till, h1, h2, h3, h4⟩ := h.ex
  have hlen := h2.len
  cases on with
  | false =>
    refine ⟨2, false, left, nw, ws, by omega, (write_off h1 z A m c).mono ?_⟩
    rintro e w1 ⟨rfl, rfl⟩
    refine ⟨rfl, ActKept.refl _, Below.refl _ _, (rwrite_off h2 z (.slice A m c)).mono ?_⟩
    rintro e2 w2 ⟨rfl, rfl⟩
    exact ⟨rfl, h, Below.refl _ _⟩
  | true =>
    have ht := h3 rfl
    subst ht
    by_cases hz : z < 0 ∨ (n : Int) ≤ z
    · refine ⟨1, true, till, nw, ws, by omega, (write_arg h1 z (by push_cast; omega) A m c).mono ?_⟩
      rintro e w1 ⟨rfl, rfl⟩
      refine ⟨rfl, ActKept.refl _, Below.refl _ _, (rwrite_arg h2 z A m c (by omega)).mono ?_⟩
      rintro e2 w2 ⟨rfl, rfl⟩
      exact ⟨rfl, h, Below.refl _ _⟩
    · obtain ⟨i, rfl⟩ := Int.eq_ofNat_of_zero_le (show 0 ≤ z by omega)
      have hi : i < n := by omega
      have hi64 : 64 * i + 64 ≤ 64 * n := by omega
      by_cases hm64 : m = 64
      · subst hm64
        obtain ⟨hl1, hl2⟩ := h.lf
        by_cases h0 : till = 0
        · subst h0
          refine ⟨2, false, 0, nw, ws, by omega, (write_stop h1 (i : Int) i rfl hi64 A c).mono ?_⟩
          rintro e w1 ⟨rfl, hd, hg⟩
          have ho := outer_grown hg
          obtain ⟨hr, hb, hn, hk⟩ := h.stepD h1 h2 ho (fun k hx => .inl hx)
          have q1 : Below w.heap.size W w1 := below_outer (Below.refl _ _) h.bel.size ho (fun k hx => Nat.le_trans h.wB (h1.types (.inl hx)).1)
          refine ⟨rfl, hk, q1, (rwrite_stop hr i hi A c).mono ?_⟩
          rintro e2 w2 ⟨rfl, rfl⟩
          have o1 : OuterX (RdX r wv) w1 (w1.setCell ⟨r, 2, none⟩ (.bool true)) := outer_setr w1 wv 2 _
          have o2 : OuterX (RdX r wv) w1 ((w1.setCell ⟨r, 2, none⟩ (.bool true)).setCell ⟨r, 3, none⟩ (.int .i64 (-1))) := o1.trans (outer_setr _ wv 3 _)
          exact ⟨rfl, { h with
            ex := ⟨N, rw, cs, cn, sv, wv, vs, ks, -1, hd.besideR hr o2 (fun k hx => hx.elim .inl (fun e => .inr (.inr e))), (hr.set2 true).set3 (-1), (fun e => by cases e), fun _ => rfl⟩
            bel := below_outer hb hb.size o2 (fun k hx => Nat.le_trans h.wN (hr.types (hx.elim .inl (fun e => .inr (.inr e)))).1)
            N0l := Nat.le_trans hn o2.size }, below_outer q1 hb.size o2 (fun k hx => Nat.le_trans h.wN (hr.types (hx.elim .inl (fun e => .inr (.inr e)))).1)⟩
        · have hAd : ∀ a, A = some a → ¬ DkX g gn rw a.block := fun a ha hx' => by
            obtain ⟨h5, cur, h6⟩ := hA rfl a ha
            rcases hx' with e | e | e
            · have := h.gl; omega
            · have := h.gnl; omega
            · obtain ⟨cur', h7⟩ := h1.wblock e
              rw [h6] at h7
              injection h7 with h7
              injection h7 with h8 h9
              exact absurd h9 (by decide)
          have hAr : ∀ a, A = some a → ¬ RdX r wv a.block := fun a ha hx' => by
            obtain ⟨h5, cur, h6⟩ := hA rfl a ha
            obtain ⟨_, cur', T, h7, h8⟩ := h2.types (hx'.elim .inl (fun e => .inr (.inr e)))
            rw [h6] at h7
            injection h7 with h7
            injection h7 with h9 h10
            subst h10
            rcases h8 with e | e | e <;> exact absurd e (by decide)
          have hst : -1 ≤ stepped till ∧ stepped till ≤ 9223372036854775807 := by unfold stepped; split <;> omega
          refine ⟨0, true, stepped till, putAt nw i bs, ws ++ [(i, bs)], by simp, (write_any h1 h0 hl1 hl2 i hi64 A c bs hx hm hAd (stepped till) rfl (by omega)).mono ?_⟩
          rintro e w1 ⟨rfl, ⟨rw', hd, hmv⟩, ho⟩
          obtain ⟨hr, hb, hn, hk⟩ := h.stepD h1 h2 ho (fun k hx => by rcases hx with e | e | e; exact .inl e; exact .inr (.inr (.inl e)); exact .inr (.inr (.inr e)))
          have q1 : Below w.heap.size W w1 := below_outer (Below.refl _ _) h.bel.size ho (fun k hx => Nat.le_trans h.wB (h1.types (by rcases hx with e | e | e; exact .inl e; exact .inr (.inr (.inl e)); exact .inr (.inr (.inr e)))).1)
          refine ⟨rfl, hk, q1, (rwrite_ok hr hl1 h0 hl2 (stepped till) (rst_eq till h0 hl1) (by omega) hn i hi A c bs hm (bytes_outerX hx ho hAd) hAr).mono ?_⟩
          rintro e2 w2 ⟨rfl, ⟨wv', u, hr', _⟩, o2⟩
          exact ⟨rfl, { h with
            ex := ⟨_, rw', cs, cn, sv, wv', vs, ks ++ [u], stepped till, hd.besideR hr o2 (fun k hx => hx.elim .inl (fun e => .inr (.inr e))), hr', fun _ => rfl, (fun e => by cases e)⟩
            lf := hst
            sy := synced_one h.sy i bs
            bel := below_outer hb hb.size o2 (fun k hx => Nat.le_trans h.wN (hr.types (hx.elim .inl (fun e => .inr (.inr e)))).1)
            N0l := Nat.le_trans hn o2.size }, below_outer q1 hb.size o2 (fun k hx => Nat.le_trans h.wN (hr.types (hx.elim .inl (fun e => .inr (.inr e)))).1)⟩
      · refine ⟨1, true, till, nw, ws, by omega, (write_len h1 i hi64 A m c hm64).mono ?_⟩
        rintro e w1 ⟨rfl, rfl⟩
        refine ⟨rfl, ActKept.refl _, Below.refl _ _, (rwrite_arg h2 (i : Int) A m c (.inr (.inr hm64))).mono ?_⟩
        rintro e2 w2 ⟨rfl, rfl⟩
        exact ⟨rfl, h, Below.refl _ _⟩
end
end Go.Proofs.Ytmmkmpjhmbocfaa

namespace Go.Proofs.Ytmmkmpjhmbocfaa
open Go.ChangeShapes Go.WideShapes Go.ChangeAt Go.RowKit
set_option linter.unusedVariables false
section
variable {w W W' : World} {B N0 g gs gn r n : Nat} {st nw : List UInt8} {ws : List (Nat × List UInt8)} {on : Bool} {left : Int}

set_option maxHeartbeats 1000000 in
theorem Di.flush (h : Di w W B N0 g gs gn r n ws st nw on left) (hws : ws.length ≤ 500) :
    ∃ (er : Nat) (on' : Bool) (left' : Int) (st' : List UInt8) (ws' : List (Nat × List UInt8)), ws'.length ≤ ws.length ∧
      Calls Try.prog 15 #[.pointer (some ⟨g, 0, none⟩)] W fun e w1 => e = .returned (.int .i64 (er : Int)) ∧ ActKept W w1 ∧
        Calls Try.prog 24 #[.pointer (some ⟨r, 0, none⟩)] w1 fun e2 w2 => e2 = .returned (.int .i64 (er : Int)) ∧ Di w w2 B N0 g gs gn r n ws' st' nw on' left' := by
  obtain ⟨N, rw, cs, cn, sv, wv, vs, ks, till, h1, h2, h3, h4⟩ := h.ex
  cases on with
  | false =>
    refine ⟨2, false, left, st, ws, Nat.le_refl _, (flush_off h1).mono ?_⟩
    rintro e w1 ⟨rfl, rfl⟩
    refine ⟨rfl, ActKept.refl _, (rflush_off h2).mono ?_⟩
    rintro e2 w2 ⟨rfl, rfl⟩
    exact ⟨rfl, h⟩
  | true =>
    have ht := h3 rfl
    subst ht
    obtain ⟨hl1, hl2⟩ := h.lf
    by_cases h0 : till = 0
    · subst h0
      refine ⟨2, false, 0, st, ws, Nat.le_refl _, (flush_stop h1).mono ?_⟩
      rintro e w1 ⟨rfl, hd, hg⟩
      have ho := outer_grown hg
      obtain ⟨hr, hb, hn, hk⟩ := h.stepD h1 h2 ho (fun k hx => .inl hx)
      refine ⟨rfl, hk, (rflush_stop hr).mono ?_⟩
      rintro e2 w2 ⟨rfl, rfl⟩
      have o2 : OuterX (RdX r wv) w1 ((w1.setCell ⟨r, 2, none⟩ (.bool true)).setCell ⟨r, 3, none⟩ (.int .i64 (-1))) := (outer_setr w1 wv 2 _).trans (outer_setr _ wv 3 _)
      exact ⟨rfl, { h with
        ex := ⟨N, rw, cs, cn, sv, wv, vs, ks, -1, hd.besideR hr o2 (fun k hx => hx.elim .inl (fun e => .inr (.inr e))), (hr.set2 true).set3 (-1), (fun e => by cases e), fun _ => rfl⟩
        bel := below_outer hb hb.size o2 (fun k hx => Nat.le_trans h.wN (hr.types (hx.elim .inl (fun e => .inr (.inr e)))).1)
        N0l := Nat.le_trans hn o2.size }⟩
    · have hst : -1 ≤ stepped till ∧ stepped till ≤ 9223372036854775807 := by unfold stepped; split <;> omega
      refine ⟨0, true, stepped till, flushN st ws ws.length, [], by simp, (flush_x h1 h0 hl1 hl2 (stepped till) rfl (by omega)).mono ?_⟩
      rintro e w1 ⟨rfl, hd, ho⟩
      obtain ⟨hr, hb, hn, hk⟩ := h.stepD h1 h2 ho (fun k hx => by rcases hx with e | e; exact .inl e; exact .inr (.inl e))
      refine ⟨rfl, hk, (rflush_ok hr hl1 h0 hl2 (stepped till) (rst_eq till h0 hl1) (by omega)).mono ?_⟩
      rintro e2 w2 ⟨rfl, ⟨vs', hr'⟩, o2⟩
      exact ⟨rfl, { h with
        ex := ⟨_, _, cs, cn, sv, _, vs', [], stepped till, hd.besideR hr o2 (fun k hx => hx.elim .inl (fun e => .inr (.inl e))), hr', fun _ => rfl, (fun e => by cases e)⟩
        lf := hst
        sy := h.sy
        bel := below_outer hb hb.size o2 (fun k hx => Nat.le_trans h.wN (hr.types (hx.elim .inl (fun e => .inr (.inl e)))).1)
        N0l := Nat.le_trans hn o2.size }⟩

set_option maxHeartbeats 1000000 in
theorem Di.crash (h : Di w W B N0 g gs gn r n ws st nw on left) (hws : ws.length ≤ 500) (fs : List (Bool × Nat)) (nf : Nat) (hnf : fs.length = nf) (hnm : nf ≤ 1000) (FA KA TA : Option Addr) (fc kc tc : Nat) (hfc : nf ≤ fc) (hfm : fc ≤ maxLen) (hkc : nf ≤ kc) (htc : nf ≤ tc)
    (hF : ∀ (j : Nat) (p : Bool × Nat), fs[j]? = some p → ∃ b off, FA = some ⟨b, off, none⟩ ∧ W.cell? ⟨b, off + j * 2, none⟩ = some (.bool p.1) ∧ W.cell? ⟨b, off + j * 2 + 1, none⟩ = some (.int .u8 (p.2 : Int)) ∧ p.2 < 256) (hFA : ∀ a, FA = some a → N0 ≤ a.block)
    (hK : ∀ (j : Nat) (p : Bool × Nat), fs[j]? = some p → ∃ kb ko tb tf, KA = some ⟨kb, ko, none⟩ ∧ TA = some ⟨tb, tf, none⟩ ∧ w.cell? ⟨kb, ko + j, none⟩ = some (.bool p.1) ∧ w.cell? ⟨tb, tf + j, none⟩ = some (.int .u8 (p.2 : Int)) ∧ p.2 < 256) :
    Calls Try.prog 11 #[.pointer (some ⟨g, 0, none⟩), .slice FA nf fc] W fun e w1 => e = .returned (.tuple #[]) ∧ ActKept W w1 ∧
      Calls Try.prog 26 #[.pointer (some ⟨r, 0, none⟩), .slice KA nf kc, .slice TA nf tc] w1 fun e2 w2 => e2 = .returned (.tuple #[]) ∧ Di w w2 B N0 g gs gn r n [] (crashN st ws fs ws.length) (crashN st ws fs ws.length) true (-1) := by
  obtain ⟨N, rw, cs, cn, sv, wv, vs, ks, till, h1, h2, h3, h4⟩ := h.ex
  refine (crash_x h1 (by omega) FA nf fc fs hnf hnm hfc hfm hF (fun a ha hx => ?_)).mono ?_
  · have := hFA a ha
    have := h.gl
    have := h.gsl
    have := h.gnl
    rcases hx with e | e | e <;> omega
  rintro e w1 ⟨rfl, hd, ho⟩
  obtain ⟨hr, hb, hn, hk⟩ := h.stepD h1 h2 ho (fun k hx => by rcases hx with e | e | e; exact .inl e; exact .inr (.inl e); exact .inr (.inr (.inl e)))
  refine ⟨rfl, hk, (rcrash_any hr (by omega) KA TA nf kc tc fs hnf hkc htc hnm (fun j p hp => ?_)).mono ?_⟩
  · obtain ⟨kb, ko, tb, tf, rfl, rfl, e0, e1, e2⟩ := hK j p hp
    have l0 := World.block_lt_of_cell? _ _ e0
    have l1 := World.block_lt_of_cell? _ _ e1
    refine ⟨kb, ko, tb, tf, rfl, rfl, (hb.cell l0).trans e0, (hb.cell l1).trans e1, e2, fun hx => ?_, fun hx => ?_⟩
    · have := (hr.types (hx.elim .inl (fun e => .inr (.inl e)))).1
      have := h.wN
      have l0' : kb < w.heap.size := l0
      omega
    · have := (hr.types (hx.elim .inl (fun e => .inr (.inl e)))).1
      have := h.wN
      have l1' : tb < w.heap.size := l1
      omega
  · rintro e2 w2 ⟨rfl, ⟨vs', hr'⟩, o2⟩
    exact ⟨rfl, { h with
      ex := ⟨_, _, cs, cn, sv, _, vs', [], -1, hd.besideR hr o2 (fun k hx => hx.elim .inl (fun e => .inr (.inl e))), hr', fun _ => rfl, (fun e => by cases e)⟩
      lf := by omega
      sy := rfl
      bel := below_outer hb hb.size o2 (fun k hx => Nat.le_trans h.wN (hr.types (hx.elim .inl (fun e => .inr (.inl e)))).1)
      N0l := Nat.le_trans hn o2.size }⟩

set_option maxHeartbeats 1000000 in
theorem Di.fail (h : Di w W B N0 g gs gn r n ws st nw on left) (z : Int) (hz : -9223372036854775808 ≤ z ∧ z ≤ 9223372036854775807) :
    ∃ left', Calls Try.prog 10 #[.pointer (some ⟨g, 0, none⟩), .int .i64 z] W fun e w1 => e = .returned (.tuple #[]) ∧ ActKept W w1 ∧ (∃ u, w1.cell? ⟨r, 3, none⟩ = some u) ∧ w1.frozen? ⟨r, 3, none⟩ = false ∧ w1.cell? ⟨r, 2, none⟩ = some (.bool (!on)) ∧
      (on = true → Di w (w1.setCell ⟨r, 3, none⟩ (.int .i64 (max z (-1)))) B N0 g gs gn r n ws st nw on left') ∧ (on = false → Di w ((w1.setCell ⟨r, 3, none⟩ (.int .i64 (max z (-1)))).setCell ⟨r, 3, none⟩ (.int .i64 (-1))) B N0 g gs gn r n ws st nw on left') := by
  obtain ⟨N, rw, cs, cn, sv, wv, vs, ks, till, h1, h2, h3, h4⟩ := h.ex
  cases on with
  | false =>
    refine ⟨left, (fail_off h1 z).mono ?_⟩
    rintro e w1 ⟨rfl, rfl⟩
    have o2 : OuterX (RdX r wv) W ((W.setCell ⟨r, 3, none⟩ (.int .i64 (max z (-1)))).setCell ⟨r, 3, none⟩ (.int .i64 (-1))) := (outer_setr W wv 3 _).trans (outer_setr _ wv 3 _)
    refine ⟨rfl, ActKept.refl _, ⟨_, blk_cell h2.head 3 _ rfl⟩, by simp [World.frozen?, h2.head], blk_cell h2.head 2 _ rfl, (fun e => by cases e), fun _ => { h with
      ex := ⟨N, rw, cs, cn, sv, wv, vs, ks, -1, h1.besideR h2 o2 (fun k hx => hx.elim .inl (fun e => .inr (.inr e))), (h2.set3 (max z (-1))).set3 (-1), (fun e => by cases e), fun _ => rfl⟩
      bel := below_outer h.bel h.bel.size o2 (fun k hx => Nat.le_trans h.wN (h2.types (hx.elim .inl (fun e => .inr (.inr e)))).1)
      N0l := Nat.le_trans h.N0l o2.size }⟩
  | true =>
    refine ⟨max z (-1), (fail_any h1 z).mono ?_⟩
    rintro e w1 ⟨rfl, hd, hg, _⟩
    have ho := outer_grown hg
    obtain ⟨hr, hb, hn, hk⟩ := h.stepD h1 h2 ho (fun k hx => .inl hx)
    have o2 : OuterX (RdX r wv) w1 (w1.setCell ⟨r, 3, none⟩ (.int .i64 (max z (-1)))) := outer_setr w1 wv 3 _
    refine ⟨rfl, hk, ⟨_, blk_cell hr.head 3 _ rfl⟩, by simp [World.frozen?, hr.head], blk_cell hr.head 2 _ rfl, fun _ => { h with
      ex := ⟨N, rw, cs, cn, sv, wv, vs, ks, max z (-1), hd.besideR hr o2 (fun k hx => hx.elim .inl (fun e => .inr (.inr e))), hr.set3 _, fun _ => rfl, (fun e => by cases e)⟩
      lf := by omega
      bel := below_outer hb hb.size o2 (fun k hx => Nat.le_trans h.wN (hr.types (hx.elim .inl (fun e => .inr (.inr e)))).1)
      N0l := Nat.le_trans hn o2.size }, (fun e => by cases e)⟩

theorem Di.read (h : Di w W B N0 g gs gn r n ws st nw on left) (hws : ws.length ≤ 500) (z : Int) :
    ∃ (er m : Nat) (xs : List UInt8), xs.length = m ∧ Calls Try.prog 12 #[.pointer (some ⟨g, 0, none⟩), .int .i64 z] W fun e w1 => ∃ A c, e = .returned (.tuple #[.slice A m c, .int .i64 (er : Int)]) ∧ BytesAt w1 A xs ∧ Below W.heap.size W w1 ∧
      Calls Try.prog 22 #[.pointer (some ⟨r, 0, none⟩), .int .i64 z] w1 fun e2 w2 => ∃ A2 c2, e2 = .returned (.tuple #[.slice A2 m c2, .int .i64 (er : Int)]) ∧ BytesAt w1 A2 xs ∧ w2 = w1 := by
  obtain ⟨N, rw, cs, cn, sv, wv, vs, ks, till, h1, h2, h3, h4⟩ := h.ex
  cases on with
  | false =>
    refine ⟨2, 0, [], rfl, (read_off h1 z).mono ?_⟩
    rintro e w1 ⟨rfl, rfl⟩
    refine ⟨none, 0, rfl, BytesAt.nil _ _, Below.refl _ _, (rread_off h2 z).mono ?_⟩
    rintro e2 w2 ⟨rfl, rfl⟩
    exact ⟨none, 0, rfl, BytesAt.nil _ _, rfl⟩
  | true =>
    by_cases hz : z < 0 ∨ (n : Int) ≤ z
    · refine ⟨1, 0, [], rfl, (read_arg h1 z (by push_cast; omega)).mono ?_⟩
      rintro e w1 ⟨rfl, rfl⟩
      refine ⟨none, 0, rfl, BytesAt.nil _ _, Below.refl _ _, (rread_arg h2 z hz).mono ?_⟩
      rintro e2 w2 ⟨rfl, rfl⟩
      exact ⟨none, 0, rfl, BytesAt.nil _ _, rfl⟩
    · obtain ⟨i, rfl⟩ := Int.eq_ofNat_of_zero_le (show 0 ≤ z by omega)
      have hi : i < n := by omega
      have hl : (secN nw i).length = 64 := length_secN (by rw [h1.lnw]; omega)
      refine ⟨0, 64, secN nw i, hl, (read_ok h1 (i : Int) i rfl (by omega)).mono ?_⟩
      rintro e w1 ⟨A, c, rfl, ho, hb⟩
      refine ⟨A, c, rfl, ho.bytes, hb, (rread_ok (h2.below hb) (by omega) i hi).mono ?_⟩
      rintro e2 w2 ⟨⟨v, rfl, hov⟩, rfl⟩
      have hsy : flushN st ws ws.length = nw := h.sy
      rw [hsy] at hov
      obtain ⟨A2, c2, rfl, hby, _⟩ := hov.slice
      exact ⟨A2, c2, by rw [hl]; rfl, hby, rfl⟩

/-- What both tell. -/
theorem Di.tells (h : Di w W B N0 g gs gn r n ws st nw on left) :
    (Calls Try.prog 16 #[.pointer (some ⟨g, 0, none⟩)] W fun e w' => e = .returned (.bool on) ∧ W = w') ∧
    (Calls Try.prog 18 #[.pointer (some ⟨g, 0, none⟩)] W fun e w' => e = .returned (.int .i64 (ws.length : Int)) ∧ W = w') ∧
    (Calls Try.prog 17 #[.pointer (some ⟨g, 0, none⟩)] W fun e w' => e = .returned (.int .i64 ((64 * n / 256 : Nat) : Int)) ∧ W = w') ∧
    (Calls Try.prog 19 #[.pointer (some ⟨g, 0, none⟩)] W fun e w' => ∃ A c, e = .returned (.slice A (64 * n) c) ∧ OwnS w' W.heap.size (.slice A (64 * n) c) 5 st ∧ Below W.heap.size W w') ∧
    (Calls Try.prog 27 #[.pointer (some ⟨r, 0, none⟩)] W fun e w' => ∃ A c, e = .returned (.slice A (64 * n) c) ∧ OwnS w' W.heap.size (.slice A (64 * n) c) 5 st ∧ Below W.heap.size W w') ∧
    W.cell? ⟨r, 2, none⟩ = some (.bool (!on)) ∧ (∃ WA wc, W.cell? ⟨r, 1, none⟩ = some (.slice WA ws.length wc)) ∧ st.length = 64 * n ∧ 32 ≤ n ∧ n ≤ 2048 := by
  obtain ⟨N, rw, cs, cn, sv, wv, vs, ks, till, h1, h2, h3, h4⟩ := h.ex
  obtain ⟨⟨WA, wc, hwv, _⟩, _⟩ := h2.wform
  refine ⟨on_any h1, waiting_any h1 _ rfl, pages_any h1, image_any h1, (rimage_any h2).mono ?_, blk_cell h2.head 2 _ rfl, ⟨WA, wc, by rw [← hwv]; exact blk_cell h2.head 1 _ rfl⟩, h2.len, h2.lo, h2.hi⟩
  rintro e w' ⟨⟨A, c, rfl, ho⟩, hb⟩
  rw [h2.len] at ho
  exact ⟨A, c, by rw [h2.len], ho, hb⟩
end
end Go.Proofs.Ytmmkmpjhmbocfaa

namespace Go.Proofs.Ytmmkmpjhmbocfaa
open Go.ChangeShapes Go.WideShapes Go.ChangeAt Go.RowKit
set_option linter.unusedVariables false
section
variable {w W w1 : World} {B N0 g gs gn r n p cs cn : Nat}

theorem Di.start {sv : Value} {vs : List Value} (h : Dk w1 B w1.heap.size g gs gn (.slice none 0 0) (p * 256) cs cn (List.replicate (p * 256) 0) (List.replicate (p * 256) 0) [] true (-1))
    (hn : n = 4 * p) (h01 : w1.heap.size ≤ N0) (hb : Below w1.heap.size w1 W) (hbw : Below w.heap.size w W) (hwB : w.heap.size ≤ B) (hWN : N0 ≤ W.heap.size)
    (h2 : Rd W N0 r sv (.slice none 0 0) n vs (List.replicate (64 * n) 0) [] [] false (-1)) :
    Di w W B N0 g gs gn r n [] (List.replicate (64 * n) 0) (List.replicate (64 * n) 0) true (-1) := by
  have e : p * 256 = 64 * n := by omega
  rw [e] at h
  have hN := h.gN
  have hs := h.sN
  have hnn := h.nN
  have hg := h.gB
  refine { ex := ⟨w1.heap.size, _, cs, cn, sv, _, vs, [], -1, h.below hb, h2, fun _ => rfl, fun hh => by cases hh⟩, lf := ⟨by decide, by decide⟩, sy := rfl, bel := hbw, wB := hwB, wN := by omega, gl := by omega, gsl := by omega, gnl := by omega, N0l := hWN }
end
end Go.Proofs.Ytmmkmpjhmbocfaa

namespace Go.Proofs.Ytmmkmpjhmbocfaa
open Go.ChangeShapes Go.WideShapes Go.ChangeAt Go.RowKit
set_option linter.unusedVariables false
section
variable (w : World)
set_option maxRecDepth 100000
theorem new_few (z : Int) (h : z < 8 ∨ 512 < z) : Calls Try.prog 20 #[.int .i64 z] w fun e w' => e = .returned (.tuple #[.pointer none, .int .i64 1]) ∧ w' = w := by
  by_cases h1 : z < 8
  · have d1 : decide (z < (8 : Int)) = true := by simp; omega
    go_enter Try.func20, Try.ntmps20
    go_wp2_with fail
    go_ret2
    exact ⟨rfl, rfl⟩
  · have d1 : decide (z < (8 : Int)) = false := by simp; omega
    have d2 : decide ((512 : Int) < z) = true := by simp; omega
    go_enter Try.func20, Try.ntmps20
    go_wp2_with fail
    go_ret2
    exact ⟨rfl, rfl⟩
set_option maxHeartbeats 2000000 in
theorem acts_few (z : Int) (h : z < 8 ∨ 512 < z) (v : Value) : Calls Try.prog 3 #[.int .i64 z, v] w fun e w' => e = .returned (.bool true) ∧ Below w.heap.size w w' := by
  have hc : decide (z < (8 : Int)) = true ∨ (decide (z < (8 : Int)) = false ∧ decide ((512 : Int) < z) = true) := by
    by_cases h1 : z < 8
    · exact Or.inl (by simp; omega)
    · exact Or.inr ⟨by simp; omega, by simp; omega⟩
  go_enter Try.func3, Try.ntmps3
  go_upto_region 6 with (first
    | (go_at_call 9; (refine (nil_none _).mono ?_); rintro e w1 ⟨rfl, rfl⟩)
    | (go_at_call 10; (refine (nil_fail _ _).mono ?_); rintro e w1 ⟨rfl, rfl⟩)
    | (go_at_call 11; (refine (nil_crash _).mono ?_); rintro e w1 ⟨rfl, rfl⟩)
    | (go_at_call 12; (refine (nil_read _ _).mono ?_); rintro e w1 ⟨rfl, rfl⟩)
    | (go_at_call 13; (refine (tears_any _).mono ?_); rintro e w1 ⟨rfl, hb1⟩)
    | (go_at_call 14; (refine (nil_write _ _ _).mono ?_); rintro e w2 ⟨rfl, rfl⟩)
    | (go_at_call 15; (refine (nil_flush _).mono ?_); rintro e w2 ⟨rfl, rfl⟩)
    | (go_at_call 16; (refine (nil_on _).mono ?_); rintro e w2 ⟨rfl, rfl⟩)
    | (go_at_call 17; (refine (nil_pages _).mono ?_); rintro e w2 ⟨rfl, rfl⟩)
    | (go_at_call 18; (refine (nil_waiting _).mono ?_); rintro e w2 ⟨rfl, rfl⟩)
    | (go_at_call 19; (refine (nil_image _).mono ?_); rintro e w2 ⟨rfl, rfl⟩))
  go_upto_region 7 with (go_at_call 20; (refine (new_few _ z h).mono ?_); rintro e w3 ⟨rfl, rfl⟩)
  rcases hc with d1 | ⟨d1, d2⟩
  · go_wp2_with fail
    go_ret
    exact ⟨rfl, hb1⟩
  · go_wp2_with fail
    go_ret
    exact ⟨rfl, hb1⟩
end
end Go.Proofs.Ytmmkmpjhmbocfaa

namespace Go.Proofs.Ytmmkmpjhmbocfaa
open Go.ChangeShapes Go.WideShapes Go.ChangeAt Go.RowKit
set_option linter.unusedVariables false
section
variable {w W : World} {B N0 g gs gn r n : Nat} {st nw : List UInt8} {ws : List (Nat × List UInt8)} {on : Bool} {left : Int}
theorem addr_add' (b off i : Nat) : (⟨b, off, none⟩ : Addr).add i = ⟨b, off + i, none⟩ := by
  unfold Addr.add
  split
  · rename_i h; simp
  · rfl
theorem bools_below {b : Nat} {w w' : World} {A : Option Addr} {bs : List Bool} (hb : Below b w w') (hw : w.heap.size ≤ b) (h : BoolsAt w A bs) : BoolsAt w' A bs := fun hne => by
  obtain ⟨k, off, e, hc⟩ := h hne
  exact ⟨k, off, e, fun i hi => (hb.cell (p := ⟨k, off + i, none⟩) (Nat.lt_of_lt_of_le (World.block_lt_of_cell? _ _ (hc i hi)) hw)).trans (hc i hi)⟩
theorem bytes_below {b : Nat} {w w' : World} {A : Option Addr} {bs : List UInt8} (hb : Below b w w') (hw : w.heap.size ≤ b) (h : BytesAt w A bs) : BytesAt w' A bs := fun hne => by
  obtain ⟨k, off, e, hc⟩ := h hne
  exact ⟨k, off, e, fun i hi => (hb.cell (p := ⟨k, off + i, none⟩) (Nat.lt_of_lt_of_le (World.block_lt_of_cell? _ _ (hc i hi)) hw)).trans (hc i hi)⟩
theorem Di.fates (h : Di w W B N0 g gs gn r n ws st nw on left) (hws : ws.length ≤ 500) (q : DA) (hq : q.ok w) :
    ∃ st' : List UInt8, Calls Try.prog 25 #[.agg #[.int .i64 q.wh, .int .i64 q.ix, .slice q.BA q.bl q.bc, .slice q.KA q.kl q.kc, .slice q.TA q.tl q.tc]] W fun e w1 => ∃ vF vK vT, e = .returned (.tuple #[vF, vK, vT]) ∧ Below W.heap.size W w1 ∧
      Calls Try.prog 11 #[.pointer (some ⟨g, 0, none⟩), vF] w1 fun e w2 => e = .returned (.tuple #[]) ∧ ActKept w1 w2 ∧
        Calls Try.prog 26 #[.pointer (some ⟨r, 0, none⟩), vK, vT] w2 fun e2 w3 => e2 = .returned (.tuple #[]) ∧ Di w w3 B N0 g gs gn r n [] st' st' true (-1) := by
  obtain ⟨fs, hfs⟩ : ∃ fs, fs = fatesOf q.ks q.ts := ⟨_, rfl⟩
  obtain ⟨nf, hnf⟩ : ∃ nf, nf = fs.length := ⟨_, rfl⟩
  have hlen := fatesOf_len q.ks q.ts
  rw [← hfs, ← hnf, hq.lk, hq.lt] at hlen
  have c1 := hq.ck
  have c2 := hq.ct
  refine ⟨crashN st ws fs ws.length, (fates_any q.wh q.ix (.slice q.BA q.bl q.bc) q.KA q.TA q.kl q.kc q.tl q.tc q.ks q.ts W hq.lk hq.lt hq.ck hq.ct hq.mkk hq.mtt (bools_below h.bel (Nat.le_refl _) hq.xk) (bytes_below h.bel (Nat.le_refl _) hq.xt) hq.nk hq.nt nf (by rw [← hfs]; exact hnf)).mono ?_⟩
  rintro e w1 ⟨⟨FA, fc, rfl, hf1, hf2, hrow⟩, hb⟩
  rw [← hfs] at hrow
  refine ⟨_, _, _, rfl, hb, (h.below hb).crash hws fs nf hnf.symm (by omega) FA q.KA q.TA fc q.kc q.tc hf1 hf2 (by omega) (by omega) ?_ ?_ ?_⟩
  · intro j p hp
    have hj := (List.getElem?_eq_some_iff.1 hp).1
    rcases hrow.2 with ⟨hn, h0⟩ | ⟨G, cap, cur, hv, hG, rest⟩
    · injection hn with e1 e2 e3
      omega
    · injection hv with e1 e2 e3
      subst e1
      have hce := hrow.cells (g := G) rfl
      obtain ⟨k1, k2⟩ := ft_cells fs j p hp
      have a1 := hce _ _ k1
      have a2 := hce _ _ k2
      rw [addr_add'] at a1 a2
      obtain ⟨_, t, _, ht⟩ := fatesOf_at q.ks q.ts j p (by rw [← hfs]; exact hp)
      refine ⟨G, 0, rfl, a1, a2, by rw [ht]; exact t.toNat_lt⟩
  · intro a ha
    rcases hrow.2 with ⟨hn, h0⟩ | ⟨G, cap, cur, hv, hG, rest⟩
    · injection hn with e1 e2 e3
      rw [e1] at ha
      cases ha
    · injection hv with e1 e2 e3
      rw [e1] at ha
      injection ha with ha
      rw [← ha]
      exact Nat.le_trans h.N0l hG
  · intro j p hp
    obtain ⟨hk, t, ht, hpt⟩ := fatesOf_at q.ks q.ts j p (by rw [← hfs]; exact hp)
    obtain ⟨hj1, ek⟩ := List.getElem?_eq_some_iff.1 hk
    obtain ⟨hj2, et⟩ := List.getElem?_eq_some_iff.1 ht
    obtain ⟨kb, ko, eK, hK⟩ := hq.xk (by intro e; rw [e] at hj1; simp at hj1)
    obtain ⟨tb, tf, eT, hT⟩ := hq.xt (by intro e; rw [e] at hj2; simp at hj2)
    refine ⟨kb, ko, tb, tf, eK, eT, by rw [hK j hj1, ek], by rw [hT j hj2, et, hpt], by rw [hpt]; exact t.toNat_lt⟩
end
end Go.Proofs.Ytmmkmpjhmbocfaa
