/- Several texts in one: Package super's Put. Package super's Get: its contract. What the reference tells of a superblock: may it be, and as bytes; and the two turns between the superblocks. -/
import Derived.Test.YtmmkmpjhmbocfaaSuPut
import Derived.Test.YtmmkmpjhmbocfaaPartF
import Derived.Test.YtmmkmpjhmbocfaaPgW
import Derived.Test.YtmmkmpjhmbocfaaPageGet
import Derived.Test.YtmmkmpjhmbocfaaOwnS
namespace Go.Proofs.Ytmmkmpjhmbocfaa
open Go.RowKit CrcM PageM SupM
set_option linter.unusedVariables false

theorem infoSup : (Try.prog.info? 82).map (·.size) = some 5 := by kernel_rfl

set_option maxHeartbeats 1000000 in
set_option maxRecDepth 100000 in
theorem sput_err (s : Sup) (hs : ¬ okS s) (w : World) (C : Array Value) (eC : C = supC s) :
    Calls Try.prog 39 #[.agg C] w fun e w' => e = .returned (.tuple #[.slice none 0 0, .int .i64 1]) ∧ Below w.heap.size w w' := by
  have h5 : Hid (some 5 = some C.size) := Lib.hid (by rw [eC]; rfl)
  have HR : Hid (∀ W, Calls Try.prog 64 #[.agg C] W fun e w' => e = .returned (.bool false) ∧ Below W.heap.size W w') := Lib.hid (fun W => by rw [eC]; have := right_su s W; rw [decide_eq_false hs] at this; exact this)
  have hb1 : Hid (Below w.heap.size w (w.alloc (.cells C 82))) := Lib.hid ((Below.refl _ _).alloc (Nat.le_refl _) _)
  have hg : Hid ((w.alloc (.cells C 82)).heap[w.heap.size]? = some (.cells C 82 (0, 0))) := Lib.hid (heap_alloc_new _ _)
  clear eC hs
  go_enter Try.func39, Try.ntmps39
  go_wp2_with (first
    | (refine wpList_load_row rfl 82 (.tmp 1) rfl w.heap.size rfl 82 C (0, 0) _ hg.out Try.underlying82 rfl (infoSup.trans h5.out) ?_)
    | (go_at_call 64; (refine (HR.out _).mono ?_); rintro e w1 ⟨rfl, hb2⟩))
  go_ret2
  exact ⟨rfl, hb1.out.trans (hb2.mono (by simp))⟩

theorem putHigh_suZ (z : Int) (g o base cap : Nat) (pre mid post : List UInt8) (c n : Nat) (hn : n < 18446744073709551616) (w : World) (ho : o = pre.length) (hown : OwnB w base g cap 5 (pre ++ mid ++ post)) (hl : mid.length ≤ 8) (hp : pre.length ≤ 100000) (hz : z = (n : Int)) :
    Calls Try.prog 65 #[.slice (some ⟨g, o, none⟩) mid.length c, .int .u64 z] w fun e w' => e = .returned (.tuple #[]) ∧ OwnB w' base g cap 5 (pre ++ be n mid.length ++ post) ∧ w.grownBy w' (some g) := by
  subst hz
  exact putHigh_su g o base cap pre mid post c n hn w ho hown hl hp

/-- What stands while a superblock is laid: its box, the row that is laid. -/
structure SupInv (w : World) (s : Sup) (q : Nat) (W : World) (xs : List UInt8) : Prop where
  box_ : W.heap[w.heap.size]? = some (.cells (supC s) 82 (0, 0))
  own_ : OwnB W (w.heap.size + 1) q 15 5 xs
  bel_ : Below w.heap.size w W
theorem SupInv.sub {w : World} {s : Sup} {q : Nat} {W : World} {xs : List UInt8} (h : SupInv w s q W xs) (y : SubW W.heap.size W) : SupInv w s q y.at_ xs :=
  ⟨(y.ok_.block _ (Array.getElem?_eq_some_iff.1 h.box_).1).trans h.box_, h.own_.below y.ok_ h.own_.lt, h.bel_.trans (y.ok_.mono h.bel_.size)⟩
theorem SupInv.grown {w : World} {s : Sup} {q : Nat} {W W2 : World} {xs ys : List UInt8} (h : SupInv w s q W xs) (hg : W.grownBy W2 (some q)) (ho : OwnB W2 (w.heap.size + 1) q 15 5 ys) : SupInv w s q W2 ys := by
  have hq := h.own_.parts.1
  exact ⟨(hg.block _ (Array.getElem?_eq_some_iff.1 h.box_).1 (fun e => by injection e with e; omega)).trans h.box_, ho, h.bel_.grown hg h.bel_.size (fun k hk => by injection hk with hk; omega)⟩

section
variable {w : World} {s : Sup} {q : Nat} {W : World} {xs : List UInt8}
theorem SupInv.c0 (h : SupInv w s q W xs) : W.cell? ⟨w.heap.size, 0, none⟩ = some (.int .u64 (s.gen : Int)) := cell_of_row _ _ _ _ _ _ h.box_
theorem SupInv.c1 (h : SupInv w s q W xs) : W.cell? ⟨w.heap.size, 1, none⟩ = some (.int .i64 s.addr) := cell_of_row _ _ _ _ _ _ h.box_
theorem SupInv.c2 (h : SupInv w s q W xs) : W.cell? ⟨w.heap.size, 2, none⟩ = some (.int .i64 s.height) := cell_of_row _ _ _ _ _ _ h.box_
theorem SupInv.c3 (h : SupInv w s q W xs) : W.cell? ⟨w.heap.size, 3, none⟩ = some (.int .i64 s.bitmap) := cell_of_row _ _ _ _ _ _ h.box_
theorem SupInv.c4 (h : SupInv w s q W xs) : W.cell? ⟨w.heap.size, 4, none⟩ = some (.int .i64 s.pages) := cell_of_row _ _ _ _ _ _ h.box_
end

set_option maxHeartbeats 2000000 in
set_option maxRecDepth 100000 in
theorem sput_ok (s : Sup) (hs : okS s) (hgen : s.gen < 18446744073709551616) (w : World) (C : Array Value) (eC : C = supC s) :
    Calls Try.prog 39 #[.agg C] w fun e w' => ∃ q, e = .returned (.tuple #[.slice (some ⟨q, 0, none⟩) 15 15, .int .i64 0]) ∧ OwnB w' w.heap.size q 15 5 (supB s) ∧ Below w.heap.size w w' := by
  have hr := range_ok hs
  obtain ⟨iu, hiu, hz0, hz1, hz2⟩ := info_parts infoU8
  have hz3 : iu.bytes * 15 ≤ 281474976710656 := by rw [hz2]; omega
  have h5 : Hid (some 5 = some C.size) := Lib.hid (by rw [eC]; rfl)
  have HR : Hid (∀ W, Calls Try.prog 64 #[.agg C] W fun e w' => e = .returned (.bool true) ∧ Below W.heap.size W w') := Lib.hid (fun W => by rw [eC]; have := right_su s W; rw [decide_eq_true hs] at this; exact this)
  have hb1 : Hid (Below w.heap.size w (w.alloc (.cells C 82))) := Lib.hid ((Below.refl _ _).alloc (Nat.le_refl _) _)
  have hg : Hid ((w.alloc (.cells C 82)).heap[w.heap.size]? = some (.cells C 82 (0, 0))) := Lib.hid (heap_alloc_new _ _)
  have EC := Lib.hid eC
  clear eC hs
  go_enter Try.func39, Try.ntmps39
  go_upto_region 4 with (first
    | (refine wpList_load_row rfl 82 (.tmp 1) rfl w.heap.size rfl 82 C (0, 0) _ hg.out Try.underlying82 rfl (infoSup.trans h5.out) ?_)
    | (go_at_call 64; (refine (HR.out _).mono ?_); rintro e w1 ⟨rfl, hb2⟩)
    | (at_make; refine wpList_make_full _ rfl (.const (.int .i64 15)) (.const (.int .i64 15)) 27 rfl (w.heap.size + 1) 5 iu (.int .u8 0) 1 Try.underlying27 hiu hz0 hz1 .i64 .i64 15 15 15 rfl rfl rfl rfl hz3 (by unfold maxLen; omega) (by have := hb2.size; simp at this; omega) ?_; intro w2 ho2 hg2; have ho3 := made8 ho2))
  obtain ⟨q0, hq, hob, _⟩ := ho3.ownB2
  injection hq with hq
  injection hq with hq
  subst hq
  have hs2 := hb2.size
  have INV0 : Hid (SupInv w s w1.heap.size w2 (List.replicate 15 0)) := Lib.hid ⟨by rw [← EC.out]; exact (hg2.block _ (by simp at hs2; omega) (by simp)).trans ((hb2.block _ (by simp)).trans hg.out), hob, hb1.out.trans ((hb2.mono (by simp)).trans ⟨hg2.os, hg2.tape, hg2.output, hg2.size, fun k hk => hg2.block k (by simp at hs2; omega) (by simp)⟩)⟩
  have wa : s.addr = ((s.addr.toNat : Nat) : Int) := by omega
  have wh : s.height = ((s.height.toNat : Nat) : Int) := by omega
  have wb : s.bitmap = ((s.bitmap.toNat : Nat) : Int) := by omega
  have wp : s.pages = ((s.pages.toNat : Nat) : Int) := by omega
  have WA := Lib.hid wa
  have WH := Lib.hid wh
  have WB := Lib.hid wb
  have WP := Lib.hid wp
  clear wa wh wb wp ho2 ho3 hob hg2 hs2
  have f1 := fun y : SubW w2.heap.size w2 => (INV0.out.sub y).c0
  refine region_below_tail 4 w2.heap.size w2 (Below.refl _ _) (by kernel_rfl) (by kernel_rfl) ?_
  simp only [List.take_succ_cons, List.take_zero, List.drop_succ_cons, List.drop_zero]
  repeat (go_big_quiet_step (fail))
  refine wpQuiet_nil ?_
  rintro w' ⟨y, rfl⟩
  clear f1
  go_wp2_with (go_at_call 65; refine (putHigh_suZ _ w1.heap.size 0 (w.heap.size + 1) 15 [] (List.replicate 8 0) (List.replicate 7 0) 15 s.gen hgen _ (by simp [length_be]) (by have := (INV0.out.sub y).own_; simpa using this) (by simp) (by simp [length_be]) rfl).mono ?_; rintro e W3 ⟨rfl, ho3, hg3⟩)
  have INV1 := Lib.hid ((INV0.out.sub y).grown hg3 ho3)
  clear ho3 hg3 INV0 y
  have f1 := fun y : SubW W3.heap.size W3 => (INV1.out.sub y).c1
  refine region_below_tail 6 W3.heap.size W3 (Below.refl _ _) (by kernel_rfl) (by kernel_rfl) ?_
  simp only [List.take_succ_cons, List.take_zero, List.drop_succ_cons, List.drop_zero]
  repeat (go_big_quiet_step (fail))
  refine wpQuiet_nil ?_
  rintro w' ⟨y, rfl⟩
  clear f1
  go_wp2_with (go_at_call 65; refine (putHigh_suZ _ w1.heap.size 8 (w.heap.size + 1) 15 (be s.gen 8) (List.replicate 2 0) (List.replicate 5 0) 7 s.addr.toNat (by omega) _ (by simp [length_be]) (by have := (INV1.out.sub y).own_; simpa using this) (by simp) (by simp [length_be]) WA.out).mono ?_; rintro e W4 ⟨rfl, ho4, hg4⟩)
  have INV2 := Lib.hid ((INV1.out.sub y).grown hg4 ho4)
  clear ho4 hg4 INV1 y
  have f1 := fun y : SubW W4.heap.size W4 => (INV2.out.sub y).c2
  refine region_below_tail 6 W4.heap.size W4 (Below.refl _ _) (by kernel_rfl) (by kernel_rfl) ?_
  simp only [List.take_succ_cons, List.take_zero, List.drop_succ_cons, List.drop_zero]
  repeat (go_big_quiet_step (fail))
  refine wpQuiet_nil ?_
  rintro w' ⟨y, rfl⟩
  clear f1
  go_wp2_with (go_at_call 65; refine (putHigh_suZ _ w1.heap.size 10 (w.heap.size + 1) 15 (be s.gen 8 ++ be s.addr.toNat 2) (List.replicate 1 0) (List.replicate 4 0) 5 s.height.toNat (by omega) _ (by simp [length_be]) (by have := (INV2.out.sub y).own_; simpa using this) (by simp) (by simp [length_be]) WH.out).mono ?_; rintro e W5 ⟨rfl, ho5, hg5⟩)
  have INV3 := Lib.hid ((INV2.out.sub y).grown hg5 ho5)
  clear ho5 hg5 INV2 y
  have f1 := fun y : SubW W5.heap.size W5 => (INV3.out.sub y).c3
  refine region_below_tail 5 W5.heap.size W5 (Below.refl _ _) (by kernel_rfl) (by kernel_rfl) ?_
  simp only [List.take_succ_cons, List.take_zero, List.drop_succ_cons, List.drop_zero]
  repeat (go_big_quiet_step (fail))
  refine wpQuiet_nil ?_
  rintro w' ⟨y, rfl⟩
  clear f1
  go_wp2_with (go_at_call 65; refine (putHigh_suZ _ w1.heap.size 11 (w.heap.size + 1) 15 (be s.gen 8 ++ be s.addr.toNat 2 ++ be s.height.toNat 1) (List.replicate 2 0) (List.replicate 2 0) 4 s.bitmap.toNat (by omega) _ (by simp [length_be]) (by have := (INV3.out.sub y).own_; simpa using this) (by simp) (by simp [length_be]) WB.out).mono ?_; rintro e W6 ⟨rfl, ho6, hg6⟩)
  have INV4 := Lib.hid ((INV3.out.sub y).grown hg6 ho6)
  clear ho6 hg6 INV3 y
  have f1 := fun y : SubW W6.heap.size W6 => (INV4.out.sub y).c4
  refine region_below_tail 5 W6.heap.size W6 (Below.refl _ _) (by kernel_rfl) (by kernel_rfl) ?_
  simp only [List.take_succ_cons, List.take_zero, List.drop_succ_cons, List.drop_zero]
  repeat (go_big_quiet_step (fail))
  refine wpQuiet_nil ?_
  rintro w' ⟨y, rfl⟩
  clear f1
  go_wp2_with (go_at_call 65; refine (putHigh_suZ _ w1.heap.size 13 (w.heap.size + 1) 15 (be s.gen 8 ++ be s.addr.toNat 2 ++ be s.height.toNat 1 ++ be s.bitmap.toNat 2) (List.replicate 2 0) [] 2 s.pages.toNat (by omega) _ (by simp [length_be]) (by have := (INV4.out.sub y).own_; simpa using this) (by simp) (by simp [length_be]) WP.out).mono ?_; rintro e W7 ⟨rfl, ho7, hg7⟩)
  have INV5 := Lib.hid ((INV4.out.sub y).grown hg7 ho7)
  clear ho7 hg7 INV4 y
  go_wp2_with fail
  go_ret2
  have hI := INV5.out
  refine ⟨w1.heap.size, rfl, ?_, hI.bel_⟩
  have ho := hI.own_
  simp only [List.length_replicate, List.append_nil] at ho
  exact OwnS.mono ho (Nat.le_succ _)
end Go.Proofs.Ytmmkmpjhmbocfaa

namespace Go.Proofs.Ytmmkmpjhmbocfaa
open Go.RowKit CrcM PageM SupM
set_option linter.unusedVariables false

def zeroS : Sup := ⟨0, 0, 0, 0, 0⟩
/-- Are some bytes those of a superblock? -/
def goodS (xs : List UInt8) : Prop := xs.length = 15 ∧ okS (parseS xs)
instance (xs : List UInt8) : Decidable (goodS xs) := by unfold goodS; infer_instance
def toldS (xs : List UInt8) : Sup := if goodS xs then parseS xs else zeroS
def numS (xs : List UInt8) : Nat := if goodS xs then 0 else 3
theorem not_okS_zero : ¬ okS zeroS := fun h => by have := h.1; revert this; decide
theorem infoSup0 : (Try.prog.info? 82).map (·.size) = some #[Value.int .u64 0, .int .i64 0, .int .i64 0, .int .i64 0, .int .i64 0].size := by kernel_rfl

theorem sget_short (A : Option Addr) (cap : Nat) (xs : List UInt8) (w : World) (hl : xs.length ≤ 140737488355328) (h : xs.length ≠ 15) :
    Calls Try.prog 43 #[.slice A xs.length cap] w fun e w' => e = .returned (.tuple #[.agg (supC zeroS), .int .i64 3]) ∧ Below w.heap.size w w' := by
  have d1 : ((xs.length : Int) != 15) = true := by rw [bne_iff_ne]; omega
  go_enter Try.func43, Try.ntmps43
  go_wp2_with fail
  exact bodyPost_ret (v := .tuple #[.agg (supC zeroS), .int .i64 3]) (results_cell_tmp (p := 2) (u := 3) (ty := 82) rfl _ _ w.heap.size 82 (supC zeroS) (0, 0) _ rfl (heap_alloc_new _ _) Try.underlying82 rfl infoSup0) rfl
    ⟨rfl, (Below.refl _ _).alloc (Nat.le_refl _) _⟩

theorem su_len (A : Option Addr) (cap n : Nat) (xs : List UInt8) (w : World) (hn : xs.length = n) (hx : BytesAt w A xs) (hl : n ≤ 8) :
    Calls Try.prog 66 #[.slice A n cap] w fun e w' => e = .returned (.int .u64 (val xs)) ∧ w = w' := by
  subst hn
  exact takeHigh_su A cap xs w hx hl

set_option maxHeartbeats 8000000 in
set_option maxRecDepth 100000 in
theorem sget_full (A : Option Addr) (cap : Nat) (xs : List UInt8) (w : World) (hx : BytesAt w A xs) (hc : xs.length ≤ cap) (h : xs.length = 15) :
    Calls Try.prog 43 #[.slice A 15 cap] w fun e w' => e = .returned (.tuple #[.agg (supC (toldS xs)), .int .i64 (numS xs : Int)]) ∧ Below w.heap.size w w' := by
  have hb : Below w.heap.size w (w.alloc (.cells (supC zeroS) 82)) := (Below.refl _ _).alloc (Nat.le_refl _) _
  obtain ⟨ab, ao, rfl, hcell⟩ := hx (by intro h0; subst h0; simp at h)
  have hc8 : (8 : Int) ≤ (cap : Int) := by omega
  have hc10 : (10 : Int) ≤ (cap : Int) := by omega
  have hc11 : (11 : Int) ≤ (cap : Int) := by omega
  have hc13 : (13 : Int) ≤ (cap : Int) := by omega
  have hc15 : (15 : Int) ≤ (cap : Int) := by omega
  have hn8 : ¬ cap = 8 := by omega
  have hn10 : ¬ cap = 10 := by omega
  have hn11 : ¬ cap = 11 := by omega
  have hn13 : ¬ cap = 13 := by omega
  obtain ⟨s, es⟩ : ∃ s, s = parseS xs := ⟨_, rfl⟩
  have hlt := parse_lt xs h
  rw [← es] at hlt
  obtain ⟨zg, za, zh, zb, zp⟩ := s
  obtain ⟨h0, h1, h2, h3, h4, h5, h6, h7, h8⟩ := hlt
  dsimp only at h0 h1 h2 h3 h4 h5 h6 h7 h8
  have eg : zg = val (xs.take 8) := congrArg Sup.gen es
  have ea : za = (val ((xs.drop 8).take 2) : Int) := congrArg Sup.addr es
  have eh : zh = (val ((xs.drop 10).take 1) : Int) := congrArg Sup.height es
  have eb : zb = (val ((xs.drop 11).take 2) : Int) := congrArg Sup.bitmap es
  have ep : zp = (val ((xs.drop 13).take 2) : Int) := congrArg Sup.pages es
  have hwa : IntKind.i64.wrap za = za := by simp only [IntKind.wrap_i64]; omega
  have hwh : IntKind.i64.wrap zh = zh := by simp only [IntKind.wrap_i64]; omega
  have hwb : IntKind.i64.wrap zb = zb := by simp only [IntKind.wrap_i64]; omega
  have hwp : IntKind.i64.wrap zp = zp := by simp only [IntKind.wrap_i64]; omega
  have HC1 : Hid (∀ w', Below (w.heap.size + 1) (w.alloc (.cells (supC zeroS) 82)) w' → Calls Try.prog 66 #[.slice (some ⟨ab, ao, none⟩) 8 cap] w' fun e w'' => e = .returned (.int .u64 (zg : Int)) ∧ w' = w'') := fun w' hw => by
    rw [eg]
    exact su_len _ _ _ _ _ (by simp; omega) (((hx.below hb).take 8).below (Below.mono hw (by simp))) (by omega)
  have HC2 : Hid (∀ w', Below (w.heap.size + 1) (w.alloc (.cells (supC zeroS) 82)) w' → Calls Try.prog 66 #[.slice (some ⟨ab, ao + 8, none⟩) 2 (cap - 8)] w' fun e w'' => e = .returned (.int .u64 za) ∧ w' = w'') := fun w' hw => by
    rw [ea]
    exact su_len _ _ _ _ _ (by simp; omega) ((piece (hx.below hb) 8 2 (by omega)).below (Below.mono hw (by simp))) (by omega)
  have HC3 : Hid (∀ w', Below (w.heap.size + 1) (w.alloc (.cells (supC zeroS) 82)) w' → Calls Try.prog 66 #[.slice (some ⟨ab, ao + 10, none⟩) 1 (cap - 10)] w' fun e w'' => e = .returned (.int .u64 zh) ∧ w' = w'') := fun w' hw => by
    rw [eh]
    exact su_len _ _ _ _ _ (by simp; omega) ((piece (hx.below hb) 10 1 (by omega)).below (Below.mono hw (by simp))) (by omega)
  have HC4 : Hid (∀ w', Below (w.heap.size + 1) (w.alloc (.cells (supC zeroS) 82)) w' → Calls Try.prog 66 #[.slice (some ⟨ab, ao + 11, none⟩) 2 (cap - 11)] w' fun e w'' => e = .returned (.int .u64 zb) ∧ w' = w'') := fun w' hw => by
    rw [eb]
    exact su_len _ _ _ _ _ (by simp; omega) ((piece (hx.below hb) 11 2 (by omega)).below (Below.mono hw (by simp))) (by omega)
  have HC5 : Hid (∀ w', Below (w.heap.size + 1) (w.alloc (.cells (supC zeroS) 82)) w' → Calls Try.prog 66 #[.slice (some ⟨ab, ao + 13, none⟩) 2 (cap - 13)] w' fun e w'' => e = .returned (.int .u64 zp) ∧ w' = w'') := fun w' hw => by
    rw [ep]
    exact su_len _ _ _ _ _ (by simp; omega) ((piece (hx.below hb) 13 2 (by omega)).below (Below.mono hw (by simp))) (by omega)
  have hB1 : w.heap.size + 1 ≤ (w.alloc (.cells (supC zeroS) 82)).heap.size := by simp
  have hgd : Hid (goodS xs ↔ okS ⟨zg, za, zh, zb, zp⟩) := Lib.hid (by rw [es]; exact ⟨fun h => h.2, fun h0 => ⟨h, h0⟩⟩)
  have ES := Lib.hid es
  have H := Lib.hid h
  clear es eg ea eh eb ep h hx hcell
  go_enter Try.func43, Try.ntmps43
  go_upto_region 3 with fail
  go_cut [4] (fun s4 wx => ∃ p, s4 = .pointer (some ⟨p, 0, none⟩) ∧ Below (w.heap.size + 1) (w.alloc (.cells (supC zeroS) 82)) wx ∧
    wx.heap[p]? = some (.cells (supC ⟨zg, za, zh, zb, zp⟩) 82 (0, 0)))
  case first =>
    go_region_held3 (fun w' => Below (w.heap.size + 1) (w.alloc (.cells (supC zeroS) 82)) w')
      (first
        | assumption
        | (exact Below.refl _ _)
        | (with_reducible refine below_alloc hB1 ?_ _; assumption)
        | (exact below_drewN (Below.refl _ _) 1)
        | (exact below_drewN (below_alloc hB1 (Below.refl _ _) _) 1))
      (first
        | (go_at_call 66; with_reducible refine Calls.mono (HC1.out _ ?_) ?_; assumption; rintro e w' ⟨rfl, rfl⟩)
        | (go_at_call 66; with_reducible refine Calls.mono (HC2.out _ ?_) ?_; assumption; rintro e w' ⟨rfl, rfl⟩)
        | (go_at_call 66; with_reducible refine Calls.mono (HC3.out _ ?_) ?_; assumption; rintro e w' ⟨rfl, rfl⟩)
        | (go_at_call 66; with_reducible refine Calls.mono (HC4.out _ ?_) ?_; assumption; rintro e w' ⟨rfl, rfl⟩)
        | (go_at_call 66; with_reducible refine Calls.mono (HC5.out _ ?_) ?_; assumption; rintro e w' ⟨rfl, rfl⟩))
    all_goals (go_wp2_with fail; go_meet)
    all_goals exact ⟨_, rfl, by assumption, heap_alloc2_new _ _ _⟩
  case rest =>
    obtain ⟨p, rfl, hbx, hp⟩ := hcut
    have hR : wc.heap[w.heap.size]? = some (.cells (supC zeroS) 82 (0, 0)) := (hbx.block _ (by omega)).trans (heap_alloc_new _ _)
    have hBw : Below w.heap.size w wc := hb.trans (hbx.mono (by omega))
    have hsz : w.heap.size + 1 ≤ wc.heap.size := by have := hbx.size; simp at this; omega
    have hpl : p < wc.heap.size := (Array.getElem?_eq_some_iff.1 hp).1
    have HR := Lib.hid hR
    have HP := Lib.hid hp
    have HPl := Lib.hid hpl
    clear hR hp hpl
    obtain ⟨S, eS⟩ : ∃ S : Sup, S = ⟨zg, za, zh, zb, zp⟩ := ⟨_, rfl⟩
    rw [← eS] at hgd HP ES
    obtain ⟨C, eC⟩ : ∃ C, C = supC S := ⟨_, rfl⟩
    have HP' : Hid (wc.heap[p]? = some (.cells C 82 (0, 0))) := Lib.hid (by rw [eC]; exact HP.out)
    have h5 : Hid (some 5 = some C.size) := Lib.hid (by rw [eC]; rfl)
    have HZ : Hid ((supC zeroS).size = C.size) := Lib.hid (by rw [eC]; rfl)
    have HO : Hid (C.all (·.oneCell') = true) := Lib.hid (by rw [eC]; simp [supC, Value.oneCell'])
    by_cases hok : okS S
    · have HRT : Hid (∀ W, Calls Try.prog 64 #[.agg C] W fun e w' => e = .returned (.bool true) ∧ Below W.heap.size W w') := Lib.hid (fun W => by rw [eC]; have := right_su S W; rw [decide_eq_true hok] at this; exact this)
      have HF : Hid (toldS xs = S ∧ numS xs = 0) := Lib.hid (by
        have hg := hgd.out.2 hok
        unfold toldS numS
        rw [if_pos hg, if_pos hg]
        exact ⟨ES.out.symm, rfl⟩)
      have EC := Lib.hid eC
      clear hok eC eS
      go_wp2_with (first
        | (go_at_call 64; (refine (HRT.out _).mono ?_); rintro e w3 ⟨rfl, hb3⟩)
        | (refine wpList_load_row rfl 82 (.tmp 4) rfl p rfl 82 C (0, 0) _ HP'.out Try.underlying82 rfl (infoSup.trans h5.out) ?_)
        | (refine wpList_load_row rfl 82 (.tmp 4) rfl p rfl 82 C (0, 0) _ ((hb3.block _ HPl.out).trans HP'.out) Try.underlying82 rfl (infoSup.trans h5.out) ?_)
        | (refine wpList_store_row rfl 82 (.tmp 2) (.tmp 34) rfl w.heap.size C rfl rfl 82 (supC zeroS) ((hb3.block _ (by omega)).trans HR.out) (infoSup.trans h5.out) HZ.out HO.out ?_))
      refine bodyPost_ret (v := .tuple #[.agg C, .int .i64 0]) (results_cell_tmp (p := 2) (u := 3) (ty := 82) rfl _ _ w.heap.size 82 C (0, 0) _ rfl (setRow_heap _ _ (supC zeroS) _ _ _ ((hb3.block _ (by omega)).trans HR.out)) Try.underlying82 rfl (infoSup.trans h5.out)) rfl
        ⟨?_, below_setRow (hBw.trans (hb3.mono (by omega))) (Nat.le_refl _) _⟩
      rw [HF.out.1, HF.out.2, EC.out]
      rfl
    · have HRT : Hid (∀ W, Calls Try.prog 64 #[.agg C] W fun e w' => e = .returned (.bool false) ∧ Below W.heap.size W w') := Lib.hid (fun W => by rw [eC]; have := right_su S W; rw [decide_eq_false hok] at this; exact this)
      have HF : Hid (toldS xs = zeroS ∧ numS xs = 3) := Lib.hid (by
        have hg : ¬ goodS xs := fun h => hok (hgd.out.1 h)
        unfold toldS numS
        rw [if_neg hg, if_neg hg]
        exact ⟨rfl, rfl⟩)
      clear hok eC eS
      go_wp2_with (first
        | (go_at_call 64; (refine (HRT.out _).mono ?_); rintro e w3 ⟨rfl, hb3⟩)
        | (refine wpList_load_row rfl 82 (.tmp 4) rfl p rfl 82 C (0, 0) _ HP'.out Try.underlying82 rfl (infoSup.trans h5.out) ?_)
        | (refine wpList_store_row rfl 82 (.tmp 2) (.tmp 33) rfl w.heap.size (supC zeroS) rfl rfl 82 (supC zeroS) ((hb3.block _ (by omega)).trans HR.out) infoSup0 rfl (by simp [supC, zeroS, Value.oneCell']) ?_))
      refine bodyPost_ret (v := .tuple #[.agg (supC zeroS), .int .i64 3]) (results_cell_tmp (p := 2) (u := 3) (ty := 82) rfl _ _ w.heap.size 82 (supC zeroS) (0, 0) _ rfl (setRow_heap _ _ (supC zeroS) _ _ _ ((hb3.block _ (by omega)).trans HR.out)) Try.underlying82 rfl infoSup0) rfl
        ⟨?_, below_setRow (hBw.trans (hb3.mono (by omega))) (Nat.le_refl _) _⟩
      rw [HF.out.1, HF.out.2]
      rfl

theorem sget_any (A : Option Addr) (cap n : Nat) (xs : List UInt8) (w : World) (hn : xs.length = n) (hl : n ≤ 140737488355328) (hx : BytesAt w A xs) (hc : n ≤ cap) :
    Calls Try.prog 43 #[.slice A n cap] w fun e w' => e = .returned (.tuple #[.agg (supC (toldS xs)), .int .i64 (numS xs : Int)]) ∧ Below w.heap.size w w' := by
  subst hn
  by_cases h : xs.length = 15
  · have := sget_full A cap xs w hx hc h
    rw [h]; exact this
  · have hg : ¬ goodS xs := fun h0 => h h0.1
    have e1 : toldS xs = zeroS := if_neg hg
    have e2 : numS xs = 3 := if_neg hg
    rw [e1, e2]
    exact sget_short A cap xs w hl h
end Go.Proofs.Ytmmkmpjhmbocfaa

namespace Go.Proofs.Ytmmkmpjhmbocfaa
open Go.RowKit CrcM PageM SupM
set_option linter.unusedVariables false

theorem cells_new (w : World) (cs : Array Value) (t : TypeId) (k : Nat) (v : Value) (h : cs[k]? = some v) : (w.alloc (.cells cs t)).cell? ⟨w.heap.size, k, none⟩ = some v :=
  (cell_of_row _ _ _ _ _ _ (heap_alloc_new _ _)).trans h

set_option maxHeartbeats 1000000 in
theorem to_su (s : Sup) (w : World) : Calls Try.prog 40 #[.agg (supC s)] w fun e w' => e = .returned (.agg (supC s)) ∧ Below w.heap.size w w' := by
  obtain ⟨g, a, h, b, p⟩ := s
  unfold supC
  dsimp only
  go_enter Try.func40, Try.ntmps40
  go_wp2_with fail
  exact bodyPost_ret (v := .agg #[.int .u64 (g : Int), .int .i64 a, .int .i64 h, .int .i64 b, .int .i64 p]) (results_cell_row (p := 2) (ty := 82) rfl _ _ (w.heap.size + 1) 82 #[.int .u64 (g : Int), .int .i64 a, .int .i64 h, .int .i64 b, .int .i64 p] (0, 0) _ rfl (heap_alloc2_new _ _ _) Try.underlying82 rfl infoSup) rfl ⟨rfl, ((Below.refl _ _).alloc (Nat.le_refl _) _).alloc (by simp) _⟩

theorem infoRef : (Try.prog.info? 77).map (·.size) = some 5 := by kernel_rfl
set_option maxHeartbeats 1000000 in
theorem from_su (s : Sup) (w : World) : Calls Try.prog 45 #[.agg (supC s)] w fun e w' => e = .returned (.agg (supC s)) ∧ Below w.heap.size w w' := by
  obtain ⟨g, a, h, b, p⟩ := s
  unfold supC
  dsimp only
  go_enter Try.func45, Try.ntmps45
  go_wp2_with fail
  exact bodyPost_ret (v := .agg #[.int .u64 (g : Int), .int .i64 a, .int .i64 h, .int .i64 b, .int .i64 p]) (results_cell_row (p := 2) (ty := 77) rfl _ _ (w.heap.size + 1) 77 #[.int .u64 (g : Int), .int .i64 a, .int .i64 h, .int .i64 b, .int .i64 p] (0, 0) _ rfl (heap_alloc2_new _ _ _) Try.underlying77 rfl infoRef) rfl ⟨rfl, ((Below.refl _ _).alloc (Nat.le_refl _) _).alloc (by simp) _⟩

set_option maxHeartbeats 2000000 in
theorem right_ref (s : Sup) (w : World) : Calls Try.prog 42 #[.agg (supC s)] w fun e w' => e = .returned (.bool (decide (okS s))) ∧ Below w.heap.size w w' := by
  obtain ⟨g, a, h, b, p⟩ := s
  unfold supC
  dsimp only
  have hbl : Below w.heap.size w (w.alloc (.cells #[.int .u64 (g : Int), .int .i64 a, .int .i64 h, .int .i64 b, .int .i64 p] 77)) := (Below.refl _ _).alloc (Nat.le_refl _) _
  by_cases h1 : (g : Int) < 1
  · have d1 : decide ((g : Int) < 1) = true := by simpa using h1
    have hf : decide (okS ⟨g, a, h, b, p⟩) = false := decide_eq_false (by unfold okS; dsimp only; omega)
    rw [hf]
    go_enter Try.func42, Try.ntmps42
    go_wp2_with fail
    go_ret
    exact ⟨rfl, hbl⟩
  have d1 : decide ((g : Int) < 1) = false := by simpa using h1
  by_cases h2 : h < 0
  · have d2 : decide (h < 0) = true := by simpa using h2
    have hf : decide (okS ⟨g, a, h, b, p⟩) = false := decide_eq_false (by unfold okS rootOk; dsimp only; omega)
    rw [hf]
    go_enter Try.func42, Try.ntmps42
    go_wp2_with fail
    go_ret
    exact ⟨rfl, hbl⟩
  have d2 : decide (h < 0) = false := by simpa using h2
  by_cases h3 : 5 < h
  · have d3 : decide (5 < h) = true := by simpa using h3
    have hf : decide (okS ⟨g, a, h, b, p⟩) = false := decide_eq_false (by unfold okS rootOk; dsimp only; omega)
    rw [hf]
    go_enter Try.func42, Try.ntmps42
    go_wp2_with fail
    go_ret
    exact ⟨rfl, hbl⟩
  have d3 : decide (5 < h) = false := by simpa using h3
  by_cases h4 : p < 8
  · have d4 : decide (p < 8) = true := by simpa using h4
    have hf : decide (okS ⟨g, a, h, b, p⟩) = false := decide_eq_false (by unfold okS rootOk; dsimp only; omega)
    rw [hf]
    go_enter Try.func42, Try.ntmps42
    go_wp2_with fail
    go_ret
    exact ⟨rfl, hbl⟩
  have d4 : decide (p < 8) = false := by simpa using h4
  by_cases h5 : 512 < p
  · have d5 : decide (512 < p) = true := by simpa using h5
    have hf : decide (okS ⟨g, a, h, b, p⟩) = false := decide_eq_false (by unfold okS rootOk; dsimp only; omega)
    rw [hf]
    go_enter Try.func42, Try.ntmps42
    go_wp2_with fail
    go_ret
    exact ⟨rfl, hbl⟩
  have d5 : decide (512 < p) = false := by simpa using h5
  by_cases h6 : b < 2
  · have d6 : decide (b < 2) = true := by simpa using h6
    have hf : decide (okS ⟨g, a, h, b, p⟩) = false := decide_eq_false (by unfold okS rootOk; dsimp only; omega)
    rw [hf]
    go_enter Try.func42, Try.ntmps42
    go_wp2_with fail
    go_ret
    exact ⟨rfl, hbl⟩
  have d6 : decide (b < 2) = false := by simpa using h6
  by_cases h7 : p ≤ b
  · have d7 : decide (p ≤ b) = true := by simpa using h7
    have hf : decide (okS ⟨g, a, h, b, p⟩) = false := decide_eq_false (by unfold okS rootOk; dsimp only; omega)
    rw [hf]
    go_enter Try.func42, Try.ntmps42
    go_wp2_with fail
    go_ret
    exact ⟨rfl, hbl⟩
  have d7 : decide (p ≤ b) = false := by simpa using h7
  by_cases h8 : h = 0
  · subst h8
    have hf : decide (okS ⟨g, a, 0, b, p⟩) = (a == 0) := by
      rw [Bool.eq_iff_iff, decide_eq_true_eq, beq_iff_eq]; unfold okS rootOk; dsimp only; omega
    rw [hf]
    go_enter Try.func42, Try.ntmps42
    go_wp2_with fail
    go_ret
    exact ⟨rfl, hbl⟩
  have d8 : (h == 0) = false := by simpa using h8
  by_cases h9 : 2 ≤ a
  · have d9 : decide (2 ≤ a) = true := by simpa using h9
    by_cases h10 : a < p
    · have d10 : decide (a < p) = true := by simpa using h10
      have hf : decide (okS ⟨g, a, h, b, p⟩) = (a != b) := by
        rw [Bool.eq_iff_iff, decide_eq_true_eq, bne_iff_ne]; unfold okS rootOk; dsimp only; omega
      rw [hf]
      go_enter Try.func42, Try.ntmps42
      go_wp2_with fail
      go_ret
      exact ⟨rfl, hbl⟩
    · have d10 : decide (a < p) = false := by simpa using h10
      have hf : decide (okS ⟨g, a, h, b, p⟩) = false := decide_eq_false (by unfold okS rootOk; dsimp only; omega)
      rw [hf]
      go_enter Try.func42, Try.ntmps42
      go_wp2_with fail
      go_ret
      exact ⟨rfl, hbl⟩
  · have d9 : decide (2 ≤ a) = false := by simpa using h9
    have hf : decide (okS ⟨g, a, h, b, p⟩) = false := decide_eq_false (by unfold okS rootOk; dsimp only; omega)
    rw [hf]
    go_enter Try.func42, Try.ntmps42
    go_wp2_with fail
    go_ret
    exact ⟨rfl, hbl⟩

theorem be_snoc8 (n L : Nat) : be (n / 256) L ++ [UInt8.ofNat n] = be n (L + 1) := rfl

theorem bytesAt_seven (w : World) (z0 z1 z2 z3 z4 z5 z6 : Int) (c0 c1 c2 c3 c4 c5 c6 : UInt8) (t : TypeId)
    (h0 : z0 = (c0.toNat : Int)) (h1 : z1 = (c1.toNat : Int)) (h2 : z2 = (c2.toNat : Int)) (h3 : z3 = (c3.toNat : Int)) (h4 : z4 = (c4.toNat : Int)) (h5 : z5 = (c5.toNat : Int)) (h6 : z6 = (c6.toNat : Int)) :
    BytesAt (w.alloc (.cells #[.int .u8 z0, .int .u8 z1, .int .u8 z2, .int .u8 z3, .int .u8 z4, .int .u8 z5, .int .u8 z6] t)) (some ⟨w.heap.size, 0, none⟩) [c0, c1, c2, c3, c4, c5, c6] := by
  subst h0 h1 h2 h3 h4 h5 h6
  have h := (OwnS.new w t [c0, c1, c2, c3, c4, c5, c6] w.heap.size (Nat.le_refl _) (by simp [maxLen])).bytes
  exact h

set_option maxHeartbeats 1000000 in
set_option maxRecDepth 100000 in
theorem put_ref (s : Sup) (hs : okS s) (hgen : s.gen < 18446744073709551616) (w : World) :
    Calls Try.prog 44 #[.agg (supC s)] w fun e w' => ∃ A' c', e = .returned (.slice A' 15 c') ∧ OwnS w' (w.heap.size + 1) (.slice A' 15 c') 5 (supB s) ∧ Below w.heap.size w w' := by
  have hr := range_ok hs
  clear hs
  obtain ⟨x, a, h, b, p⟩ := s
  dsimp only at hr hgen
  obtain ⟨m, rfl⟩ : ∃ m : Nat, a = (m : Int) := ⟨a.toNat, by omega⟩
  obtain ⟨k, rfl⟩ : ∃ k : Nat, h = (k : Int) := ⟨h.toNat, by omega⟩
  obtain ⟨q, rfl⟩ : ∃ q : Nat, b = (q : Int) := ⟨b.toNat, by omega⟩
  obtain ⟨r, rfl⟩ : ∃ r : Nat, p = (r : Int) := ⟨p.toNat, by omega⟩
  obtain ⟨r1, r2, r3, r4, r5, r6, r7, r8⟩ := hr
  have hB : supB ⟨x, (m : Int), (k : Int), (q : Int), (r : Int)⟩ = be x 8 ++ [UInt8.ofNat (m / 256), UInt8.ofNat m, UInt8.ofNat k, UInt8.ofNat (q / 256), UInt8.ofNat q, UInt8.ofNat (r / 256), UInt8.ofNat r] := by
    unfold supB
    simp only [Int.toNat_natCast, List.append_assoc]
    rfl
  rw [hB]
  clear hB
  unfold supC
  dsimp only
  have hbox : (w.alloc (.cells #[.int .u64 (x : Int), .int .i64 (m : Int), .int .i64 (k : Int), .int .i64 (q : Int), .int .i64 (r : Int)] 77)).heap[w.heap.size]? = some (.cells #[.int .u64 (x : Int), .int .i64 (m : Int), .int .i64 (k : Int), .int .i64 (q : Int), .int .i64 (r : Int)] 77 (0, 0)) := heap_alloc_new _ _
  have hbl : Below w.heap.size w (w.alloc (.cells #[.int .u64 (x : Int), .int .i64 (m : Int), .int .i64 (k : Int), .int .i64 (q : Int), .int .i64 (r : Int)] 77)) := (Below.refl _ _).alloc (Nat.le_refl _) _
  have hsz : (w.alloc (.cells #[.int .u64 (x : Int), .int .i64 (m : Int), .int .i64 (k : Int), .int .i64 (q : Int), .int .i64 (r : Int)] 77)).heap.size = w.heap.size + 1 := by simp
  have HBX := Lib.hid hbox
  have HBL := Lib.hid hbl
  have HSZ := Lib.hid hsz
  clear hbox hbl hsz
  go_enter Try.func44, Try.ntmps44
  go_wp2_with fail
  go_loopw [3, 4] (fun l i wr => ∃ (j cl : Nat) (Al : Option Addr), j ≤ 8 ∧ i = .int .i64 (7 - (j : Int)) ∧ l = .slice Al j cl ∧ OwnS wr (w.heap.size + 1) (.slice Al j cl) 5 (be (x / 256 ^ (8 - j)) j) ∧ Hid (wr.heap[w.heap.size]? = some (.cells #[.int .u64 (x : Int), .int .i64 (m : Int), .int .i64 (k : Int), .int .i64 (q : Int), .int .i64 (r : Int)] 77 (0, 0))) ∧ Below w.heap.size w wr ∧ w.heap.size + 1 ≤ wr.heap.size) (fun _ i _ => (intOf i + 1).toNat)
  case atStart => exact ⟨0, 0, none, by omega, rfl, rfl, OwnS.nil _ _ _, HBX, HBL.out, by rw [HSZ.out]; exact Nat.le_refl _⟩
  case round =>
    obtain ⟨j, cl, Al, hj, rfl, rfl, hol, hbx, hb, hz1⟩ := hrel
    by_cases hlt : j < 8
    · obtain ⟨i, hi⟩ : ∃ i, i = 7 - j := ⟨_, rfl⟩
      have hii : (7 : Int) - (j : Int) = (i : Int) := by omega
      rw [hii]
      obtain ⟨s, hs⟩ : ∃ s, s = 8 * i := ⟨_, rfl⟩
      have hsi : (8 : Int) * (i : Int) = (s : Int) := by omega
      have hpw : (2 : Nat) ^ s = 256 ^ i := by rw [hs, Nat.pow_mul]
      obtain ⟨t, ht⟩ : ∃ t, t = x / 2 ^ s := ⟨_, rfl⟩
      have hsn : be (x / 256 ^ (8 - j)) j ++ [UInt8.ofNat t] = be (x / 256 ^ (8 - (j + 1))) (j + 1) := by
        rw [← be_snoc8, Nat.div_div_eq_div_mul, ← Nat.pow_succ, ht, hpw, show 8 - (j + 1) = i by omega, show i.succ = 8 - j by omega]
      have hz : (x : Int) / 2 ^ s % 256 = ((UInt8.ofNat t).toNat : Int) := by
        have e : ((x : Int) / 2 ^ s) = ((x / 2 ^ s : Nat) : Int) := by simp
        rw [e, ← ht, UInt8.toNat_ofNat']
        omega
      have hlen : (be (x / 256 ^ (8 - j)) j).length + 1 ≤ 140737488355328 := by rw [length_be]; omega
      have hl2 : (be (x / 256 ^ (8 - (j + 1))) (j + 1)).length = j + 1 := length_be _ _
      have c0 : wr.cell? ⟨w.heap.size, 0, none⟩ = some (.int .u64 (x : Int)) := cell_of_row _ _ _ _ _ _ hbx.out
      have HSN := Lib.hid hsn
      have HZ := Lib.hid hz
      have HL2 := Lib.hid hl2
      have HI := Lib.hid hi
      have hs64 : s < 64 := by omega
      clear hii hs hpw ht hsn hz hl2 hi
      go_wp2_with (at_builtin; refine wpList_append_z rfl (.tmp 9) (.tmp 16) 27 rfl Try.underlying27 infoU8 rfl (hol.alloc _) _ _ 1 [UInt8.ofNat t] (be (x / 256 ^ (8 - (j + 1))) (j + 1)) rfl rfl (bytesAt_one _ _ _ _ HZ.out) HSN.out hlen (by simp; omega) ?_; rw [HL2.out]; intro A3 c3 w3 ho3 hg3)
      go_roundw
      case rel =>
        have hown := hol.alloc (.cells #[.int .u8 ((x : Int) / 2 ^ s % 256)] 5)
        have hg4 : wr.grownBy w3 (Value.slice Al j cl).ownBlock := (grown_alloc wr _ _).trans' hg3
        refine ⟨j + 1, c3, A3, by omega, ?_, rfl, ho3, Lib.hid ?_, ?_, Nat.le_trans hz1 hg4.size⟩
        · have := HI.out
          have e : (7 : Int) - ((j + 1 : Nat) : Int) = (i : Int) - 1 := by omega
          rw [e]
        · exact (hg4.block _ (by omega) (fun h => by have := hol.block _ h.symm; omega)).trans hbx.out
        · exact hb.grown hg4 hb.size (fun k hk => by have := hol.block _ hk; omega)
      case measure => simp [intOf]
    · obtain rfl : j = 8 := by omega
      have c1 : wr.cell? ⟨w.heap.size, 1, none⟩ = some (.int .i64 (m : Int)) := cell_of_row _ _ _ _ _ _ hbx.out
      have c2 : wr.cell? ⟨w.heap.size, 2, none⟩ = some (.int .i64 (k : Int)) := cell_of_row _ _ _ _ _ _ hbx.out
      have c3 : wr.cell? ⟨w.heap.size, 3, none⟩ = some (.int .i64 (q : Int)) := cell_of_row _ _ _ _ _ _ hbx.out
      have c4 : wr.cell? ⟨w.heap.size, 4, none⟩ = some (.int .i64 (r : Int)) := cell_of_row _ _ _ _ _ _ hbx.out
      rw [show 8 - 8 = 0 from rfl, Nat.pow_zero, Nat.div_one] at hol
      have hL := Lib.hid (length_be 8 x)
      go_wp2_with (at_builtin; refine wpList_append_z rfl (.tmp 18) (.tmp 43) 27 rfl Try.underlying27 infoU8 rfl (hol.alloc _) _ _ 7 [UInt8.ofNat (m / 256), UInt8.ofNat m, UInt8.ofNat k, UInt8.ofNat (q / 256), UInt8.ofNat q, UInt8.ofNat (r / 256), UInt8.ofNat r] _ rfl rfl (bytesAt_seven _ _ _ _ _ _ _ _ _ _ _ _ _ _ _ _ (by rw [UInt8.toNat_ofNat']; omega) (by rw [UInt8.toNat_ofNat']; omega) (by rw [UInt8.toNat_ofNat']; omega) (by rw [UInt8.toNat_ofNat']; omega) (by rw [UInt8.toNat_ofNat']; omega) (by rw [UInt8.toNat_ofNat']; omega) (by rw [UInt8.toNat_ofNat']; omega)) rfl (by rw [hL.out]; omega) (by simp; omega) ?_; simp only [List.length_append, List.length_cons, List.length_nil, hL.out, Nat.reduceAdd]; intro A3 c3 w3 ho3 hg3)
      go_ret
      have hg4 : wr.grownBy w3 (Value.slice Al 8 cl).ownBlock := (grown_alloc wr _ _).trans' hg3
      exact ⟨A3, c3, rfl, ho3, hb.grown hg4 hb.size (fun k hk => by have := hol.block _ hk; omega)⟩
end Go.Proofs.Ytmmkmpjhmbocfaa
