/- Several texts in one: Package node's Put of whatever node. Entries turned into the reference's, and back; what the least key is. Slices of one-cell elements that a call owns, nil among them: append, read, store. No program is named here. Own rows of whatever elements: what frames leave of them; what they read as. -/
import Derived.Test.YtgkddhncfaeidaaPart08
import Derived.Deep.MidRow
import Derived.Test.YtgkddhncfaeidaaPart04
import Derived.Test.YtgkddhncfaeidaaPart00
import Derived.Great.BuildSlice
set_option linter.unusedSimpArgs false
set_option linter.unusedVariables false
namespace Go.Proofs.Ytgkddhncfaeidaa
open Go.ChangeShapes Go.WideShapes Go.ChangeAt Go.RowKit CrcM PageM
set_option linter.unusedVariables false

theorem IsB.mkT {P : Prop} (h : P) : IsB true P := by unfold IsB; simp [h]
def NodeD.size (n : NodeD) : Nat := if n.leaf = true then n.es.length else n.ds.length
def kidB (p : KeyD × Int) : List UInt8 := kyB p.1 ++ be (wn p.2) 2
/-- A node's bytes. -/
def nodeB (n : NodeD) : List UInt8 := UInt8.ofNat n.size :: (n.es.flatMap enB ++ (n.ks.zip n.ds).flatMap kidB)

theorem size_any (n : NodeD) (l : NdL) (w : World) :
    Calls Try.prog 15 #[.agg #[.bool n.leaf, .slice l.EA n.es.length l.ec, .slice l.KA n.ks.length l.kc, .slice l.DA n.ds.length l.dc]] w fun e w' => e = .returned (.int .i64 (n.size : Int)) ∧ Below w.heap.size w w' := by
  obtain ⟨lf, es, ks, ds⟩ := n
  obtain ⟨EA, ec, KA, kc, DA, dc⟩ := l
  dsimp only
  cases lf with
  | true =>
    go_enter Try.func15, Try.ntmps15
    go_wp2_with fail
    go_ret
    exact ⟨rfl, (Below.refl _ _).alloc (Nat.le_refl _) _⟩
  | false =>
    go_enter Try.func15, Try.ntmps15
    go_wp2_with fail
    go_ret
    exact ⟨rfl, (Below.refl _ _).alloc (Nat.le_refl _) _⟩

theorem okNode_sizes {n : NodeD} (h : okNode n) : n.es.length ≤ 7 ∧ n.ks.length = n.ds.length ∧ n.ds.length ≤ 16 ∧ n.size ≤ 16 ∧ 1 ≤ n.size := by
  unfold okNode at h
  unfold NodeD.size
  split at h
  · obtain ⟨h1, h2, h3, h4, _⟩ := h
    rw [h1, h2, if_pos (by assumption)]
    simp
    omega
  · obtain ⟨h1, h2, ⟨h3, h4, _⟩, _⟩ := h
    rw [h1, if_neg (by assumption)]
    simp
    omega
theorem flat_take {α : Type} {f : α → List UInt8} {l : List α} {k : Nat} {x : α} (h : l[k]? = some x) : (l.take (k + 1)).flatMap f = (l.take k).flatMap f ++ f x := by
  rw [List.take_add_one, h]
  simp
theorem flat_len {α : Type} {f : α → List UInt8} {m : Nat} (hf : ∀ x, (f x).length = m) (l : List α) : (l.flatMap f).length = m * l.length := by
  induction l with
  | nil => simp
  | cons a t ih => simp [ih, hf, Nat.mul_succ, Nat.add_comm]
theorem length_kidB (p : KeyD × Int) : (kidB p).length = 14 := by simp [kidB, length_kyB, length_be]

set_option maxRecDepth 100000 in
set_option maxHeartbeats 8000000 in
theorem put_yes (n : NodeD) (l : NdL) (hn : okNode n) (w : World) (h : NodeAt w n l) (L : Nat) (hL : L = (nodeB n).length) :
    Calls Try.prog 9 #[.agg #[.bool n.leaf, .slice l.EA n.es.length l.ec, .slice l.KA n.ks.length l.kc, .slice l.DA n.ds.length l.dc]] w fun e w' => ∃ A c, e = .returned (.tuple #[.slice A L c, .int .i64 0]) ∧ OwnS w' w.heap.size (.slice A L c) 5 (nodeB n) ∧ Below w.heap.size w w' := by
  obtain ⟨hs1, hs2, hs3, hs4, hs5⟩ := okNode_sizes hn
  have hr0 : Hid (∀ w', NodeAt w' n l → Calls Try.prog 13 #[.agg #[.bool n.leaf, .slice l.EA n.es.length l.ec, .slice l.KA n.ks.length l.kc, .slice l.DA n.ds.length l.dc]] w' fun e w1 => e = .returned (.bool true) ∧ Below w'.heap.size w' w1) := Lib.hid (fun w' h' => right_any n l true (IsB.mkT hn) w' h')
  have hz0 : Hid (∀ w', Calls Try.prog 15 #[.agg #[.bool n.leaf, .slice l.EA n.es.length l.ec, .slice l.KA n.ks.length l.kc, .slice l.DA n.ds.length l.dc]] w' fun e w1 => e = .returned (.int .i64 (n.size : Int)) ∧ Below w'.heap.size w' w1) := Lib.hid (fun w' => size_any n l w')
  obtain ⟨sz, hsz⟩ : ∃ s, n.size = s := ⟨_, rfl⟩
  rw [hsz] at hz0 hs4 hs5
  obtain ⟨b0, hb0⟩ : ∃ b, UInt8.ofNat sz = b := ⟨_, rfl⟩
  have hb0n : b0.toNat = sz := by rw [← hb0, UInt8.toNat_ofNat']; omega
  have hnb : nodeB n = b0 :: (n.es.flatMap enB ++ (n.ks.zip n.ds).flatMap kidB) := by unfold nodeB; rw [hsz, hb0]
  rw [hnb] at hL ⊢
  obtain ⟨lf, es, ks, ds⟩ := n
  obtain ⟨EA, ec, KA, kc, DA, dc⟩ := l
  dsimp only at *
  obtain ⟨ne, hne⟩ : ∃ x, es.length = x := ⟨_, rfl⟩
  obtain ⟨nk, hnk⟩ : ∃ x, ks.length = x := ⟨_, rfl⟩
  obtain ⟨nd, hnd⟩ : ∃ x, ds.length = x := ⟨_, rfl⟩
  rw [hne] at hs1
  rw [hnk, hnd] at hs2
  rw [hnd] at hs3
  have H := Lib.hid h
  rw [hne, hnk, hnd] at hr0 hz0 ⊢
  have HNE := Lib.hid hne
  have HNK := Lib.hid hnk
  have HND := Lib.hid hnd
  have HL := Lib.hid hL
  have HS2 := Lib.hid hs2
  have HB0N := Lib.hid hb0n
  obtain ⟨W, eW⟩ : ∃ W, W = w.alloc (.cells #[.bool lf, .slice EA ne ec, .slice KA nk kc, .slice DA nd dc] 34) := ⟨_, rfl⟩
  have hrow : W.heap[w.heap.size]? = some (.cells #[.bool lf, .slice EA ne ec, .slice KA nk kc, .slice DA nd dc] 34 (0, 0)) := by rw [eW]; exact heap_alloc_new _ _
  have hbel : Below w.heap.size w W := by rw [eW]; exact (Below.refl _ _).alloc (Nat.le_refl _) _
  have EW := Lib.hid eW.symm
  have HB := Lib.hid hbel
  have HROW := Lib.hid hrow
  have hwu : IntKind.u8.wrap (sz : Int) = (b0.toNat : Int) := by rw [hb0n, IntKind.wrap_u8]; omega
  clear h hne hnk hnd eW hrow hbel hL hsz hb0 hb0n hnb hs2 hn
  go_enter Try.func9, Try.ntmps9
  go_upto_region 1 with fail
  rw [EW.out]
  go_upto_region 3 with (first
    | (refine wpList_load_row rfl 34 (.tmp 1) rfl w.heap.size rfl 34 _ (0, 0) _ HROW.out Try.underlying34 rfl (by kernel_rfl) ?_)
    | (go_at_call 13; refine (hr0.out _ (H.out.below HB.out)).mono ?_; rintro e w1 ⟨rfl, hb1⟩; have HB1 := Lib.hid hb1; have HR1 := Lib.hid ((hb1.block w.heap.size (Array.getElem?_eq_some_iff.1 HROW.out).1).trans HROW.out); clear hb1))
  go_upto_region 4 with (first
    | (refine wpList_load_row rfl 34 (.tmp 1) rfl w.heap.size rfl 34 _ (0, 0) _ HR1.out Try.underlying34 rfl (by kernel_rfl) ?_)
    | (go_at_call 15; refine (hz0.out _).mono ?_; rintro e w2 ⟨rfl, hb2⟩; have HB2 := Lib.hid hb2; have HR2 := Lib.hid ((hb2.block w.heap.size (Array.getElem?_eq_some_iff.1 HR1.out).1).trans HR1.out); clear hb2))
  have hbw : Below w.heap.size w w2 := HB.out.trans ((HB1.out.trans (HB2.out.mono HB1.out.size)).mono HB.out.size)
  have HBW := Lib.hid hbw
  obtain ⟨B, hBe⟩ : ∃ B, B = w2.heap.size := ⟨_, rfl⟩
  obtain ⟨W3, eW3⟩ : ∃ W3, W3 = w2.alloc (.cells #[.int .u8 (b0.toNat : Int)] 5) := ⟨_, rfl⟩
  have hown : OwnS W3 B (.slice (some ⟨B, 0, none⟩) 1 1) 5 [b0] := by rw [eW3, hBe]; exact OwnS.new w2 5 [b0] w2.heap.size (Nat.le_refl _) (by simp [maxLen])
  have hb3 : Below B w2 W3 := by rw [eW3]; exact (Below.refl _ _).alloc (by omega) _
  rw [← eW3, ← hBe]
  have HOWN := Lib.hid hown
  have HB3 := Lib.hid hb3
  have HBE := Lib.hid hBe
  have hwB : w.heap.size < B := by rw [hBe]; exact (Array.getElem?_eq_some_iff.1 HR2.out).1
  have HWB := Lib.hid hwB
  clear hown hb3 hBe eW3 hwB hbw
  have HX : Hid (∀ W', Below B w2 W' → W'.heap[w.heap.size]? = some (.cells #[.bool lf, .slice EA ne ec, .slice KA nk kc, .slice DA nd dc] 34 (0, 0))) := Lib.hid (fun W' hb => (hb.block _ HWB.out).trans HR2.out)
  have k1 := nd_cell (HX.out _ HB3.out) 1 _ rfl
  go_upto_region 5 with fail
  clear k1
  go_loopw [4, 19] (fun b i wr => ∃ (k : Nat) (A : Option Addr) (c : Nat), k ≤ ne ∧ i = .int .i64 k ∧ b = .slice A (1 + 30 * k) c ∧ Hid (OwnS wr B (.slice A (1 + 30 * k) c) 5 (b0 :: (es.take k).flatMap enB)) ∧ Hid (Below B w2 wr)) (fun _ i _ => ne - (intOf i).toNat)
  case atStart => exact ⟨0, _, 1, by omega, rfl, rfl, by simpa using HOWN, HB3⟩
  case round =>
    obtain ⟨k, A, c, hk, rfl, rfl, HO, HBR⟩ := hrel
    by_cases hlt : k < ne
    · obtain ⟨e, he⟩ : ∃ e, es[k]? = some e := ⟨_, List.getElem?_eq_getElem (by rw [HNE.out]; exact hlt)⟩
      have hwr : Below w.heap.size w wr := HBW.out.trans (HBR.out.mono (by have := HWB.out; omega))
      obtain ⟨b, off, rfl, hcell⟩ := (H.out.below hwr).e (by intro e; have := HNE.out; dsimp only at e; rw [e] at this; simp at this; omega)
      obtain ⟨c0, c1, c2, c3, c4, c5, c6, c7⟩ := hcell k e he
      have HE := Lib.hid he
      have hBs : B ≤ wr.heap.size := by rw [HBE.out]; exact HBR.out.size
      have HBS := Lib.hid hBs
      clear hcell he hwr hBs
      obtain ⟨ll, hll⟩ : ∃ ll, ll = 1 + 30 * k := ⟨_, rfl⟩
      rw [← hll] at HO ⊢
      have HLL := Lib.hid hll
      clear hll
      go_upto_region 7 with fail
      go_wp2_with (go_at_call 33; refine (putEntry_b B ll A c _ _ (by rw [HLL.out]; simp [flat_len length_enB]; have := HNE.out; omega) (HO.out.alloc _) (by simp; have := HBS.out; omega) e (by have := HLL.out; omega) (1 + 30 * (k + 1)) (by have := HLL.out; omega)).mono ?_; rintro e' w5 ⟨A5, c5, rfl, ho5, hb5, -⟩; have HO5 := Lib.hid ho5; have HB5 := Lib.hid hb5; clear ho5 hb5)
      go_roundw
      case rel => exact ⟨k + 1, A5, c5, by omega, by go_num, rfl, Lib.hid (by rw [flat_take HE.out]; simpa using HO5.out), Lib.hid ((HBR.out.alloc (by have := HBS.out; omega) _).trans HB5.out)⟩
      case measure => first | (simp [intOf]; done) | (simp [intOf]; omega)
    · obtain rfl : k = ne := by omega
      have hL0 : ∃ L0, L0 = 1 + 30 * k := ⟨_, rfl⟩
      obtain ⟨L0, hL0⟩ := hL0
      rw [← hL0] at HO ⊢
      have htk : es.take k = es := List.take_of_length_le (by have := HNE.out; omega)
      rw [htk] at HO
      have HL0 := Lib.hid hL0
      obtain ⟨pre, hpre⟩ : ∃ p, p = b0 :: es.flatMap enB := ⟨_, rfl⟩
      rw [← hpre] at HO
      have HPRE := Lib.hid hpre
      have hplen : pre.length = L0 := by rw [hpre, hL0]; simp [flat_len length_enB]; have := HNE.out; omega
      have HPL := Lib.hid hplen
      obtain ⟨W0, rfl⟩ : ∃ W0, W0 = wr := ⟨_, rfl⟩
      have k3 := nd_cell (HX.out _ HBR.out) 3 _ rfl
      clear hL0 htk hpre hplen
      have hd1 : decide ((k : Int) < (k : Int)) = false := by simp
      go_upto_region 10 with fail
      clear k3
      go_loopw [4, 30] (fun b i wr => ∃ (j : Nat) (A : Option Addr) (c : Nat), j ≤ nd ∧ i = .int .i64 j ∧ b = .slice A (L0 + 14 * j) c ∧ Hid (OwnS wr B (.slice A (L0 + 14 * j) c) 5 (pre ++ ((ks.zip ds).take j).flatMap kidB)) ∧ Hid (Below B w2 wr)) (fun _ i _ => nd - (intOf i).toNat)
      case atStart => exact ⟨0, _, c, by omega, rfl, rfl, by simpa using HO, HBR⟩
      case round =>
        clear HO HBR
        obtain ⟨j, A, c, hj, rfl, rfl, HO, HBR⟩ := hrel
        by_cases hlt2 : j < nd
        · obtain ⟨e, he⟩ : ∃ e, ks[j]? = some e := ⟨_, List.getElem?_eq_getElem (by have := HNK.out; have := HS2.out; omega)⟩
          obtain ⟨z, hz⟩ : ∃ z, ds[j]? = some z := ⟨_, List.getElem?_eq_getElem (by have := HND.out; omega)⟩
          have hzip : (ks.zip ds)[j]? = some (e, z) := by rw [List.getElem?_zip_eq_some]; exact ⟨he, hz⟩
          have hjk : j < nk := by have := HS2.out; omega
          have hwr : Below w.heap.size w wr := HBW.out.trans (HBR.out.mono (by have := HWB.out; omega))
          obtain ⟨bk, ok, rfl, hck⟩ := (H.out.below hwr).k (by intro e'; have h1 := HNK.out; dsimp only at e'; rw [e'] at h1; simp at h1; omega)
          obtain ⟨bd, od, rfl, hcd⟩ := (H.out.below hwr).d (by intro e'; have h1 := HND.out; dsimp only at e'; rw [e'] at h1; simp at h1; omega)
          obtain ⟨c0, c1⟩ := hck j e he
          have c2 := hcd j z hz
          have k2 := nd_cell (HX.out _ HBR.out) 2 _ rfl
          have hBs : B ≤ wr.heap.size := by rw [HBE.out]; exact HBR.out.size
          have HBS := Lib.hid hBs
          have HZIP := Lib.hid hzip
          obtain ⟨ll, hll⟩ : ∃ ll, ll = L0 + 14 * j := ⟨_, rfl⟩
          rw [← hll] at HO ⊢
          obtain ⟨lm, hlm⟩ : ∃ lm, lm = ll + 12 := ⟨_, rfl⟩
          have HLL := Lib.hid hll
          have HLM := Lib.hid hlm
          have HW1 : Hid (IntKind.u64.wrap z = (wn z : Int)) := Lib.hid (wn_eq z)
          clear hck hcd he hz hzip hwr hBs hll hlm
          go_wp2_with (first
            | (go_at_call 34; refine (putKey_b B ll A c _ _ (by rw [HLL.out, List.length_append, HPL.out, flat_len length_kidB]; simp; have := HND.out; have := HNK.out; have := HS2.out; omega) HO.out HBS.out e (by have := HLL.out; have := HL0.out; omega) lm HLM.out).mono ?_; rintro e' w5 ⟨A5, c5, rfl, ho5, hb5, -⟩; have HO5 := Lib.hid ho5; have HB5 := Lib.hid hb5; clear ho5 hb5)
            | (go_at_call 35; rw [HW1.out]; refine (putHigh_b B lm A5 c5 _ _ (by rw [HLM.out, HLL.out, List.length_append, List.length_append, HPL.out, flat_len length_kidB, length_kyB]; simp; have := HND.out; have := HNK.out; have := HS2.out; omega) HO5.out (Nat.le_trans HBS.out HB5.out.size) 2 2 rfl (by omega) (wn z) (wn_lt z) (by have := HLM.out; have := HLL.out; have := HL0.out; omega) (L0 + 14 * (j + 1)) (by have := HLM.out; have := HLL.out; omega)).mono ?_; rintro e' w6 ⟨A6, c6, rfl, ho6, hb6, -⟩; have HO6 := Lib.hid ho6; have HB6 := Lib.hid hb6; clear ho6 hb6))
          go_roundw
          case rel => exact ⟨j + 1, A6, c6, by omega, by go_num, rfl, Lib.hid (by rw [flat_take HZIP.out]; simpa [kidB] using HO6.out), Lib.hid ((HBR.out.trans HB5.out).trans HB6.out)⟩
          case measure => first | (simp [intOf]; done) | (simp [intOf]; omega)
        · obtain rfl : j = nd := by omega
          have hlen : L0 + 14 * j = L := by rw [HL.out, List.length_cons, List.length_append, flat_len length_enB, flat_len length_kidB, HL0.out]; simp; have := HND.out; have := HNK.out; have := HS2.out; have := HNE.out; omega
          have htk : (ks.zip ds).take j = ks.zip ds := List.take_of_length_le (by simp; have := HND.out; omega)
          rw [htk, HPRE.out] at HO
          rw [hlen] at HO ⊢
          have HO2 : Hid (OwnS wr w.heap.size (.slice A L c) 5 (b0 :: (es.flatMap enB ++ (ks.zip ds).flatMap kidB))) := Lib.hid (by simpa using HO.out.mono (by have := HWB.out; omega))
          clear HO hlen htk
          go_wp2_with fail
          go_ret2
          exact ⟨A, c, rfl, HO2.out, HBW.out.trans (HBR.out.mono (by have := HWB.out; omega))⟩
end Go.Proofs.Ytgkddhncfaeidaa

namespace Go.Proofs.Ytgkddhncfaeidaa
open Go.ChangeShapes Go.WideShapes Go.ChangeAt Go.RowKit CrcM PageM
set_option linter.unusedVariables false

set_option maxRecDepth 100000 in
set_option maxHeartbeats 4000000 in
theorem entry_any (e : EntD) (w : World) :
    Calls Try.prog 36 #[.agg #[.int .i64 e.se, .int .i64 e.st, .int .i64 e.en, .int .i64 e.ad, .int .i64 e.le, .int .i64 e.cn, .int .i64 e.co, .int .u32 e.cr]] w fun e' w' => e' = .returned (.agg #[.int .i64 e.se, .int .i64 e.st, .int .i64 e.en, .int .i64 e.ad, .int .i64 e.le, .int .i64 e.cn, .int .i64 e.co, .int .u32 e.cr]) ∧ Below w.heap.size w w' := by
  go_enter Try.func36, Try.ntmps36
  go_wp2_with fail
  exact bodyPost_ret (v := .agg #[.int .i64 e.se, .int .i64 e.st, .int .i64 e.en, .int .i64 e.ad, .int .i64 e.le, .int .i64 e.cn, .int .i64 e.co, .int .u32 e.cr]) (results_cell_row (p := 2) (ty := 77) rfl _ _ (w.heap.size + 1) 77 #[.int .i64 e.se, .int .i64 e.st, .int .i64 e.en, .int .i64 e.ad, .int .i64 e.le, .int .i64 e.cn, .int .i64 e.co, .int .u32 e.cr] (0, 0) _ rfl (heap_alloc2_new _ _ _) Try.underlying77 rfl (by kernel_rfl)) rfl ⟨rfl, below_two (Below.refl _ _)⟩
set_option maxRecDepth 100000 in
set_option maxHeartbeats 4000000 in
theorem back_any (e : EntD) (w : World) :
    Calls Try.prog 31 #[.agg #[.int .i64 e.se, .int .i64 e.st, .int .i64 e.en, .int .i64 e.ad, .int .i64 e.le, .int .i64 e.cn, .int .i64 e.co, .int .u32 e.cr]] w fun e' w' => e' = .returned (.agg #[.int .i64 e.se, .int .i64 e.st, .int .i64 e.en, .int .i64 e.ad, .int .i64 e.le, .int .i64 e.cn, .int .i64 e.co, .int .u32 e.cr]) ∧ Below w.heap.size w w' := by
  go_enter Try.func31, Try.ntmps31
  go_wp2_with fail
  exact bodyPost_ret (v := .agg #[.int .i64 e.se, .int .i64 e.st, .int .i64 e.en, .int .i64 e.ad, .int .i64 e.le, .int .i64 e.cn, .int .i64 e.co, .int .u32 e.cr]) (results_cell_row (p := 2) (ty := 51) rfl _ _ (w.heap.size + 1) 51 #[.int .i64 e.se, .int .i64 e.st, .int .i64 e.en, .int .i64 e.ad, .int .i64 e.le, .int .i64 e.cn, .int .i64 e.co, .int .u32 e.cr] (0, 0) _ rfl (heap_alloc2_new _ _ _) Try.underlying51 rfl (by kernel_rfl)) rfl ⟨rfl, below_two (Below.refl _ _)⟩
end Go.Proofs.Ytgkddhncfaeidaa

namespace Go.Proofs.Ytgkddhncfaeidaa
open Go.RowKit

/-- The slice value over A reads as these cells. -/
def CellsAt (w : World) (A : Option Addr) (us : List Value) : Prop :=
  us ≠ [] → ∃ b off, A = some ⟨b, off, none⟩ ∧ ∀ k (h : k < us.length), w.cell? ⟨b, off + k, none⟩ = some us[k]

section
variable {w w' : World} {base : Nat} {v : Value} {E : TypeId} {us vs : List Value}

theorem CellsAt.cells {A : Option Addr} (h : CellsAt w A us) (hy : us ≠ []) : ∃ ad, A = some ad ∧ ∀ j u, us[j]? = some u → w.cell? (ad.add j) = some u := by
  obtain ⟨b, off, ha, hc⟩ := h hy
  refine ⟨⟨b, off, none⟩, ha, fun j u hu => ?_⟩
  obtain ⟨hj, e⟩ := List.getElem?_eq_some_iff.1 hu
  have hadd : (⟨b, off, none⟩ : Addr).add j = ⟨b, off + j, none⟩ := by unfold Addr.add; split <;> simp_all
  rw [hadd, hc j hj, e]
variable {P : Program}
end
end Go.Proofs.Ytgkddhncfaeidaa

namespace Go.Proofs.Ytgkddhncfaeidaa
open Go.ChangeShapes Go.WideShapes Go.ChangeAt Go.RowKit CrcM PageM
set_option linter.unusedVariables false

section
variable {w w' : World} {base sz n : Nat} {v : Value} {E : TypeId} {us : List Value}
theorem row_form (h : w.ownsRow base E sz v n us) : ∃ A c, v = .slice A n c := by
  rcases h.2 with ⟨rfl, rfl⟩ | ⟨g, cap, cur, rfl, _⟩
  · exact ⟨none, 0, rfl⟩
  · exact ⟨_, _, rfl⟩
theorem row_keep (h : w.ownsRow base E sz v n us) (hk : ∀ k cur, base ≤ k → w.heap[k]? = some (.cells cur E (0, 0)) → w'.heap[k]? = w.heap[k]?) : w'.ownsRow base E sz v n us := by
  refine ⟨h.1, ?_⟩
  rcases h.2 with hn | ⟨g, cap, cur, rfl, hb, hgg, rest⟩
  · exact .inl hn
  · exact .inr ⟨g, cap, cur, rfl, hb, (hk g cur hb hgg).trans hgg, rest⟩
theorem row_below (h : w.ownsRow base E sz v n us) (hb : Below w.heap.size w w') : w'.ownsRow base E sz v n us := row_keep h (fun k cur _ hc => hb.block k (Array.getElem?_eq_some_iff.1 hc).1)
theorem row_cap {A : Option Addr} {c : Nat} (h : w.ownsRow base E sz (.slice A n c) n us) : n ≤ c ∧ c ≤ maxLen := by
  rcases h.2 with ⟨h1, h2⟩ | ⟨g, cap, cur, hv, _, _, h3, h4, _⟩
  · injection h1 with h5 h6 h7
    unfold maxLen
    omega
  · injection hv with h5 h6 h7
    subst h7
    exact ⟨h3, h4⟩
/-- A row of another kind of elements is grown: blocks of other types stay. -/
theorem typed_kept (h : w.ownsRow base E sz v n us) (hg : w.grownBy w' v.ownBlock) {g : Nat} {cs : Array Value} {T : TypeId} (hT : T ≠ E) (h0 : w.heap[g]? = some (.cells cs T (0, 0))) : w'.heap[g]? = w.heap[g]? :=
  hg.block g (Array.getElem?_eq_some_iff.1 h0).1 (fun e => by
    rcases h.2 with ⟨hv, _⟩ | ⟨g', cap, cur, hv, _, hh, _⟩
    · rw [hv] at e; cases e
    · rw [hv] at e
      injection e with e
      subst e
      rw [hh] at h0
      injection h0 with h0
      injection h0 with _ h0
      exact hT h0.symm)
theorem row_cells {A : Option Addr} {c : Nat} (h : w.ownsRow base E sz (.slice A n c) n us) (hne : us ≠ []) : ∃ g, A = some ⟨g, 0, none⟩ ∧ base ≤ g ∧ ∀ j u, us[j]? = some u → w.cell? ⟨g, j, none⟩ = some u := by
  have hl := h.1
  rcases h.2 with ⟨h1, h2⟩ | ⟨g, cap, cur, hv, hb, hh, _⟩
  · exfalso
    subst h2
    rw [Nat.zero_mul] at hl
    exact hne (List.eq_nil_of_length_eq_zero hl)
  · injection hv with h5 h6 h7
    refine ⟨g, h5, hb, fun j u hj => ?_⟩
    subst h5
    have := h.cells (g := g) rfl j u hj
    rw [Addr.add_mid] at this
    simpa using this
theorem flat_get {α : Type} {f : α → List Value} {m : Nat} (hf : ∀ x, (f x).length = m) : ∀ (l : List α) (i : Nat) (x : α) (j : Nat) (u : Value), l[i]? = some x → (f x)[j]? = some u → (l.flatMap f)[i * m + j]? = some u
  | [], i, x, j, u, h, _ => by simp at h
  | a :: t, 0, x, j, u, h, hu => by
    simp at h
    subst h
    have hj : j < (f a).length := (List.getElem?_eq_some_iff.1 hu).1
    simp only [List.flatMap_cons, Nat.zero_mul, Nat.zero_add]
    rw [List.getElem?_append_left hj, hu]
  | a :: t, i + 1, x, j, u, h, hu => by
    have h' : t[i]? = some x := by simpa using h
    simp only [List.flatMap_cons]
    rw [List.getElem?_append_right (by rw [hf, Nat.succ_mul]; omega), hf, show (i + 1) * m + j - m = i * m + j by rw [Nat.succ_mul]; omega]
    exact flat_get hf t i x j u h' hu
theorem flat_takeV {α : Type} {f : α → List Value} {l : List α} {k : Nat} {x : α} (h : l[k]? = some x) : (l.take (k + 1)).flatMap f = (l.take k).flatMap f ++ f x := by
  rw [List.take_add_one, h]
  simp
theorem EnAt.of_row {es : List EntD} {A : Option Addr} {c : Nat} (h : w.ownsRow base E 8 (.slice A n c) n (es.flatMap enC)) : EnAt w A es := fun hne => by
  obtain ⟨g, rfl, _, hc⟩ := row_cells h (by intro e; obtain ⟨a, t, rfl⟩ := List.exists_cons_of_ne_nil hne; simp [enC] at e)
  refine ⟨g, 0, rfl, fun i e hi => ?_⟩
  have q := fun j u hu => hc _ u (flat_get (f := enC) (m := 8) (fun _ => rfl) es i e j u hi hu)
  simp only [Nat.zero_add]
  exact ⟨q 0 _ rfl, q 1 _ rfl, q 2 _ rfl, q 3 _ rfl, q 4 _ rfl, q 5 _ rfl, q 6 _ rfl, q 7 _ rfl⟩
theorem KyAt.of_row {ks : List KeyD} {A : Option Addr} {c : Nat} (h : w.ownsRow base E 2 (.slice A n c) n (ks.flatMap kyC)) : KyAt w A ks := fun hne => by
  obtain ⟨g, rfl, _, hc⟩ := row_cells h (by intro e; obtain ⟨a, t, rfl⟩ := List.exists_cons_of_ne_nil hne; simp [kyC] at e)
  refine ⟨g, 0, rfl, fun i e hi => ?_⟩
  have q := fun j u hu => hc _ u (flat_get (f := kyC) (m := 2) (fun _ => rfl) ks i e j u hi hu)
  simp only [Nat.zero_add]
  exact ⟨q 0 _ rfl, q 1 _ rfl⟩
def kdC (z : Int) : Value := .int .i64 z
theorem KdAt.of_row {ds : List Int} {A : Option Addr} {c : Nat} (h : w.ownsRow base E 1 (.slice A n c) n (ds.map kdC)) : KdAt w A ds := fun hne => by
  obtain ⟨g, rfl, _, hc⟩ := row_cells h (by intro e; exact hne (List.map_eq_nil_iff.1 e))
  refine ⟨g, 0, rfl, fun i z hi => ?_⟩
  have := hc i (kdC z) (by rw [List.getElem?_map, hi]; rfl)
  simpa [kdC] using this
end
theorem fill_eight (C cells : Array Value) (hC : C.size = 8) (hn : cells.size = 8) : Instr.fill (fun i => some (i * 8, 8)) cells [(0, .agg C)] = some C := by
  have := Great.fill_whole (s := 8) (by omega) [.agg C] cells (fun v hv => by simp at hv; subst hv; exact hC) (by simp [hn])
  simpa [Value.cells] using this
theorem fill_twoN (C cells : Array Value) (hC : C.size = 2) (hn : cells.size = 2) : Instr.fill (fun i => some (i * 2, 2)) cells [(0, .agg C)] = some C := by
  have := Great.fill_whole (s := 2) (by omega) [.agg C] cells (fun v hv => by simp at hv; subst hv; exact hC) (by simp [hn])
  simpa [Value.cells] using this
theorem enC_one (e : EntD) : ∀ u ∈ enC e, u.oneCell' = true := by
  intro u hu
  simp [enC] at hu
  rcases hu with rfl | rfl | rfl | rfl | rfl | rfl | rfl | rfl <;> rfl
theorem kyC_one (k : KeyD) : ∀ u ∈ kyC k, u.oneCell' = true := by
  intro u hu
  simp [kyC] at hu
  rcases hu with rfl | rfl <;> rfl

section
variable {w W wr w1 w2 : World} {Tout TE TK TD : TypeId} {g3 : Nat} {lf : Bool} {vE vK vD v' : Value} {kE kK nd : Nat} {es : List EntD} {ks : List KeyD} {ds : List Int}
theorem row_set {base sz n i : Nat} {v u : Value} {E T : TypeId} {us : List Value} {g : Nat} {cs : Array Value} (h : w.ownsRow base E sz v n us) (hg : w.heap[g]? = some (.cells cs T (0, 0))) (hT : E ≠ T) : (w.setCell ⟨g, i, none⟩ u).ownsRow base E sz v n us :=
  row_keep h (fun k cur _ hc => Below.heap_setCell w ⟨g, i, none⟩ u k (fun e => by
    have e' : k = g := e
    subst e'
    rw [hg] at hc
    injection hc with hc
    injection hc with _ hc
    exact hT hc.symm))
theorem kdC_one (ds : List Int) : ∀ u ∈ ds.map kdC, u.oneCell' = true := by
  intro u hu
  simp [kdC] at hu
  obtain ⟨a, _, rfl⟩ := hu
  rfl
theorem row_set4 {base sz n : Nat} {v a b c d : Value} {E T : TypeId} {us : List Value} {g : Nat} {cs : Array Value} (h : w.ownsRow base E sz v n us) (hg : w.heap[g]? = some (.cells cs T (0, 0))) (hT : E ≠ T) :
    ((((w.setCell ⟨g, 0, none⟩ a).setCell ⟨g, 1, none⟩ b).setCell ⟨g, 2, none⟩ c).setCell ⟨g, 3, none⟩ d).ownsRow base E sz v n us := by
  have h1 := row_set (i := 0) (u := a) h hg hT
  have g1 := heap_setCell_same w g 0 cs T a hg
  have h2 := row_set (i := 1) (u := b) h1 g1 hT
  have g2 := heap_setCell_same _ g 1 _ T b g1
  have h3 := row_set (i := 2) (u := c) h2 g2 hT
  have g3 := heap_setCell_same _ g 2 _ T c g2
  exact row_set (i := 3) (u := d) h3 g3 hT
end
end Go.Proofs.Ytgkddhncfaeidaa
