/- Package node's Put of whatever node. -/
import Derived.Test.YtgkddhncfaeidaaNdW
import Derived.Deep.MidRow
namespace Go.Proofs.Ytgkddhncfaeidaa
open Go.ChangeShapes Go.WideShapes Go.ChangeAt Go.RowKit CrcM PageM
set_option linter.unusedVariables false

theorem IsB.mkT {P : Prop} (h : P) : IsB true P := by unfold IsB; simp [h]
theorem IsB.mkF {P : Prop} (h : ¬ P) : IsB false P := by unfold IsB; simp [h]
def NodeD.size (n : NodeD) : Nat := if n.leaf = true then n.es.length else n.ds.length
def kidB (p : KeyD × Int) : List UInt8 := kyB p.1 ++ be (wn p.2) 2
/-- A node's bytes. -/
def nodeB (n : NodeD) : List UInt8 := UInt8.ofNat n.size :: (n.es.flatMap enB ++ (n.ks.zip n.ds).flatMap kidB)

theorem size_any (n : NodeD) (l : NdL) (w : World) :
    Calls Try.prog 15 #[.agg #[.bool n.leaf, .slice l.EA n.es.length l.ec, .slice l.KA n.ks.length l.kc, .slice l.DA n.ds.length l.dc]] w fun e w' => e = .returned (.int .i64 (n.size : Int)) ∧ Below w.heap.size w w' := by
  obtain ⟨lf, es, ks, ds⟩ := n
  obtain ⟨EA, ec, KA, kc, DA, dc⟩ := l
  dsimp only
  cases lf with
  | true =>
    go_enter Try.func15, Try.ntmps15
    go_wp2_with fail
    go_ret
    exact ⟨rfl, (Below.refl _ _).alloc (Nat.le_refl _) _⟩
  | false =>
    go_enter Try.func15, Try.ntmps15
    go_wp2_with fail
    go_ret
    exact ⟨rfl, (Below.refl _ _).alloc (Nat.le_refl _) _⟩

theorem okNode_sizes {n : NodeD} (h : okNode n) : n.es.length ≤ 7 ∧ n.ks.length = n.ds.length ∧ n.ds.length ≤ 16 ∧ n.size ≤ 16 ∧ 1 ≤ n.size := by
  unfold okNode at h
  unfold NodeD.size
  split at h
  · obtain ⟨h1, h2, h3, h4, _⟩ := h
    rw [h1, h2, if_pos (by assumption)]
    simp
    omega
  · obtain ⟨h1, h2, ⟨h3, h4, _⟩, _⟩ := h
    rw [h1, if_neg (by assumption)]
    simp
    omega
theorem flat_take {α : Type} {f : α → List UInt8} {l : List α} {k : Nat} {x : α} (h : l[k]? = some x) : (l.take (k + 1)).flatMap f = (l.take k).flatMap f ++ f x := by
  rw [List.take_add_one, h]
  simp
theorem flat_len {α : Type} {f : α → List UInt8} {m : Nat} (hf : ∀ x, (f x).length = m) (l : List α) : (l.flatMap f).length = m * l.length := by
  induction l with
  | nil => simp
  | cons a t ih => simp [ih, hf, Nat.mul_succ, Nat.add_comm]
theorem length_kidB (p : KeyD × Int) : (kidB p).length = 14 := by simp [kidB, length_kyB, length_be]

set_option maxRecDepth 100000 in
set_option maxHeartbeats 4000000 in
theorem put_no (n : NodeD) (l : NdL) (hn : ¬ okNode n) (w : World) (h : NodeAt w n l) :
    Calls Try.prog 9 #[.agg #[.bool n.leaf, .slice l.EA n.es.length l.ec, .slice l.KA n.ks.length l.kc, .slice l.DA n.ds.length l.dc]] w fun e w' => e = .returned (.tuple #[.slice none 0 0, .int .i64 1]) ∧ Below w.heap.size w w' := by
  have hb0 : Below w.heap.size w (w.alloc (.cells #[.bool n.leaf, .slice l.EA n.es.length l.ec, .slice l.KA n.ks.length l.kc, .slice l.DA n.ds.length l.dc] 34)) := (Below.refl _ _).alloc (Nat.le_refl _) _
  have HR := Lib.hid (right_any n l false (IsB.mkF hn) _ (h.below hb0))
  have HB0 := Lib.hid hb0
  clear h hn hb0
  go_enter Try.func9, Try.ntmps9
  go_wp2_with (first
    | (refine wpList_load_row rfl 34 (.tmp 1) rfl w.heap.size rfl 34 _ (0, 0) _ (heap_alloc_new _ _) Try.underlying34 rfl (by kernel_rfl) ?_)
    | (go_at_call 13; refine (HR.out).mono ?_; rintro e w1 ⟨rfl, hb1⟩; have HB1 := Lib.hid hb1; clear hb1))
  go_ret2
  exact ⟨rfl, HB0.out.trans (HB1.out.mono HB0.out.size)⟩

set_option maxRecDepth 100000 in
set_option maxHeartbeats 8000000 in
theorem put_yes (n : NodeD) (l : NdL) (hn : okNode n) (w : World) (h : NodeAt w n l) (L : Nat) (hL : L = (nodeB n).length) :
    Calls Try.prog 9 #[.agg #[.bool n.leaf, .slice l.EA n.es.length l.ec, .slice l.KA n.ks.length l.kc, .slice l.DA n.ds.length l.dc]] w fun e w' => ∃ A c, e = .returned (.tuple #[.slice A L c, .int .i64 0]) ∧ OwnS w' w.heap.size (.slice A L c) 5 (nodeB n) ∧ Below w.heap.size w w' := by
  obtain ⟨hs1, hs2, hs3, hs4, hs5⟩ := okNode_sizes hn
  have hr0 : Hid (∀ w', NodeAt w' n l → Calls Try.prog 13 #[.agg #[.bool n.leaf, .slice l.EA n.es.length l.ec, .slice l.KA n.ks.length l.kc, .slice l.DA n.ds.length l.dc]] w' fun e w1 => e = .returned (.bool true) ∧ Below w'.heap.size w' w1) := Lib.hid (fun w' h' => right_any n l true (IsB.mkT hn) w' h')
  have hz0 : Hid (∀ w', Calls Try.prog 15 #[.agg #[.bool n.leaf, .slice l.EA n.es.length l.ec, .slice l.KA n.ks.length l.kc, .slice l.DA n.ds.length l.dc]] w' fun e w1 => e = .returned (.int .i64 (n.size : Int)) ∧ Below w'.heap.size w' w1) := Lib.hid (fun w' => size_any n l w')
  obtain ⟨sz, hsz⟩ : ∃ s, n.size = s := ⟨_, rfl⟩
  rw [hsz] at hz0 hs4 hs5
  obtain ⟨b0, hb0⟩ : ∃ b, UInt8.ofNat sz = b := ⟨_, rfl⟩
  have hb0n : b0.toNat = sz := by rw [← hb0, UInt8.toNat_ofNat']; omega
  have hnb : nodeB n = b0 :: (n.es.flatMap enB ++ (n.ks.zip n.ds).flatMap kidB) := by unfold nodeB; rw [hsz, hb0]
  rw [hnb] at hL ⊢
  obtain ⟨lf, es, ks, ds⟩ := n
  obtain ⟨EA, ec, KA, kc, DA, dc⟩ := l
  dsimp only at *
  obtain ⟨ne, hne⟩ : ∃ x, es.length = x := ⟨_, rfl⟩
  obtain ⟨nk, hnk⟩ : ∃ x, ks.length = x := ⟨_, rfl⟩
  obtain ⟨nd, hnd⟩ : ∃ x, ds.length = x := ⟨_, rfl⟩
  rw [hne] at hs1
  rw [hnk, hnd] at hs2
  rw [hnd] at hs3
  have H := Lib.hid h
  rw [hne, hnk, hnd] at hr0 hz0 ⊢
  have HNE := Lib.hid hne
  have HNK := Lib.hid hnk
  have HND := Lib.hid hnd
  have HL := Lib.hid hL
  have HS2 := Lib.hid hs2
  have HB0N := Lib.hid hb0n
  obtain ⟨W, eW⟩ : ∃ W, W = w.alloc (.cells #[.bool lf, .slice EA ne ec, .slice KA nk kc, .slice DA nd dc] 34) := ⟨_, rfl⟩
  have hrow : W.heap[w.heap.size]? = some (.cells #[.bool lf, .slice EA ne ec, .slice KA nk kc, .slice DA nd dc] 34 (0, 0)) := by rw [eW]; exact heap_alloc_new _ _
  have hbel : Below w.heap.size w W := by rw [eW]; exact (Below.refl _ _).alloc (Nat.le_refl _) _
  have EW := Lib.hid eW.symm
  have HB := Lib.hid hbel
  have HROW := Lib.hid hrow
  have hwu : IntKind.u8.wrap (sz : Int) = (b0.toNat : Int) := by rw [hb0n, IntKind.wrap_u8]; omega
  clear h hne hnk hnd eW hrow hbel hL hsz hb0 hb0n hnb hs2 hn
  go_enter Try.func9, Try.ntmps9
  go_upto_region 1 with fail
  rw [EW.out]
  go_upto_region 3 with (first
    | (refine wpList_load_row rfl 34 (.tmp 1) rfl w.heap.size rfl 34 _ (0, 0) _ HROW.out Try.underlying34 rfl (by kernel_rfl) ?_)
    | (go_at_call 13; refine (hr0.out _ (H.out.below HB.out)).mono ?_; rintro e w1 ⟨rfl, hb1⟩; have HB1 := Lib.hid hb1; have HR1 := Lib.hid ((hb1.block w.heap.size (Array.getElem?_eq_some_iff.1 HROW.out).1).trans HROW.out); clear hb1))
  go_upto_region 4 with (first
    | (refine wpList_load_row rfl 34 (.tmp 1) rfl w.heap.size rfl 34 _ (0, 0) _ HR1.out Try.underlying34 rfl (by kernel_rfl) ?_)
    | (go_at_call 15; refine (hz0.out _).mono ?_; rintro e w2 ⟨rfl, hb2⟩; have HB2 := Lib.hid hb2; have HR2 := Lib.hid ((hb2.block w.heap.size (Array.getElem?_eq_some_iff.1 HR1.out).1).trans HR1.out); clear hb2))
  have hbw : Below w.heap.size w w2 := HB.out.trans ((HB1.out.trans (HB2.out.mono HB1.out.size)).mono HB.out.size)
  have HBW := Lib.hid hbw
  obtain ⟨B, hBe⟩ : ∃ B, B = w2.heap.size := ⟨_, rfl⟩
  obtain ⟨W3, eW3⟩ : ∃ W3, W3 = w2.alloc (.cells #[.int .u8 (b0.toNat : Int)] 5) := ⟨_, rfl⟩
  have hown : OwnS W3 B (.slice (some ⟨B, 0, none⟩) 1 1) 5 [b0] := by rw [eW3, hBe]; exact OwnS.new w2 5 [b0] w2.heap.size (Nat.le_refl _) (by simp [maxLen])
  have hb3 : Below B w2 W3 := by rw [eW3]; exact (Below.refl _ _).alloc (by omega) _
  rw [← eW3, ← hBe]
  have HOWN := Lib.hid hown
  have HB3 := Lib.hid hb3
  have HBE := Lib.hid hBe
  have hwB : w.heap.size < B := by rw [hBe]; exact (Array.getElem?_eq_some_iff.1 HR2.out).1
  have HWB := Lib.hid hwB
  clear hown hb3 hBe eW3 hwB hbw
  have HX : Hid (∀ W', Below B w2 W' → W'.heap[w.heap.size]? = some (.cells #[.bool lf, .slice EA ne ec, .slice KA nk kc, .slice DA nd dc] 34 (0, 0))) := Lib.hid (fun W' hb => (hb.block _ HWB.out).trans HR2.out)
  have k1 := nd_cell (HX.out _ HB3.out) 1 _ rfl
  go_upto_region 5 with fail
  clear k1
  go_loopw [4, 19] (fun b i wr => ∃ (k : Nat) (A : Option Addr) (c : Nat), k ≤ ne ∧ i = .int .i64 k ∧ b = .slice A (1 + 30 * k) c ∧ Hid (OwnS wr B (.slice A (1 + 30 * k) c) 5 (b0 :: (es.take k).flatMap enB)) ∧ Hid (Below B w2 wr)) (fun _ i _ => ne - (intOf i).toNat)
  case atStart => exact ⟨0, _, 1, by omega, rfl, rfl, by simpa using HOWN, HB3⟩
  case round =>
    obtain ⟨k, A, c, hk, rfl, rfl, HO, HBR⟩ := hrel
    by_cases hlt : k < ne
    · obtain ⟨e, he⟩ : ∃ e, es[k]? = some e := ⟨_, List.getElem?_eq_getElem (by rw [HNE.out]; exact hlt)⟩
      have hwr : Below w.heap.size w wr := HBW.out.trans (HBR.out.mono (by have := HWB.out; omega))
      obtain ⟨b, off, rfl, hcell⟩ := (H.out.below hwr).e (by intro e; have := HNE.out; dsimp only at e; rw [e] at this; simp at this; omega)
      obtain ⟨c0, c1, c2, c3, c4, c5, c6, c7⟩ := hcell k e he
      have HE := Lib.hid he
      have hBs : B ≤ wr.heap.size := by rw [HBE.out]; exact HBR.out.size
      have HBS := Lib.hid hBs
      clear hcell he hwr hBs
      obtain ⟨ll, hll⟩ : ∃ ll, ll = 1 + 30 * k := ⟨_, rfl⟩
      rw [← hll] at HO ⊢
      have HLL := Lib.hid hll
      clear hll
      go_upto_region 7 with fail
      go_wp2_with (go_at_call 33; refine (putEntry_b B ll A c _ _ (by rw [HLL.out]; simp [flat_len length_enB]; have := HNE.out; omega) (HO.out.alloc _) (by simp; have := HBS.out; omega) e (by have := HLL.out; omega) (1 + 30 * (k + 1)) (by have := HLL.out; omega)).mono ?_; rintro e' w5 ⟨A5, c5, rfl, ho5, hb5, -⟩; have HO5 := Lib.hid ho5; have HB5 := Lib.hid hb5; clear ho5 hb5)
      go_roundw
      case rel => exact ⟨k + 1, A5, c5, by omega, by go_num, rfl, Lib.hid (by rw [flat_take HE.out]; simpa using HO5.out), Lib.hid ((HBR.out.alloc (by have := HBS.out; omega) _).trans HB5.out)⟩
      case measure => first | (simp [intOf]; done) | (simp [intOf]; omega)
    · obtain rfl : k = ne := by omega
      have hL0 : ∃ L0, L0 = 1 + 30 * k := ⟨_, rfl⟩
      obtain ⟨L0, hL0⟩ := hL0
      rw [← hL0] at HO ⊢
      have htk : es.take k = es := List.take_of_length_le (by have := HNE.out; omega)
      rw [htk] at HO
      have HL0 := Lib.hid hL0
      obtain ⟨pre, hpre⟩ : ∃ p, p = b0 :: es.flatMap enB := ⟨_, rfl⟩
      rw [← hpre] at HO
      have HPRE := Lib.hid hpre
      have hplen : pre.length = L0 := by rw [hpre, hL0]; simp [flat_len length_enB]; have := HNE.out; omega
      have HPL := Lib.hid hplen
      obtain ⟨W0, rfl⟩ : ∃ W0, W0 = wr := ⟨_, rfl⟩
      have k3 := nd_cell (HX.out _ HBR.out) 3 _ rfl
      clear hL0 htk hpre hplen
      have hd1 : decide ((k : Int) < (k : Int)) = false := by simp
      go_upto_region 10 with fail
      clear k3
      go_loopw [4, 30] (fun b i wr => ∃ (j : Nat) (A : Option Addr) (c : Nat), j ≤ nd ∧ i = .int .i64 j ∧ b = .slice A (L0 + 14 * j) c ∧ Hid (OwnS wr B (.slice A (L0 + 14 * j) c) 5 (pre ++ ((ks.zip ds).take j).flatMap kidB)) ∧ Hid (Below B w2 wr)) (fun _ i _ => nd - (intOf i).toNat)
      case atStart => exact ⟨0, _, c, by omega, rfl, rfl, by simpa using HO, HBR⟩
      case round =>
        clear HO HBR
        obtain ⟨j, A, c, hj, rfl, rfl, HO, HBR⟩ := hrel
        by_cases hlt2 : j < nd
        · obtain ⟨e, he⟩ : ∃ e, ks[j]? = some e := ⟨_, List.getElem?_eq_getElem (by have := HNK.out; have := HS2.out; omega)⟩
          obtain ⟨z, hz⟩ : ∃ z, ds[j]? = some z := ⟨_, List.getElem?_eq_getElem (by have := HND.out; omega)⟩
          have hzip : (ks.zip ds)[j]? = some (e, z) := by rw [List.getElem?_zip_eq_some]; exact ⟨he, hz⟩
          have hjk : j < nk := by have := HS2.out; omega
          have hwr : Below w.heap.size w wr := HBW.out.trans (HBR.out.mono (by have := HWB.out; omega))
          obtain ⟨bk, ok, rfl, hck⟩ := (H.out.below hwr).k (by intro e'; have h1 := HNK.out; dsimp only at e'; rw [e'] at h1; simp at h1; omega)
          obtain ⟨bd, od, rfl, hcd⟩ := (H.out.below hwr).d (by intro e'; have h1 := HND.out; dsimp only at e'; rw [e'] at h1; simp at h1; omega)
          obtain ⟨c0, c1⟩ := hck j e he
          have c2 := hcd j z hz
          have k2 := nd_cell (HX.out _ HBR.out) 2 _ rfl
          have hBs : B ≤ wr.heap.size := by rw [HBE.out]; exact HBR.out.size
          have HBS := Lib.hid hBs
          have HZIP := Lib.hid hzip
          obtain ⟨ll, hll⟩ : ∃ ll, ll = L0 + 14 * j := ⟨_, rfl⟩
          rw [← hll] at HO ⊢
          obtain ⟨lm, hlm⟩ : ∃ lm, lm = ll + 12 := ⟨_, rfl⟩
          have HLL := Lib.hid hll
          have HLM := Lib.hid hlm
          have HW1 : Hid (IntKind.u64.wrap z = (wn z : Int)) := Lib.hid (wn_eq z)
          clear hck hcd he hz hzip hwr hBs hll hlm
          go_wp2_with (first
            | (go_at_call 34; refine (putKey_b B ll A c _ _ (by rw [HLL.out, List.length_append, HPL.out, flat_len length_kidB]; simp; have := HND.out; have := HNK.out; have := HS2.out; omega) HO.out HBS.out e (by have := HLL.out; have := HL0.out; omega) lm HLM.out).mono ?_; rintro e' w5 ⟨A5, c5, rfl, ho5, hb5, -⟩; have HO5 := Lib.hid ho5; have HB5 := Lib.hid hb5; clear ho5 hb5)
            | (go_at_call 35; rw [HW1.out]; refine (putHigh_b B lm A5 c5 _ _ (by rw [HLM.out, HLL.out, List.length_append, List.length_append, HPL.out, flat_len length_kidB, length_kyB]; simp; have := HND.out; have := HNK.out; have := HS2.out; omega) HO5.out (Nat.le_trans HBS.out HB5.out.size) 2 2 rfl (by omega) (wn z) (wn_lt z) (by have := HLM.out; have := HLL.out; have := HL0.out; omega) (L0 + 14 * (j + 1)) (by have := HLM.out; have := HLL.out; omega)).mono ?_; rintro e' w6 ⟨A6, c6, rfl, ho6, hb6, -⟩; have HO6 := Lib.hid ho6; have HB6 := Lib.hid hb6; clear ho6 hb6))
          go_roundw
          case rel => exact ⟨j + 1, A6, c6, by omega, by go_num, rfl, Lib.hid (by rw [flat_take HZIP.out]; simpa [kidB] using HO6.out), Lib.hid ((HBR.out.trans HB5.out).trans HB6.out)⟩
          case measure => first | (simp [intOf]; done) | (simp [intOf]; omega)
        · obtain rfl : j = nd := by omega
          have hlen : L0 + 14 * j = L := by rw [HL.out, List.length_cons, List.length_append, flat_len length_enB, flat_len length_kidB, HL0.out]; simp; have := HND.out; have := HNK.out; have := HS2.out; have := HNE.out; omega
          have htk : (ks.zip ds).take j = ks.zip ds := List.take_of_length_le (by simp; have := HND.out; omega)
          rw [htk, HPRE.out] at HO
          rw [hlen] at HO ⊢
          have HO2 : Hid (OwnS wr w.heap.size (.slice A L c) 5 (b0 :: (es.flatMap enB ++ (ks.zip ds).flatMap kidB))) := Lib.hid (by simpa using HO.out.mono (by have := HWB.out; omega))
          clear HO hlen htk
          go_wp2_with fail
          go_ret2
          exact ⟨A, c, rfl, HO2.out, HBW.out.trans (HBR.out.mono (by have := HWB.out; omega))⟩
end Go.Proofs.Ytgkddhncfaeidaa
