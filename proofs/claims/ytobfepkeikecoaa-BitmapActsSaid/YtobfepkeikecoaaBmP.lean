/- Put of package bitmap, and of its reference: a map as bytes. -/
import Derived.Test.YtobfepkeikecoaaBmN
import Derived.Test.YtobfepkeikecoaaPageM
import Derived.Test.YtobfepkeikecoaaOwnS
namespace Go.Proofs.Ytobfepkeikecoaa
open Go.RowKit PageM
set_option linter.unusedVariables false

theorem infoU8 : (Try.prog.info? 5).map (fun i => (i.zero, i.size, i.bytes)) = some (some (.int .u8 0), 1, 1) := by kernel_rfl
theorem or_bit8 : ∀ e, e < 8 → ∀ o, o < 256 → bits BinOp.or IntKind.u8 ((o : Nat) : Int) (2 ^ e % 256) = ((o ||| 2 ^ e : Nat) : Int) := by decide +kernel
theorem or_bit (e : Nat) (he : e < 8) (o : UInt8) : bits BinOp.or IntKind.u8 (o.toNat : Int) (2 ^ e % 256) = ((o ||| UInt8.ofNat (2 ^ e)).toNat : Int) := by
  rw [or_bit8 e he _ o.toNat_lt, UInt8.toNat_or, UInt8.toNat_ofNat', Nat.mod_eq_of_lt (show 2 ^ e < 2 ^ 8 from Nat.pow_lt_pow_right (by omega) he)]
theorem made8b {w : World} {base k : Nat} {v : Value} (h : w.ownsRow base 5 1 v k (madeCells (Value.int .u8 0).cells (k * 1)).toList) : OwnS w base v 5 (List.replicate k 0) := by
  have e : (madeCells (Value.int .u8 0).cells (k * 1)).toList = (List.replicate k (0 : UInt8)).map bv := by
    have h0 : (Value.int .u8 0).cells = #[.int .u8 0] := rfl
    rw [h0, Nat.mul_one]
    simp only [madeCells, List.map_replicate, bv]
    simp [Nat.mod_one, List.map_const']
  rw [e] at h
  unfold OwnS
  rw [List.length_replicate]
  exact h
theorem OwnS.ownB2b {w : World} {base n c : Nat} {a : Addr} {E : TypeId} {xs : List UInt8} (h : OwnS w base (.slice (some a) n c) E xs) : ∃ g, some a = some ⟨g, 0, none⟩ ∧ OwnB w base g c E xs ∧ xs.length = n := by
  rcases h.cases with ⟨h1, _⟩ | ⟨g, cap, hv, hob⟩
  · cases h1
  · injection hv with hv1 hv2 hv3
    subst hv3
    exact ⟨g, hv1, hob, hv2.symm⟩
/-- A map of p pages as bytes, of its first k pages. -/
def bmN (p : Nat) (U : List Bool) : Nat → List UInt8
  | 0 => be p 2 ++ List.replicate ((p + 7) / 8) 0
  | k + 1 => if U.getD k false then (bmN p U k).set (2 + k / 8) ((bmN p U k).getD (2 + k / 8) 0 ||| UInt8.ofNat (2 ^ (k % 8))) else bmN p U k
theorem length_bmN (p : Nat) (U : List Bool) : ∀ k, (bmN p U k).length = 2 + (p + 7) / 8
  | 0 => by simp [bmN, length_be]
  | k + 1 => by
    unfold bmN
    split
    · rw [List.length_set, length_bmN p U k]
    · exact length_bmN p U k

/-- What stands while a map is laid as bytes. -/
structure BmInv (T : TypeId) (w : World) (p : Nat) (U : List Bool) (q n : Nat) (W : World) (xs : List UInt8) : Prop where
  box : MapAt W w.heap.size T (p : Int) U
  own : OwnB W (w.heap.size + 1) q n 5 xs
  bel : Below w.heap.size w W
theorem BmInv.set {T : TypeId} {w : World} {p : Nat} {U : List Bool} {q n : Nat} {W : World} {xs : List UInt8} (h : BmInv T w p U q n W xs) (i : Nat) (hi : i < xs.length) (v : UInt8) : BmInv T w p U q n (W.setCell ⟨q, i, none⟩ (.int .u8 (v.toNat : Int))) (xs.set i v) := by
  have hq := h.own.parts.1
  exact ⟨(Below.heap_setCell W ⟨q, i, none⟩ _ w.heap.size (by show w.heap.size ≠ q; omega)).trans h.box, h.own.stored i hi v, below_setCM h.bel (by omega)⟩
theorem BmInv.drew {T : TypeId} {w : World} {p : Nat} {U : List Bool} {q n : Nat} {W : World} {xs : List UInt8} (h : BmInv T w p U q n W xs) : BmInv T w p U q n W.drew xs := ⟨h.box, h.own, h.bel.drew⟩

set_option maxHeartbeats 2000000 in
set_option maxRecDepth 100000 in
theorem put_bm (p : Nat) (U : List Bool) (hU : U.length = 512) (hok : okM (p : Int) U) (w : World) (C : Array Value) (eC : C = mapC (p : Int) U) (n : Nat) (hn : n = 2 + (p + 7) / 8) :
    Calls Try.prog 16 #[.agg C] w fun e w' => ∃ q, e = .returned (.slice (some ⟨q, 0, none⟩) n n) ∧ OwnB w' (w.heap.size + 1) q n 5 (bmN p U p) ∧ Below w.heap.size w w' := by
  have hp := hok.2.1
  obtain ⟨iu, hiu, hz0, hz1, hz2⟩ := info_parts infoU8
  have hz3 : iu.bytes * n ≤ 281474976710656 := by rw [hz2]; omega
  have hS : Hid (some 513 = some C.size) := Lib.hid (by rw [eC, size_mapC hU])
  have HR : Hid (∀ W, Calls Try.prog 21 #[.agg C] W fun e w' => e = .returned (.bool true) ∧ Below W.heap.size W w') := Lib.hid (fun W => right_bmC _ U hU W C eC true (decide_eq_true hok).symm)
  have hb1 : Below w.heap.size w (w.alloc (.cells C 25)) := (Below.refl _ _).alloc (Nat.le_refl _) _
  have hg : Hid ((w.alloc (.cells C 25)).heap[w.heap.size]? = some (.cells C 25 (0, 0))) := Lib.hid (heap_alloc_new _ _)
  have HB1 := Lib.hid hb1
  have EC := Lib.hid eC
  have HU := Lib.hid hU
  have hni : (2 : Int) + ((p : Int) + 7) / 8 = (n : Int) := by omega
  have HNI := Lib.hid hni
  have hn70 : n ≤ 70 := by omega
  have hn2 : 2 ≤ n := by omega
  have HN := Lib.hid hn
  clear eC hok hb1 hU hni hn
  go_enter Try.func16, Try.ntmps16
  go_upto_region 4 with (first
    | (refine wpList_load_row rfl 25 (.tmp 1) rfl w.heap.size rfl 25 C (0, 0) _ hg.out Try.underlying25 rfl (infoMap.trans hS.out) ?_)
    | (go_at_call 21; (refine (HR.out _).mono ?_); rintro e w1 ⟨rfl, hb2⟩; have hg1 := (hb2.block w.heap.size (by simp)).trans hg.out; have c0 : w1.cell? ⟨w.heap.size, 0, none⟩ = some (.int .i64 (p : Int)) := (cell_of_row _ _ 0 _ _ _ hg1).trans (by rw [EC.out]; rfl))
    | (at_make; refine wpList_make_full _ rfl (.tmp 12) (.tmp 12) 42 rfl (w.heap.size + 1) 5 iu (.int .u8 0) 1 Try.underlying42 hiu hz0 hz1 .i64 .i64 _ _ n rfl rfl HNI.out HNI.out hz3 (by unfold maxLen; omega) (by have := hb2.size; simp at this; omega) ?_; intro w2 ho2 hg2))
  have ho3 := made8b ho2
  obtain ⟨q, hq, hob, _⟩ := ho3.ownB2b
  injection hq with hq
  injection hq with hq
  have hs2 := hb2.size
  rw [hq]
  have hgq : w1.heap.size = q := hq
  have inv0 : BmInv 25 w p U q n w2 (List.replicate n 0) := ⟨by
      unfold MapAt
      rw [← EC.out]
      exact (hg2.block _ (by simp at hs2; omega) (by simp)).trans hg1, hob, (HB1.out.trans (hb2.mono (by simp))).trans ⟨hg2.os, hg2.tape, hg2.output, hg2.size, fun k hk => hg2.block k (by simp at hs2; omega) (by simp)⟩⟩
  have f0 := inv0.box.c0
  have s0 := inv0.own.cellAt 0 (by simp; omega)
  have s1 := inv0.own.cellAt 1 (by simp; omega)
  have z0 := inv0.own.frozenAt 0
  have z1 := inv0.own.frozenAt 1
  have INV0 := Lib.hid inv0
  clear ho2 ho3 hob hg2 inv0 hq hgq hs2 hb2 hg1 c0
  have hqw : w.heap.size + 1 ≤ q := INV0.out.own.parts.1
  have hne1 : ¬ w.heap.size = q := by omega
  have hne2 : ¬ q = w.heap.size := by omega
  have n0 : 0 < n := by omega
  have n1 : 1 < n := by omega
  have n0' : (0 : Int) < (n : Int) := by omega
  have n1' : (1 : Int) < (n : Int) := by omega
  go_region
  have hm2 : ((p : Int) / 256) = ((UInt8.ofNat (p / 256)).toNat : Int) := by rw [UInt8.toNat_ofNat']; omega
  have hm3 : ((p : Int) % 256) = ((UInt8.ofNat p).toNat : Int) := by rw [UInt8.toNat_ofNat']; omega
  have inv1 := ((INV0.out.set 0 (by simp; omega) (UInt8.ofNat (p / 256))).set 1 (by simp; omega) (UInt8.ofNat p)).drew
  rw [← hm2, ← hm3] at inv1
  have el : ((List.replicate n (0 : UInt8)).set 0 (UInt8.ofNat (p / 256))).set 1 (UInt8.ofNat p) = bmN p U 0 := by
    have : n = (p + 7) / 8 + 2 := by have := HN.out; omega
    rw [this, List.replicate_succ, List.replicate_succ, List.set_cons_zero, List.set_cons_succ, List.set_cons_zero]
    rfl
  rw [el] at inv1
  have INV1 := Lib.hid inv1
  clear inv1 el hm2 hm3 f0 s0 s1 z0 z1
  have f0 := INV1.out.box.c0
  go_wp2_with fail
  go_loopw [27] (fun i wr => ∃ k : Nat, k ≤ p ∧ i = .int .i64 k ∧ Hid (BmInv 25 w p U q n wr (bmN p U k))) (fun i _ => p - (intOf i).toNat)
  case atStart => exact ⟨0, by omega, rfl, INV1⟩
  case round =>
    obtain ⟨k, hk, rfl, hr⟩ := hrel
    clear INV1 INV0 f0
    by_cases hlt : k < p
    · have hc := hr.out.box.cs k (by rw [HU.out]; omega)
      obtain ⟨u, hu⟩ : ∃ u, u = U.getD k false := ⟨_, rfl⟩
      rw [← hu] at hc
      have HUU := Lib.hid hu
      clear hu
      cases u
      · have HST : Hid (bmN p U (k + 1) = bmN p U k) := Lib.hid (by show (if U.getD k false then _ else _) = _; rw [← HUU.out]; rfl)
        go_wp2_with fail
        go_roundw
        case rel => exact ⟨k + 1, by omega, by go_num, Lib.hid (by rw [HST.out]; exact hr.out)⟩
        case measure => simp [intOf]; omega
      · obtain ⟨j, hj⟩ : ∃ j, j = 2 + k / 8 := ⟨_, rfl⟩
        have hjl : j < (bmN p U k).length := by rw [length_bmN, hj]; omega
        have hjn : j < n := by have := HN.out; omega
        obtain ⟨o, ho⟩ : ∃ o, o = (bmN p U k).getD j 0 := ⟨_, rfl⟩
        have s0 := hr.out.own.cellAt j hjl
        have z0 := hr.out.own.frozenAt j
        rw [← ho] at s0
        have hji : (2 : Int) + (k : Int) / 8 = (j : Int) := by omega
        have hjn' : (j : Int) < (n : Int) := by omega
        obtain ⟨e, he⟩ : ∃ e, e = k % 8 := ⟨_, rfl⟩
        have hei : (k : Int) % 8 = (e : Int) := by omega
        have he8 : e < 8 := by omega
        have HO := Lib.hid ho
        have HJ := Lib.hid hj
        have HE := Lib.hid he
        clear ho hj he hk
        go_upto_region 9 with fail
        go_region
        have h1 := (hr.out.set j hjl (o ||| UInt8.ofNat (2 ^ e))).drew
        rw [← or_bit e he8 o] at h1
        have hst : (bmN p U k).set j (o ||| UInt8.ofNat (2 ^ e)) = bmN p U (k + 1) := by
          show _ = (if U.getD k false then (bmN p U k).set (2 + k / 8) ((bmN p U k).getD (2 + k / 8) 0 ||| UInt8.ofNat (2 ^ (k % 8))) else bmN p U k)
          rw [← HUU.out, HO.out, HJ.out, HE.out]
          rfl
        rw [hst] at h1
        have H1 := Lib.hid h1
        clear h1 hst s0 z0
        go_wp2_with fail
        go_roundw
        case rel => exact ⟨k + 1, by omega, by go_num, H1⟩
        case measure => simp [intOf]; omega
    · obtain rfl : k = p := by omega
      go_wp2_with fail
      go_ret
      exact ⟨q, rfl, hr.out.own, hr.out.bel⟩
end Go.Proofs.Ytobfepkeikecoaa
