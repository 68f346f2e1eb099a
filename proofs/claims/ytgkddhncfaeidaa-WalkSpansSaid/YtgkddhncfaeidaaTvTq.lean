/- Take: its walk. -/
import Derived.Test.YtgkddhncfaeidaaTvTa
set_option linter.unusedSimpArgs false
set_option linter.unusedVariables false
namespace Go.Proofs.Ytgkddhncfaeidaa
open Go.RowKit Go.Shelf CrcM PageM
set_option linter.unusedVariables false
attribute [local go_sem] Oper.semAt_some

set_option maxRecDepth 100000 in
set_option maxHeartbeats 8000000 in
theorem take_go (gv g gen p a hh : Nat) (U V : List Bool) {B N gs gn Ls cs cn : Nat} {rw : Value} {st nw : List UInt8} {ws : List (Nat × List UInt8)} (es : List EntD) (ht : TreeR nw Ls a hh es) (hle : es.length ≤ 1000) (hcm : cntR hh es.length ≤ 900000) (n : Nat) (hn1 : 1 ≤ n) (hn : n ≤ 1000000) (w : World) (hv : ViewAt w gv g gen (p : Int) U V) (hd : Dk w B N g gs gn rw Ls cs cn st nw ws true (-1)) :
    CallsIn Fence.wide 3 Try.prog 25 #[.pointer (some ⟨gv, 0, none⟩), .agg #[.int .i64 (a : Int), .int .i64 (hh : Int)], .int .i64 (n : Int)] w fun e w' => (∃ A c, e = .returned (.tuple #[.slice A (min n es.length) c, .int .i64 (cntR hh (min n es.length) : Int), .int .i64 0]) ∧ w'.ownsRow w.heap.size 77 8 (.slice A (min n es.length) c) (min n es.length) ((es.take n).flatMap enC)) ∧ Below w.heap.size w w' := by
  have hh5 : hh ≤ 5 := by
    rcases ht with ⟨_, h⟩ | ⟨h, n, e1, e2, _⟩ <;> omega
  have hd1 : decide ((n : Int) < 1) = false := by simp; omega
  refine callsIn_of_wp_marks Try.func25 rfl trivial ?_ rfl
  simp only [Try.ntmps25, List.size_toArray, List.length_cons, List.length_nil, Nat.reduceAdd, Nat.reduceSub, Array.replicate_succ, Array.replicate_zero, List.push_toArray, List.append_toArray, List.nil_append, List.cons_append]
  have HT := Lib.hid ht
  have HV := Lib.hid hv
  have HD := Lib.hid hd
  clear ht hv hd
  gi_wp2
  obtain ⟨w5, hw5⟩ : ∃ w5, w5 = (((((w.alloc (.cells #[.int .i64 (a : Int), .int .i64 (hh : Int)] 63)).alloc (.cells #[.int .i64 (n : Int)] 3)).alloc (.cells #[.slice none 0 0] 31)).alloc (.cells #[.int .i64 0] 3)).alloc (.cells #[.int .i64 0] 28)) := ⟨_, rfl⟩
  have Z5 : Hid (w5.heap.size = w.heap.size + 5) := Lib.hid (by rw [hw5]; simp)
  have B5 : Hid (Below w.heap.size w w5) := Lib.hid (by rw [hw5]; exact (((((Below.refl _ _).alloc (Nat.le_refl _) _).alloc (by simp) _).alloc (by simp; omega) _).alloc (by simp; omega) _).alloc (by simp; omega) _)
  have G4 : Hid (w5.heap[w.heap.size]? = some (.cells #[.int .i64 (a : Int), .int .i64 (hh : Int)] 63 (0, 0))) := Lib.hid (by
    rw [hw5]
    exact row_stays (row_stays (row_stays (row_stays (heap_alloc_new w _) (alloc_bel rfl)) (alloc_bel rfl)) (alloc_bel rfl)) (alloc_bel rfl))
  have G5 : Hid (w5.heap[w.heap.size + 1]? = some (.cells #[.int .i64 (n : Int)] 3 (0, 0))) := Lib.hid (by
    rw [hw5]
    have h1 := heap_alloc_new (w.alloc (.cells #[.int .i64 (a : Int), .int .i64 (hh : Int)] 63)) (.cells #[.int .i64 (n : Int)] 3)
    rw [World.size_alloc] at h1
    exact row_stays (row_stays (row_stays h1 (alloc_bel rfl)) (alloc_bel rfl)) (alloc_bel rfl))
  have G6 : Hid (w5.heap[w.heap.size + 1 + 1]? = some (.cells #[.slice none 0 0] 31 (0, 0))) := Lib.hid (by
    rw [hw5]
    have h1 := heap_alloc_new ((w.alloc (.cells #[.int .i64 (a : Int), .int .i64 (hh : Int)] 63)).alloc (.cells #[.int .i64 (n : Int)] 3)) (.cells #[.slice none 0 0] 31)
    rw [World.size_alloc, World.size_alloc] at h1
    exact row_stays (row_stays h1 (alloc_bel rfl)) (alloc_bel rfl))
  have G7 : Hid (w5.heap[w.heap.size + 1 + 1 + 1]? = some (.cells #[.int .i64 0] 3 (0, 0))) := Lib.hid (by
    rw [hw5]
    have h1 := heap_alloc_new (((w.alloc (.cells #[.int .i64 (a : Int), .int .i64 (hh : Int)] 63)).alloc (.cells #[.int .i64 (n : Int)] 3)).alloc (.cells #[.slice none 0 0] 31)) (.cells #[.int .i64 0] 3)
    rw [World.size_alloc, World.size_alloc, World.size_alloc] at h1
    exact row_stays h1 (alloc_bel rfl))
  have G8 : Hid (w5.heap[w.heap.size + 1 + 1 + 1 + 1]? = some (.cells #[.int .i64 0] 28 (0, 0))) := Lib.hid (by
    rw [hw5]
    have h1 := heap_alloc_new ((((w.alloc (.cells #[.int .i64 (a : Int), .int .i64 (hh : Int)] 63)).alloc (.cells #[.int .i64 (n : Int)] 3)).alloc (.cells #[.slice none 0 0] 31)).alloc (.cells #[.int .i64 0] 3)) (.cells #[.int .i64 0] 28)
    rw [World.size_alloc, World.size_alloc, World.size_alloc, World.size_alloc] at h1
    exact h1)
  rw [← hw5]
  clear hw5
  refine ⟨trivial, (callsIn_wide.2 (refused_ok gv (a : Int) (hh : Int) (by omega) (by omega) w5)).mono ?_⟩
  rintro e w6 ⟨rfl, hb6⟩
  have B6 := Lib.hid (B5.out.trans (hb6.mono B5.out.size))
  have E4 := Lib.hid (row_stays G4.out hb6)
  have E5 := Lib.hid (row_stays G5.out hb6)
  have E6 := Lib.hid (row_stays G6.out hb6)
  have E7 := Lib.hid (row_stays G7.out hb6)
  have E8 := Lib.hid (row_stays G8.out hb6)
  have Z6 : Hid (w.heap.size + 5 ≤ w6.heap.size) := Lib.hid (by rw [← Z5.out]; exact hb6.size)
  clear hb6 G4 G5 G6 G7 G8 B5 Z5
  have k5 : w6.cell? ⟨w.heap.size + 1, 0, none⟩ = some (.int .i64 (n : Int)) := nd_cell E5.out 0 _ rfl
  obtain ⟨gl, hgl⟩ : ∃ gl, gl = w6.heap.size := ⟨_, rfl⟩
  obtain ⟨w7, hw7⟩ : ∃ w7, w7 = w6.alloc (.cells #[.pointer (some ⟨gv, 0, none⟩), .int .i64 0] 121) := ⟨_, rfl⟩
  have L7 : Hid (Lk w7 gl gv 0) := Lib.hid (by rw [hw7, hgl]; exact heap_alloc_new _ _)
  have B67 := Lib.hid (alloc_bel hw7)
  have GLB : Hid (w.heap.size + 5 ≤ gl) := Lib.hid (by rw [hgl]; exact Z6.out)
  have GLS : Hid (w7.heap.size = gl + 1) := Lib.hid (by rw [hw7, hgl]; simp)
  have HGL := Lib.hid hgl
  have HW7 := Lib.hid hw7
  clear hgl hw7
  obtain ⟨Bl, hBl⟩ : ∃ Bl, Bl = w7.heap.size := ⟨_, rfl⟩
  obtain ⟨w8, hw8⟩ : ∃ w8, w8 = w7.alloc (.cells #[.slice none 0 0] 31) := ⟨_, rfl⟩
  have L8b : Hid (Boxed w8 Bl 31 (.slice none 0 0)) := Lib.hid (by rw [hw8, hBl]; exact Boxed.new _ _ _)
  have B78 := Lib.hid (alloc_bel hw8)
  have R8 : Hid (w8.heap[w.heap.size]? = some (.cells #[.int .i64 (a : Int), .int .i64 (hh : Int)] 63 (0, 0))) := Lib.hid (row_stays (row_stays E4.out B67.out) B78.out)
  have Z8 : Hid (w8.heap.size = gl + 2) := Lib.hid (by rw [hw8, World.size_alloc, GLS.out])
  have HBL : Hid (Bl = gl + 1) := Lib.hid (by rw [hBl, GLS.out])
  have HBLE := Lib.hid hBl
  have HW8 := Lib.hid hw8
  clear hBl hw8
  gi_wp2_with (first
    | (refine wideIn_store_row rfl 121 (.tmp 10) (.tmp 25) rfl w6.heap.size #[.pointer (some ⟨gv, 0, none⟩), .int .i64 0] rfl rfl 121 _ (heap_alloc_new _ _) (by kernel_rfl) rfl (by simp [Value.oneCell']) ?_; rw [World.setRow_alloc_new, ← HW7.out, ← HGL.out])
    | (rw [← HW8.out, ← HBLE.out]; refine wideIn_load_row rfl 63 (.tmp 4) rfl w.heap.size rfl 63 _ (0, 0) _ R8.out Try.underlying63 rfl (by kernel_rfl) ?_))
  refine ⟨trivial, (entries_mk _ gl (a : Int) (hh : Int) w8).mono ?_⟩
  rintro e w9 ⟨rfl, hw9⟩
  have Z9 : Hid (w9.heap.size = gl + 4) := Lib.hid (by rw [hw9]; simp [Z8.out])
  have B89 : Hid (Below w8.heap.size w8 w9) := Lib.hid (by rw [hw9]; exact ((Below.refl _ _).alloc (Nat.le_refl _) _).alloc (by simp) _)
  have X1 : Hid (w9.heap[w8.heap.size]? = some (.cells #[.pointer (some ⟨gl, 0, none⟩)] 152 (0, 0))) := Lib.hid (by rw [hw9]; exact row_stays (heap_alloc_new _ _) (alloc_bel rfl))
  have X2 : Hid (w9.heap[w8.heap.size + 1]? = some (.cells #[.int .i64 (a : Int), .int .i64 (hh : Int)] 63 (0, 0))) := Lib.hid (by
    rw [hw9]
    have h1 := heap_alloc_new (w8.alloc (.cells #[.pointer (some ⟨gl, 0, none⟩)] 152)) (.cells #[.int .i64 (a : Int), .int .i64 (hh : Int)] 63)
    rw [World.size_alloc] at h1
    exact h1)
  clear hw9 k5
  have B9 : Hid (Below w.heap.size w w9) := Lib.hid (B6.out.trans (((B67.out.trans (B78.out.mono B67.out.size)).trans (B89.out.mono (by have := B67.out.size; have := B78.out.size; omega))).mono B6.out.size))
  have B79 : Hid (Below w7.heap.size w7 w9) := Lib.hid (B78.out.trans (B89.out.mono B78.out.size))
  have B69 : Hid (Below w6.heap.size w6 w9) := Lib.hid (B67.out.trans (B79.out.mono B67.out.size))
  have I9 : Hid (TkI Bl w n [] w9) := Lib.hid ⟨B9.out, ⟨.slice none 0 0, row_stays L8b.out B89.out, World.ownsRow_nil _ _ _ _⟩, row_stays E5.out B69.out, row_stays E6.out B69.out, row_stays E7.out B69.out, row_stays E8.out B69.out⟩
  have L9 : Hid (Lk w9 gl gv 0) := Lib.hid (row_stays L7.out B79.out)
  have hN9 : w.heap.size ≤ w9.heap.size := B9.out.size
  have hBl9 : Bl < w9.heap.size := by rw [HBL.out, Z9.out]; omega
  have hBlw : w.heap.size ≤ Bl := by have := HBL.out; have := GLB.out; omega
  gi_wp2
  refine wpIn_rangeFunc_T rfl (by decide) (gf := 82) (lb := #[.pointer (some ⟨w8.heap.size, 0, none⟩), .pointer (some ⟨w8.heap.size + 1, 0, none⟩)]) rfl trivial (enters_of Try.func82 (by kernel_rfl) rfl)
    (entries1_seq 2 gl gv w.heap.size g gen p a hh 0 w8.heap.size (w8.heap.size + 1) U V (ownTk Bl) w rfl (by have := GLB.out; omega) HV.out HD.out es HT.out (by omega))
    (fun A B l o hl ho hc h => h.keep l o ho (fun cs fr e => by subst e; cases hc)) KpC.trans (fun W l o o' hl ho hc => kpTk_put hBl9 hN9 W l o o' hl ho hc) (fun _ => rfl)
    (fun W1 hb hz => by
      refine ⟨B9.out.trans (hb.mono hN9), row_stays L9.out hb, fun hx => ?_, row_stays X1.out hb, row_stays X2.out hb⟩
      have hx9 := ownTk_same (hb.block _ hBl9) hx
      rcases hx9 with e | ⟨u, hu, ho⟩
      · have := HBL.out; omega
      · have h1 : Boxed w9 Bl 31 (.slice none 0 0) := row_stays L8b.out B89.out
        rw [h1.cell] at hu
        cases hu
        cases ho)
    (fun xs s A B row hs hg hr => ⟨hs.1, lk_grown hs.2 hg hr⟩) (fun xs s A B row hs hg hr => by
      obtain ⟨r, h1, h2, h3⟩ := hs
      exact ⟨r, h1, h2, lk_grown h3 hg hr⟩)
    (fun pre W => TkI Bl w n pre W ∧ pre.length < n) (fun c pre W => c = .exit 0 ∧ TkI Bl w n pre W ∧ pre.length = n)
    (ownFrom_ck hN9 (fun s A h => h.1.bel.size) (fun s A B h k => ⟨h.1.ck k, h.2⟩))
    (fun c => ownFrom_ck hN9 (fun s A h => h.2.1.bel.size) (fun s A B h k => ⟨h.1, h.2.1.ck k, h.2.2⟩))
    (fun s A B h k => ⟨h.1.ck k.ck, h.2⟩) (fun s A h => h.1.ok) (fun s A B h k => h.1.cc k) ⟨I9.out, by simp; omega⟩
    (fun x a' W => ∃ Bx, W.heap[Bx]? = some (.cells #[.int .i64 x.se, .int .i64 x.st, .int .i64 x.en, .int .i64 x.ad, .int .i64 x.le, .int .i64 x.cn, .int .i64 x.co, .int .u32 x.cr] 77 (0, 0)) ∧ a' = { tmps := #[.pointer (some ⟨gv, 0, none⟩), .agg #[.int .i64 (a : Int), .int .i64 (hh : Int)], .int .i64 (n : Int), undef, .pointer (some ⟨w.heap.size, 0, none⟩), .pointer (some ⟨w.heap.size + 1, 0, none⟩), .pointer (some ⟨w.heap.size + 1 + 1, 0, none⟩), .pointer (some ⟨w.heap.size + 1 + 1 + 1, 0, none⟩), .pointer (some ⟨w.heap.size + 1 + 1 + 1 + 1, 0, none⟩), .int .i64 0, .pointer (some ⟨gl, 0, none⟩), .pointer (some ⟨Bl, 0, none⟩), .pointer (some ⟨Bx, 0, none⟩), .int .i64 0, .pointer (some ⟨gv, 0, none⟩), .agg #[.int .i64 (a : Int), .int .i64 (hh : Int)], .int .i64 0, .int .i64 0, .bool false, .bool false, .int .i64 (n : Int), .bool false, .bool false, undef, .pointer (some ⟨gv, 0, none⟩), .agg #[.pointer (some ⟨gv, 0, none⟩), .int .i64 0], .agg #[.int .i64 (a : Int), .int .i64 (hh : Int)], .func (.func 82) #[] #[.pointer (some ⟨w8.heap.size, 0, none⟩), .pointer (some ⟨w8.heap.size + 1, 0, none⟩)], .agg #[.int .i64 x.se, .int .i64 x.st, .int .i64 x.en, .int .i64 x.ad, .int .i64 x.le, .int .i64 x.cn, .int .i64 x.co, .int .u32 x.cr], .int .i64 0, undef, undef, undef, undef, undef, undef, undef, undef, undef, undef, undef, undef, undef, undef], defers := [] })
    (fun x a' s A B row hs hg hr => by
      obtain ⟨Bx, h1, h2⟩ := hs
      exact ⟨Bx, (hg.block Bx (Array.getElem?_eq_some_iff.1 h1).1 (fun e => by
        obtain ⟨_, o, ho, hc⟩ := hr Bx e.symm
        rw [h1] at ho
        cases ho
        cases hc)).trans h1, h2⟩) ?assign ?body ?done ?stop
  case assign =>
    rintro l pre x W K hi hK
    have HK := Lib.hid hK
    clear hK
    dsimp only [enV]
    gi_wp2_with (refine inF_store_row rfl 77 (.tmp 12) (.tmp 28) rfl W.heap.size #[.int .i64 x.se, .int .i64 x.st, .int .i64 x.en, .int .i64 x.ad, .int .i64 x.le, .int .i64 x.cn, .int .i64 x.co, .int .u32 x.cr] rfl rfl 77 _ (heap_alloc_new _ _) (by kernel_rfl) rfl (by simp [Value.oneCell']) ?_; rw [World.setRow_alloc_new])
    refine HK.out _ _ ((KeepsOthers.alloc _ _).from _) (kpTk_below (alloc_bel rfl) hi.1.bel.size (by obtain ⟨v, h1, _⟩ := hi.1.lst; exact h1.lt)) ⟨hi.1.ck (ck_below (alloc_bel rfl) hi.1.bel.size), hi.2⟩ ⟨W.heap.size, heap_alloc_new _ _, rfl⟩
  case body =>
    rintro l pre x a' W hl ⟨r, hr⟩ ⟨hi, hlt⟩ ⟨Bx, hBx, rfl⟩ hNlt
    obtain ⟨v, hv, hrow⟩ := hi.lst
    have hc := hv.cell
    have hf := hv.frozen
    have hB5 : w.heap.size + 5 ≤ Bl := by have := HBL.out; have := GLB.out; omega
    obtain ⟨i0, hi0, hz0, hz1, hz2⟩ := info_parts infoEnt
    have HIT := Lib.hid hi
    have HV2 := Lib.hid hv
    have HROW := Lib.hid hrow
    have HBX := Lib.hid hBx
    have HLT := Lib.hid hlt
    have HNL := Lib.hid hNlt
    clear hi hv hrow hBx hlt hNlt hr
    gi_wp2_with (first
      | (refine inF_load_row rfl 77 (.tmp 12) rfl Bx rfl 77 #[.int .i64 x.se, .int .i64 x.st, .int .i64 x.en, .int .i64 x.ad, .int .i64 x.le, .int .i64 x.cn, .int .i64 x.co, .int .u32 x.cr] (0, 0) _ HBX.out Try.underlying77 rfl (by kernel_rfl) ?_)
      | (gi_at_builtin; refine wpListIn_append_own_at _ rfl _ _ 31 rfl w.heap.size 77 i0 (.agg #[.int .i64 0, .int .i64 0, .int .i64 0, .int .i64 0, .int .i64 0, .int .i64 0, .int .i64 0, .int .u32 0]) 8 64 Try.underlying31 hi0 hz0 hz1 hz2 (by rfl) (by decide) _ _ _ rfl (HROW.out.alloc _) ⟨W.heap.size, 0, none⟩ 1 1 (enC x) rfl (by rfl) (cells_new W (enC x) _) (enC_oneT x) (by have := HNL.out; unfold maxLen; omega) (by have := HNL.out; omega) (by have := HIT.out.bel.size; rw [World.size_alloc]; omega) ?_; intro v' w1 hown' hgrow _ hblk; obtain ⟨g', cap', rfl⟩ := ownsRow_succ hown'; have HTK := Lib.hid (HIT.out.app hB5 HV2.out HROW.out hown' hgrow hblk); have HKP := Lib.hid (kpTk_app HV2.out (by decide) HROW.out HIT.out.bel.size hBlw hown' hgrow hblk); have happ := HV2.out.appended (by decide) HROW.out HIT.out.bel.size hBlw hown' hgrow; have HKO := Lib.hid happ.2.2.2.1; have hc1 := happ.1.cell; have hf1 := happ.1.frozen; have hc2 := happ.2.1.cell; have k5 := nd_cell HTK.out.c5 0 _ rfl; clear happ hown' hgrow hblk))
    · have he : ((pre.length : Int) + 1 == (n : Int)) = true := by assumption
      have he2 : pre.length + 1 = n := by have := eq_of_beq he; omega
      exact ⟨HKO.out.from _, HKP.out, rfl, HTK.out, by simp; omega⟩
    · have he2 : pre.length + 1 ≠ n := fun e => by
        have he : ((pre.length : Int) + 1 == (n : Int)) = true := by rw [beq_iff_eq]; omega
        simp_all
      exact ⟨HKO.out.from _, HKP.out, HTK.out, by have := HLT.out; simp; omega⟩
  case done =>
    rintro D ys W hD ⟨rfl, hlk⟩ ⟨hi, hlt⟩ hK
    have hys : ys = ys.take n := (List.take_of_length_le (by omega)).symm
    have hyl : ys.length = min n ys.length := by omega
    gi_wp2
    obtain ⟨v, hv, hrow⟩ := hi.lst
    obtain ⟨A, cA, rfl⟩ := row_form hrow
    rw [Nat.zero_add] at hlk
    obtain ⟨X, hX⟩ : ∃ X : Nat → Prop, X = fun k => k = w.heap.size + 1 + 1 ∨ k = w.heap.size + 1 + 1 + 1 ∨ k = w.heap.size + 1 + 1 + 1 + 1 := ⟨_, rfl⟩
    have HX := Lib.hid hX
    clear hX
    obtain ⟨cv, hcv⟩ : ∃ cv : Int, cv = (cntR hh (ys).length : Int) := ⟨_, rfl⟩
    have LK1 : Hid (∀ y, OuterX X W y → y.cell? ⟨gl, 1, none⟩ = some (.int .i64 cv)) := Lib.hid (fun y hy => by rw [hcv]; exact nd_cell (hy.heap hlk (by rw [HX.out]; have := GLB.out; omega)) 1 _ rfl)
    have LV1 : Hid (∀ y, OuterX X W y → y.cell? ⟨Bl, 0, none⟩ = some (.slice A (ys).length cA)) := Lib.hid (fun y hy => nd_cell (hy.heap hv (by rw [HX.out]; have := GLB.out; have := HBL.out; omega)) 0 _ rfl)
    obtain ⟨ln, hln⟩ : ∃ ln, ln = (ys).length := ⟨_, rfl⟩
    rw [← hln] at LV1
    have HI := Lib.hid hi
    have HK := Lib.hid hK
    have HROW := Lib.hid hrow
    have HLN := Lib.hid hln
    have HCV := Lib.hid hcv
    have HYL := Lib.hid hyl
    have HYS := Lib.hid hys
    have HDD := Lib.hid hD
    clear hv hrow hi hK hlk hln hcv hyl hys hD hlt
    refine wpIn_wide.2 ?_
    have g1 : ∀ y : SubX X W, y.at_.cell? ⟨Bl, 0, none⟩ = some (.slice A ln cA) := fun y => LV1.out _ y.ok_
    have g2 : ∀ y : SubX X W, y.at_.cell? ⟨gl, 1, none⟩ = some (.int .i64 cv) := fun y => LK1.out _ y.ok_
    refine region_waysX 5 X (.one [0, 1, 2] 3 (.one [] 4 (.done []))) (by kernel_rfl) (by kernel_rfl) ?_
    rintro wd hbd
    have BD := Lib.hid hbd
    clear hbd
    have I6 : Hid (TkI Bl w n (ys) wd) := Lib.hid (HI.out.ck (ck_below BD.out HI.out.bel.size))
    have b6 : Boxed wd (w.heap.size + 1 + 1) 31 (.slice none 0 0) := I6.out.c6
    have b7 : Boxed wd (w.heap.size + 1 + 1 + 1) 3 (.int .i64 0) := I6.out.c7
    have b8 : Boxed wd (w.heap.size + 1 + 1 + 1 + 1) 28 (.int .i64 0) := I6.out.c8
    obtain ⟨u1, hu1⟩ : ∃ u1, u1 = wd.setCell ⟨w.heap.size + 1 + 1, 0, none⟩ (.slice A ln cA) := ⟨_, rfl⟩
    obtain ⟨u2, hu2⟩ : ∃ u2, u2 = u1.setCell ⟨w.heap.size + 1 + 1 + 1, 0, none⟩ (.int .i64 cv) := ⟨_, rfl⟩
    obtain ⟨u3, hu3⟩ : ∃ u3, u3 = u2.setCell ⟨w.heap.size + 1 + 1 + 1 + 1, 0, none⟩ (.int .i64 0) := ⟨_, rfl⟩
    have O0 := Lib.hid (outerX_of_below (X := X) BD.out)
    have O1 : Hid (OuterX X W u1) := Lib.hid (by rw [hu1]; exact O0.out.grown (grownBy_setCell' _ _ _) (fun k hk => .inl (by cases hk; rw [HX.out]; exact .inl rfl)))
    have O2 : Hid (OuterX X W u2) := Lib.hid (by rw [hu2]; exact O1.out.grown (grownBy_setCell' _ _ _) (fun k hk => .inl (by cases hk; rw [HX.out]; exact .inr (.inl rfl))))
    have O3 : Hid (OuterX X W u3) := Lib.hid (by rw [hu3]; exact O2.out.grown (grownBy_setCell' _ _ _) (fun k hk => .inl (by cases hk; rw [HX.out]; exact .inr (.inr rfl))))
    have p6 : Boxed u3 (w.heap.size + 1 + 1) 31 (.slice A ln cA) := by rw [hu3, hu2, hu1]; exact Boxed.other (Boxed.other (b6.set _) (by omega) _) (by omega) _
    have q7 : Boxed u1 (w.heap.size + 1 + 1 + 1) 3 (.int .i64 0) := by rw [hu1]; exact Boxed.other b7 (by omega) _
    have p7 : Boxed u3 (w.heap.size + 1 + 1 + 1) 3 (.int .i64 cv) := by rw [hu3, hu2]; exact Boxed.other (q7.set _) (by omega) _
    have q8 : Boxed u2 (w.heap.size + 1 + 1 + 1 + 1) 28 (.int .i64 0) := by rw [hu2, hu1]; exact Boxed.other (Boxed.other b8 (by omega) _) (by omega) _
    have p8 : Boxed u3 (w.heap.size + 1 + 1 + 1 + 1) 28 (.int .i64 0) := by rw [hu3]; exact q8.set _
    have f6 := b6.frozen
    have f7 := q7.frozen
    have f8 := q8.frozen
    have c6 := b6.cell
    have c7 := q7.cell
    have c8 := q8.cell
    have P6 := Lib.hid p6
    have P7 := Lib.hid p7
    have P8 := Lib.hid p8
    have HU1 := Lib.hid hu1
    have HU2 := Lib.hid hu2
    have HU3 := Lib.hid hu3
    have HKD : Hid (u3.heap[D]? = some (.deferred (some []))) := Lib.hid (O3.out.heap HK.out (by rw [HX.out]; have := HDD.out; have := Z9.out; have := GLB.out; omega))
    clear hu1 hu2 hu3 b6 b7 b8 q7 q8 p6 p7 p8
    rw [wpWaysT_one]
    try simp only [List.map_cons, List.map_nil, opAt, List.getElem?_toArray, List.getElem?_cons_zero, List.getElem?_cons_succ, Option.getD_some]
    repeat (first
      | go_big_quiet_step (fail))
    clear g1 g2
    refine wpQuiet_nil ?_
    go_wp2_with fail
    rw [← HU1.out]
    refine ⟨⟨⟨_, O1.out⟩, rfl⟩, ?_⟩
    try simp only [Act.put, List.setIfInBounds_toArray, List.set_cons_zero, List.set_cons_succ]
    rw [wpWaysT_one]
    try simp only [List.map_cons, List.map_nil, opAt, List.getElem?_toArray, List.getElem?_cons_zero, List.getElem?_cons_succ, Option.getD_some]
    refine wpQuiet_nil ?_
    go_wp2_with fail
    rw [← HU2.out]
    refine ⟨⟨⟨_, O2.out⟩, rfl⟩, ?_⟩
    try simp only [Act.put, List.setIfInBounds_toArray, List.set_cons_zero, List.set_cons_succ]
    rw [wpWaysT_done]
    try simp only [List.map_cons, List.map_nil, opAt, List.getElem?_toArray, List.getElem?_cons_zero, List.getElem?_cons_succ, Option.getD_some]
    refine wpQuiet_nil ?_
    simp only [List.drop_succ_cons, List.drop_zero]
    go_wp2_with fail
    rw [← HU3.out]
    gi_wp2
    refine ⟨by simp, .inl ⟨_, _, rfl, run_takeDeferred HKD.out, ?_⟩⟩
    have hpg := grownBy_putObj' u3 D (.deferred none)
    have hnD : ∀ k t u, Boxed u3 k t u → some k ≠ some D := fun k t u hb e => by
      cases e
      have h1 := HKD.out
      rw [show u3.heap[D]? = _ from hb] at h1
      cases h1
    have r6 := P6.out.kept hpg (hnD _ _ _ P6.out)
    have r7 := P7.out.kept hpg (hnD _ _ _ P7.out)
    have r8 := P8.out.kept hpg (hnD _ _ _ P8.out)
    refine ⟨.tuple #[.slice A ln cA, .int .i64 cv, .int .i64 0], results_cells3 (p := 6) (q := 7) (r := 8) rfl _ _ ⟨w.heap.size + 1 + 1, 0, none⟩ ⟨w.heap.size + 1 + 1 + 1, 0, none⟩ ⟨w.heap.size + 1 + 1 + 1 + 1, 0, none⟩ _ _ _ rfl rfl rfl (run_loadVar_one _ _ _ _ _ Try.underlying31 rfl r6.cell) (run_loadVar_one _ _ _ _ _ Try.underlying3 rfl r7.cell) (run_loadVar_one _ _ _ _ _ Try.underlying28 rfl r8.cell), ?_, ?_⟩
    · have hrow3 : (u3.putObj D (.deferred none)).ownsRow w.heap.size 77 8 (.slice A ln cA) (ys).length ((ys).flatMap enC) := by
        have h1 := HROW.out
        rw [← HLN.out] at h1
        rw [← HLN.out]
        refine row_keep h1 (fun k cur hb hc => ?_)
        have hkX : ¬ X k := by
          rw [HX.out]
          rintro (e | e | e)
          · rw [e, HI.out.c6] at hc; cases hc
          · rw [e, HI.out.c7] at hc; cases hc
          · rw [e, HI.out.c8] at hc; cases hc
        have h2 := O3.out.heap hc hkX
        exact ((hpg.block k (Array.getElem?_eq_some_iff.1 h2).1 (fun e => by cases e; rw [HKD.out] at h2; cases h2)).trans h2).trans hc.symm
      refine ⟨A, cA, ?_, ?_⟩
      · rw [HCV.out, HLN.out, ← HYL.out]
      · rw [← HYL.out, ← HYS.out, ← HLN.out]
        rw [← HLN.out] at hrow3
        exact hrow3
    · have hO := O3.out
      refine ⟨hO.os.trans HI.out.bel.os, hO.tape.trans HI.out.bel.tape, hO.output.trans HI.out.bel.output, Nat.le_trans HI.out.bel.size (Nat.le_trans hO.size hpg.size), fun k hk => ?_⟩
      have h1 := HI.out.bel.block k hk
      have h2 := hO.block k (Nat.lt_of_lt_of_le hk HI.out.bel.size) (by rw [HX.out]; omega)
      have h3 := hpg.block k (Nat.lt_of_lt_of_le (Nat.lt_of_lt_of_le hk HI.out.bel.size) hO.size) (fun e => by cases e; have := HDD.out; omega)
      exact h3.trans (h2.trans h1)
  case stop =>
    rintro D c pre W hD ⟨r, he, hne, hlk⟩ ⟨rfl, hi, hlt⟩ hK
    have hys : pre = es.take n := by rw [he, ← hlt, List.take_left]
    have hyl : pre.length = min n es.length := by rw [he, List.length_append]; omega
    gi_wp2
    obtain ⟨v, hv, hrow⟩ := hi.lst
    obtain ⟨A, cA, rfl⟩ := row_form hrow
    rw [Nat.zero_add] at hlk
    obtain ⟨X, hX⟩ : ∃ X : Nat → Prop, X = fun k => k = w.heap.size + 1 + 1 ∨ k = w.heap.size + 1 + 1 + 1 ∨ k = w.heap.size + 1 + 1 + 1 + 1 := ⟨_, rfl⟩
    have HX := Lib.hid hX
    clear hX
    obtain ⟨cv, hcv⟩ : ∃ cv : Int, cv = (cntR hh (pre).length : Int) := ⟨_, rfl⟩
    have LK1 : Hid (∀ y, OuterX X W y → y.cell? ⟨gl, 1, none⟩ = some (.int .i64 cv)) := Lib.hid (fun y hy => by rw [hcv]; exact nd_cell (hy.heap hlk (by rw [HX.out]; have := GLB.out; omega)) 1 _ rfl)
    have LV1 : Hid (∀ y, OuterX X W y → y.cell? ⟨Bl, 0, none⟩ = some (.slice A (pre).length cA)) := Lib.hid (fun y hy => nd_cell (hy.heap hv (by rw [HX.out]; have := GLB.out; have := HBL.out; omega)) 0 _ rfl)
    obtain ⟨ln, hln⟩ : ∃ ln, ln = (pre).length := ⟨_, rfl⟩
    rw [← hln] at LV1
    have HI := Lib.hid hi
    have HK := Lib.hid hK
    have HROW := Lib.hid hrow
    have HLN := Lib.hid hln
    have HCV := Lib.hid hcv
    have HYL := Lib.hid hyl
    have HYS := Lib.hid hys
    have HDD := Lib.hid hD
    clear hv hrow hi hK hlk hln hcv hyl hys hD hlt
    refine wpIn_wide.2 ?_
    have g1 : ∀ y : SubX X W, y.at_.cell? ⟨Bl, 0, none⟩ = some (.slice A ln cA) := fun y => LV1.out _ y.ok_
    have g2 : ∀ y : SubX X W, y.at_.cell? ⟨gl, 1, none⟩ = some (.int .i64 cv) := fun y => LK1.out _ y.ok_
    refine region_waysX 5 X (.one [0, 1, 2] 3 (.one [] 4 (.done []))) (by kernel_rfl) (by kernel_rfl) ?_
    rintro wd hbd
    have BD := Lib.hid hbd
    clear hbd
    have I6 : Hid (TkI Bl w n (pre) wd) := Lib.hid (HI.out.ck (ck_below BD.out HI.out.bel.size))
    have b6 : Boxed wd (w.heap.size + 1 + 1) 31 (.slice none 0 0) := I6.out.c6
    have b7 : Boxed wd (w.heap.size + 1 + 1 + 1) 3 (.int .i64 0) := I6.out.c7
    have b8 : Boxed wd (w.heap.size + 1 + 1 + 1 + 1) 28 (.int .i64 0) := I6.out.c8
    obtain ⟨u1, hu1⟩ : ∃ u1, u1 = wd.setCell ⟨w.heap.size + 1 + 1, 0, none⟩ (.slice A ln cA) := ⟨_, rfl⟩
    obtain ⟨u2, hu2⟩ : ∃ u2, u2 = u1.setCell ⟨w.heap.size + 1 + 1 + 1, 0, none⟩ (.int .i64 cv) := ⟨_, rfl⟩
    obtain ⟨u3, hu3⟩ : ∃ u3, u3 = u2.setCell ⟨w.heap.size + 1 + 1 + 1 + 1, 0, none⟩ (.int .i64 0) := ⟨_, rfl⟩
    have O0 := Lib.hid (outerX_of_below (X := X) BD.out)
    have O1 : Hid (OuterX X W u1) := Lib.hid (by rw [hu1]; exact O0.out.grown (grownBy_setCell' _ _ _) (fun k hk => .inl (by cases hk; rw [HX.out]; exact .inl rfl)))
    have O2 : Hid (OuterX X W u2) := Lib.hid (by rw [hu2]; exact O1.out.grown (grownBy_setCell' _ _ _) (fun k hk => .inl (by cases hk; rw [HX.out]; exact .inr (.inl rfl))))
    have O3 : Hid (OuterX X W u3) := Lib.hid (by rw [hu3]; exact O2.out.grown (grownBy_setCell' _ _ _) (fun k hk => .inl (by cases hk; rw [HX.out]; exact .inr (.inr rfl))))
    have p6 : Boxed u3 (w.heap.size + 1 + 1) 31 (.slice A ln cA) := by rw [hu3, hu2, hu1]; exact Boxed.other (Boxed.other (b6.set _) (by omega) _) (by omega) _
    have q7 : Boxed u1 (w.heap.size + 1 + 1 + 1) 3 (.int .i64 0) := by rw [hu1]; exact Boxed.other b7 (by omega) _
    have p7 : Boxed u3 (w.heap.size + 1 + 1 + 1) 3 (.int .i64 cv) := by rw [hu3, hu2]; exact Boxed.other (q7.set _) (by omega) _
    have q8 : Boxed u2 (w.heap.size + 1 + 1 + 1 + 1) 28 (.int .i64 0) := by rw [hu2, hu1]; exact Boxed.other (Boxed.other b8 (by omega) _) (by omega) _
    have p8 : Boxed u3 (w.heap.size + 1 + 1 + 1 + 1) 28 (.int .i64 0) := by rw [hu3]; exact q8.set _
    have f6 := b6.frozen
    have f7 := q7.frozen
    have f8 := q8.frozen
    have c6 := b6.cell
    have c7 := q7.cell
    have c8 := q8.cell
    have P6 := Lib.hid p6
    have P7 := Lib.hid p7
    have P8 := Lib.hid p8
    have HU1 := Lib.hid hu1
    have HU2 := Lib.hid hu2
    have HU3 := Lib.hid hu3
    have HKD : Hid (u3.heap[D]? = some (.deferred (some []))) := Lib.hid (O3.out.heap HK.out (by rw [HX.out]; have := HDD.out; have := Z9.out; have := GLB.out; omega))
    clear hu1 hu2 hu3 b6 b7 b8 q7 q8 p6 p7 p8
    rw [wpWaysT_one]
    try simp only [List.map_cons, List.map_nil, opAt, List.getElem?_toArray, List.getElem?_cons_zero, List.getElem?_cons_succ, Option.getD_some]
    repeat (first
      | go_big_quiet_step (fail))
    clear g1 g2
    refine wpQuiet_nil ?_
    go_wp2_with fail
    rw [← HU1.out]
    refine ⟨⟨⟨_, O1.out⟩, rfl⟩, ?_⟩
    try simp only [Act.put, List.setIfInBounds_toArray, List.set_cons_zero, List.set_cons_succ]
    rw [wpWaysT_one]
    try simp only [List.map_cons, List.map_nil, opAt, List.getElem?_toArray, List.getElem?_cons_zero, List.getElem?_cons_succ, Option.getD_some]
    refine wpQuiet_nil ?_
    go_wp2_with fail
    rw [← HU2.out]
    refine ⟨⟨⟨_, O2.out⟩, rfl⟩, ?_⟩
    try simp only [Act.put, List.setIfInBounds_toArray, List.set_cons_zero, List.set_cons_succ]
    rw [wpWaysT_done]
    try simp only [List.map_cons, List.map_nil, opAt, List.getElem?_toArray, List.getElem?_cons_zero, List.getElem?_cons_succ, Option.getD_some]
    refine wpQuiet_nil ?_
    simp only [List.drop_succ_cons, List.drop_zero]
    go_wp2_with fail
    rw [← HU3.out]
    gi_wp2
    refine ⟨by simp, .inl ⟨_, _, rfl, run_takeDeferred HKD.out, ?_⟩⟩
    have hpg := grownBy_putObj' u3 D (.deferred none)
    have hnD : ∀ k t u, Boxed u3 k t u → some k ≠ some D := fun k t u hb e => by
      cases e
      have h1 := HKD.out
      rw [show u3.heap[D]? = _ from hb] at h1
      cases h1
    have r6 := P6.out.kept hpg (hnD _ _ _ P6.out)
    have r7 := P7.out.kept hpg (hnD _ _ _ P7.out)
    have r8 := P8.out.kept hpg (hnD _ _ _ P8.out)
    refine ⟨.tuple #[.slice A ln cA, .int .i64 cv, .int .i64 0], results_cells3 (p := 6) (q := 7) (r := 8) rfl _ _ ⟨w.heap.size + 1 + 1, 0, none⟩ ⟨w.heap.size + 1 + 1 + 1, 0, none⟩ ⟨w.heap.size + 1 + 1 + 1 + 1, 0, none⟩ _ _ _ rfl rfl rfl (run_loadVar_one _ _ _ _ _ Try.underlying31 rfl r6.cell) (run_loadVar_one _ _ _ _ _ Try.underlying3 rfl r7.cell) (run_loadVar_one _ _ _ _ _ Try.underlying28 rfl r8.cell), ?_, ?_⟩
    · have hrow3 : (u3.putObj D (.deferred none)).ownsRow w.heap.size 77 8 (.slice A ln cA) (pre).length ((pre).flatMap enC) := by
        have h1 := HROW.out
        rw [← HLN.out] at h1
        rw [← HLN.out]
        refine row_keep h1 (fun k cur hb hc => ?_)
        have hkX : ¬ X k := by
          rw [HX.out]
          rintro (e | e | e)
          · rw [e, HI.out.c6] at hc; cases hc
          · rw [e, HI.out.c7] at hc; cases hc
          · rw [e, HI.out.c8] at hc; cases hc
        have h2 := O3.out.heap hc hkX
        exact ((hpg.block k (Array.getElem?_eq_some_iff.1 h2).1 (fun e => by cases e; rw [HKD.out] at h2; cases h2)).trans h2).trans hc.symm
      refine ⟨A, cA, ?_, ?_⟩
      · rw [HCV.out, HLN.out, ← HYL.out]
      · rw [← HYL.out, ← HYS.out, ← HLN.out]
        rw [← HLN.out] at hrow3
        exact hrow3
    · have hO := O3.out
      refine ⟨hO.os.trans HI.out.bel.os, hO.tape.trans HI.out.bel.tape, hO.output.trans HI.out.bel.output, Nat.le_trans HI.out.bel.size (Nat.le_trans hO.size hpg.size), fun k hk => ?_⟩
      have h1 := HI.out.bel.block k hk
      have h2 := hO.block k (Nat.lt_of_lt_of_le hk HI.out.bel.size) (by rw [HX.out]; omega)
      have h3 := hpg.block k (Nat.lt_of_lt_of_le (Nat.lt_of_lt_of_le hk HI.out.bel.size) hO.size) (fun e => by cases e; have := HDD.out; omega)
      exact h3.trans (h2.trans h1)
end Go.Proofs.Ytgkddhncfaeidaa
