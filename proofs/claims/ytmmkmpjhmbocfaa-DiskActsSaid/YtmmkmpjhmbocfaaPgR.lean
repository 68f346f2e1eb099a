/- Package page's Read on a disk. -/
import Derived.Test.YtmmkmpjhmbocfaaPgD
import Derived.Test.YtmmkmpjhmbocfaaGets
namespace Go.Proofs.Ytmmkmpjhmbocfaa
open Go.RowKit CrcM PageM
set_option linter.unusedVariables false
section
variable {w w' : World} {B N g gs gn L cs cn : Nat} {rw : Value} {st nw : List UInt8} {ws : List (Nat × List UInt8)} {left : Int}

/-- What a Read of page a, as kind k, tells: these bytes stand there. -/
def readsP (xs : List UInt8) (a : Nat) (k : UInt8) : Prop := numOf xs = 0 ∧ (toldP xs).addr = (a : Int) ∧ (toldP xs).kind = k

theorem get_told256 (A : Option Addr) (cap : Nat) (xs : List UInt8) (w : World) (hx : BytesAt w A xs) (hl : xs.length = 256) (hc : 256 ≤ cap) :
    Calls Try.prog 62 #[.agg tab, .slice A 256 cap] w fun e w' => ∃ A' c', e = .returned (.tuple #[.agg #[.int .u8 ((toldP xs).kind.toNat : Int), .int .i64 (toldP xs).addr, .int .u64 ((toldP xs).gen : Int), .slice A' (toldP xs).body.length c'], .int .i64 (numOf xs : Int)]) ∧ BytesAt w' A' (toldP xs).body ∧ (toldP xs).body.length ≤ c' ∧ (∀ a, A' = some a → w.heap.size ≤ a.block) ∧ Below w.heap.size w w' := by
  have hnl : ¬ xs.length ≠ 256 := fun h => h hl
  have bad : ¬ good xs → ∀ w' : World, Below w.heap.size w w' → ∃ A' c', (.returned (.tuple #[zeroPage, .int .i64 3]) : Ending) = .returned (.tuple #[.agg #[.int .u8 ((toldP xs).kind.toNat : Int), .int .i64 (toldP xs).addr, .int .u64 ((toldP xs).gen : Int), .slice A' (toldP xs).body.length c'], .int .i64 (numOf xs : Int)]) ∧ BytesAt w' A' (toldP xs).body ∧ (toldP xs).body.length ≤ c' ∧ (∀ a, A' = some a → w.heap.size ≤ a.block) ∧ Below w.heap.size w w' := by
    intro hn w' hb
    refine ⟨none, 0, ?_, ?_, ?_, (fun a h => by cases h), hb⟩
    · simp only [toldP, numOf, if_neg hn, if_neg hnl]; rfl
    · simp only [toldP, if_neg hn]; exact fun h => absurd rfl h
    · simp only [toldP, if_neg hn]; exact Nat.le_refl _
  by_cases hs : sizeOfPage xs ≤ 238
  · refine (get_restF A cap xs w hx (by omega) hl hs).mono fun e w' ⟨hb, hr⟩ => ?_
    rcases hr with ⟨hn, he⟩ | ⟨hg, A', c', he, h2, h3, h4⟩
    · rw [he]; exact bad hn w' hb
    · refine ⟨A', c', ?_, ?_, ?_, h4, hb⟩
      · simp only [toldP, numOf, if_pos hg, if_neg hnl]; exact he
      · simp only [toldP, if_pos hg]; exact h2
      · simp only [toldP, if_pos hg]; exact h3
  · refine (get_size A cap xs w hx (by omega) hl (by omega)).mono fun e w' ⟨he, hb⟩ => ?_
    rw [he]
    exact bad (fun hg => hs hg.2.1) w' hb

set_option maxHeartbeats 1000000 in
set_option maxRecDepth 100000 in
theorem pread_any (h : Dk w B N g gs gn rw L cs cn st nw ws true left) (za : Int) (a : Nat) (hza : za = (a : Int)) (hin : 256 * a + 256 ≤ L) (k : UInt8) (xs : List UInt8) (hxs : (nw.drop (256 * a)).take 256 = xs) :
    Calls Try.prog 34 #[.agg tab, .pointer (some ⟨g, 0, none⟩), .int .i64 za, .int .u8 (k.toNat : Int)] w fun e w' =>
      ((readsP xs a k ∧ ∃ A' c', e = .returned (.tuple #[.agg (cellsC (toldP xs) A' c'), .int .i64 0]) ∧ BytesAt w' A' (toldP xs).body ∧ (toldP xs).body.length ≤ c' ∧ ∀ a, A' = some a → w.heap.size ≤ a.block) ∨ (¬ readsP xs a k ∧ e = .returned (.tuple #[zeroPage, .int .i64 3]))) ∧ Below w.heap.size w w' := by
  subst hza
  unfold readsP
  obtain ⟨P, hPe⟩ : ∃ P, P = toldP xs := ⟨_, rfl⟩
  obtain ⟨m, hme⟩ : ∃ m, m = numOf xs := ⟨_, rfl⟩
  rw [← hPe, ← hme]
  have HPE := Lib.hid hPe.symm
  have HME := Lib.hid hme.symm
  clear hPe hme
  have hLh := h.hi
  have hxl : xs.length = 256 := by rw [← hxs, List.length_take, List.length_drop, h.lnw]; omega
  have hb0 : Below w.heap.size w (w.alloc (.cells tab 61)) := (Below.refl _ _).alloc (Nat.le_refl _) _
  have hb1 : Below w.heap.size w ((w.alloc (.cells tab 61)).alloc (.cells #[.int .u8 0, .int .i64 0, .int .u64 0, .slice none 0 0] 66)) := hb0.alloc (by simp) _
  have D1 := Lib.hid (h.below hb1)
  have ht0 : ((w.alloc (.cells tab 61)).alloc (.cells #[.int .u8 0, .int .i64 0, .int .u64 0, .slice none 0 0] 66)).heap[w.heap.size]? = some (.cells tab 61 (0, 0)) := heap_alloc2_old _ _ _
  have hr0 : ((w.alloc (.cells tab 61)).alloc (.cells #[.int .u8 0, .int .i64 0, .int .u64 0, .slice none 0 0] 66)).heap[w.heap.size + 1]? = some (.cells #[.int .u8 0, .int .i64 0, .int .u64 0, .slice none 0 0] 66 (0, 0)) := heap_alloc2_new _ _ _
  have hsz : ((w.alloc (.cells tab 61)).alloc (.cells #[.int .u8 0, .int .i64 0, .int .u64 0, .slice none 0 0] 66)).heap.size = w.heap.size + 2 := by simp
  have HT0 := Lib.hid ht0
  have HR0 := Lib.hid hr0
  have HSZ := Lib.hid hsz
  have HXL := Lib.hid hxl
  have HXS := Lib.hid hxs
  clear h hxl hxs ht0 hr0 hsz
  go_enter Try.func34, Try.ntmps34
  go_upto_region 4 with (go_at_call 36; (refine (readRaw_ok D1.out _ _ a 256 rfl rfl (by omega) (by omega) (by omega)).mono ?_); rintro e w1 ⟨A1, c1, rfl, hx1, hc1, hcm1, hb2⟩; rw [HXS.out] at hx1; have HX1 := Lib.hid hx1; clear hx1)
  have hsz2 := hb2.size
  rw [HSZ.out] at hsz2
  have HT1 := Lib.hid ((hb2.block w.heap.size (by rw [HSZ.out]; omega)).trans HT0.out)
  have HR1 := Lib.hid ((hb2.block (w.heap.size + 1) (by rw [HSZ.out]; omega)).trans HR0.out)
  have hbw1 : Below w.heap.size w w1 := hb1.trans (hb2.mono (by rw [HSZ.out]; omega))
  clear hb2
  by_cases hm : m = 0
  · have d1 : ((m : Int) != 0) = false := by simp [hm]
    by_cases ha : P.addr = (a : Int)
    · have d2 : (P.addr != (a : Int)) = false := by simp [ha]
      by_cases hk : P.kind = k
      · have d3 : (((P.kind.toNat : Nat) : Int) != ((k.toNat : Nat) : Int)) = false := by simp [hk]
        have HM := Lib.hid hm
        have HA := Lib.hid ha
        have HKK := Lib.hid hk
        clear hm ha hk
        go_wp2_with (first
            | (refine wpList_load_row rfl 61 (.tmp 4) rfl w.heap.size rfl 61 tab (0, 0) _ HT1.out Try.underlying61 rfl (by rw [size_tab]; exact info64) ?_)
            | (go_at_call 62; (refine (get_told256 A1 c1 xs w1 HX1.out HXL.out hc1).mono ?_); rintro e w2 ⟨A2, c2, rfl, hx2, hlc2, hnw2, hb3⟩; rw [HPE.out, HME.out]; rw [HPE.out] at hx2; have HX2 := Lib.hid hx2; have hr2 := (hb3.block (w.heap.size + 1) (by omega)).trans HR1.out; have HR2 := Lib.hid ((Below.heap_alloc w2 (.cells #[.int .u8 (P.kind.toNat : Int), .int .i64 P.addr, .int .u64 (P.gen : Int), .slice A2 P.body.length c2] 66) (w.heap.size + 1) (Array.getElem?_eq_some_iff.1 hr2).1).trans hr2); clear hx2 hr2)
            | (refine wpList_store_row rfl 66 (.tmp 12) (.tmp 27) rfl w2.heap.size #[.int .u8 (P.kind.toNat : Int), .int .i64 P.addr, .int .u64 (P.gen : Int), .slice A2 P.body.length c2] rfl rfl 66 Try.zeroCells66 (heap_alloc_new _ _) (by kernel_rfl) (by kernel_rfl) (by kernel_rfl) ?_; rw [World.setRow_alloc_new])
            | (refine wpList_load_row rfl 66 (.tmp 12) rfl w2.heap.size rfl 66 _ (0, 0) _ (heap_alloc_new _ _) Try.underlying66 rfl (by kernel_rfl) ?_)
            | (refine wpList_store_row rfl 66 (.tmp 8) (.tmp 44) rfl (w.heap.size + 1) #[.int .u8 (P.kind.toNat : Int), .int .i64 P.addr, .int .u64 (P.gen : Int), .slice A2 P.body.length c2] rfl rfl 66 _ HR2.out (by kernel_rfl) (by kernel_rfl) (by kernel_rfl) ?_))
        have hm := HM.out
        have ha := HA.out
        have hk := HKK.out
        have hlc2' : P.body.length ≤ c2 := by rw [HPE.out] at hlc2; exact hlc2
        refine bodyPost_ret (v := .tuple #[.agg #[.int .u8 (P.kind.toNat : Int), .int .i64 P.addr, .int .u64 (P.gen : Int), .slice A2 P.body.length c2], .int .i64 0]) (results_cell_tmp (p := 8) (u := 9) (ty := 66) rfl _ _ (w.heap.size + 1) 66 #[.int .u8 (P.kind.toNat : Int), .int .i64 P.addr, .int .u64 (P.gen : Int), .slice A2 P.body.length c2] (0, 0) _ rfl (setRow_heap _ _ _ _ _ _ HR2.out) Try.underlying66 rfl size_page) rfl ⟨.inl ⟨⟨hm, ha, hk⟩, A2, c2, rfl, bytes_setRow (HX2.out.below ((Below.refl _ _).alloc (Nat.le_refl _) _)) (fun a ha => by have := hnw2 a ha; omega) _, hlc2', fun a ha => by have := hnw2 a ha; omega⟩, ?_⟩
        exact ((hbw1.trans (hb3.mono hbw1.size)).alloc (by have := hbw1.size; have := hb3.size; omega) _).trans ⟨rfl, rfl, rfl, by simp, fun k hk => setRow_other _ _ _ _ (by omega)⟩
      · have d3 : (((P.kind.toNat : Nat) : Int) != ((k.toNat : Nat) : Int)) = true := by rw [bne_iff_ne]; intro e; exact hk (UInt8.toNat_inj.1 (by omega))
        have HKK := Lib.hid hk
        clear hm ha hk
        go_wp2_with (first
            | (refine wpList_load_row rfl 61 (.tmp 4) rfl w.heap.size rfl 61 tab (0, 0) _ HT1.out Try.underlying61 rfl (by rw [size_tab]; exact info64) ?_)
            | (go_at_call 62; (refine (get_told256 A1 c1 xs w1 HX1.out HXL.out hc1).mono ?_); rintro e w2 ⟨A2, c2, rfl, hx2, hlc2, hnw2, hb3⟩; rw [HPE.out, HME.out]; rw [HPE.out] at hx2; have HX2 := Lib.hid hx2; have hr2 := (hb3.block (w.heap.size + 1) (by omega)).trans HR1.out; have HR2 := Lib.hid ((Below.heap_alloc w2 (.cells #[.int .u8 (P.kind.toNat : Int), .int .i64 P.addr, .int .u64 (P.gen : Int), .slice A2 P.body.length c2] 66) (w.heap.size + 1) (Array.getElem?_eq_some_iff.1 hr2).1).trans hr2); clear hx2 hr2)
            | (refine wpList_store_row rfl 66 (.tmp 12) (.tmp 27) rfl w2.heap.size #[.int .u8 (P.kind.toNat : Int), .int .i64 P.addr, .int .u64 (P.gen : Int), .slice A2 P.body.length c2] rfl rfl 66 Try.zeroCells66 (heap_alloc_new _ _) (by kernel_rfl) (by kernel_rfl) (by kernel_rfl) ?_; rw [World.setRow_alloc_new])
            | (refine wpList_store_row rfl 66 (.tmp 8) (.tmp 43) rfl (w.heap.size + 1) #[.int .u8 0, .int .i64 0, .int .u64 0, .slice none 0 0] rfl rfl 66 _ HR2.out (by kernel_rfl) (by kernel_rfl) (by kernel_rfl) ?_))
        refine bodyPost_ret (v := .tuple #[.agg #[.int .u8 0, .int .i64 0, .int .u64 0, .slice none 0 0], .int .i64 3]) (results_cell_tmp (p := 8) (u := 9) (ty := 66) rfl _ _ (w.heap.size + 1) 66 #[.int .u8 0, .int .i64 0, .int .u64 0, .slice none 0 0] (0, 0) _ rfl (setRow_heap _ _ _ _ _ _ HR2.out) Try.underlying66 rfl size_page) rfl ⟨.inr ⟨fun h => HKK.out h.2.2, rfl⟩, ?_⟩
        exact ((hbw1.trans (hb3.mono hbw1.size)).alloc (by have := hbw1.size; have := hb3.size; omega) _).trans ⟨rfl, rfl, rfl, by simp, fun k hk => setRow_other _ _ _ _ (by omega)⟩
    · have d2 : (P.addr != (a : Int)) = true := by rw [bne_iff_ne]; exact ha
      have HA := Lib.hid ha
      clear hm ha
      go_wp2_with (first
          | (refine wpList_load_row rfl 61 (.tmp 4) rfl w.heap.size rfl 61 tab (0, 0) _ HT1.out Try.underlying61 rfl (by rw [size_tab]; exact info64) ?_)
          | (go_at_call 62; (refine (get_told256 A1 c1 xs w1 HX1.out HXL.out hc1).mono ?_); rintro e w2 ⟨A2, c2, rfl, hx2, hlc2, hnw2, hb3⟩; rw [HPE.out, HME.out]; rw [HPE.out] at hx2; have HX2 := Lib.hid hx2; have hr2 := (hb3.block (w.heap.size + 1) (by omega)).trans HR1.out; have HR2 := Lib.hid ((Below.heap_alloc w2 (.cells #[.int .u8 (P.kind.toNat : Int), .int .i64 P.addr, .int .u64 (P.gen : Int), .slice A2 P.body.length c2] 66) (w.heap.size + 1) (Array.getElem?_eq_some_iff.1 hr2).1).trans hr2); clear hx2 hr2)
          | (refine wpList_store_row rfl 66 (.tmp 12) (.tmp 27) rfl w2.heap.size #[.int .u8 (P.kind.toNat : Int), .int .i64 P.addr, .int .u64 (P.gen : Int), .slice A2 P.body.length c2] rfl rfl 66 Try.zeroCells66 (heap_alloc_new _ _) (by kernel_rfl) (by kernel_rfl) (by kernel_rfl) ?_; rw [World.setRow_alloc_new])
          | (refine wpList_store_row rfl 66 (.tmp 8) (.tmp 43) rfl (w.heap.size + 1) #[.int .u8 0, .int .i64 0, .int .u64 0, .slice none 0 0] rfl rfl 66 _ HR2.out (by kernel_rfl) (by kernel_rfl) (by kernel_rfl) ?_))
      refine bodyPost_ret (v := .tuple #[.agg #[.int .u8 0, .int .i64 0, .int .u64 0, .slice none 0 0], .int .i64 3]) (results_cell_tmp (p := 8) (u := 9) (ty := 66) rfl _ _ (w.heap.size + 1) 66 #[.int .u8 0, .int .i64 0, .int .u64 0, .slice none 0 0] (0, 0) _ rfl (setRow_heap _ _ _ _ _ _ HR2.out) Try.underlying66 rfl size_page) rfl ⟨.inr ⟨fun h => HA.out h.2.1, rfl⟩, ?_⟩
      exact ((hbw1.trans (hb3.mono hbw1.size)).alloc (by have := hbw1.size; have := hb3.size; omega) _).trans ⟨rfl, rfl, rfl, by simp, fun k hk => setRow_other _ _ _ _ (by omega)⟩
  · have d1 : ((m : Int) != 0) = true := by rw [bne_iff_ne]; omega
    have HM := Lib.hid hm
    clear hm
    go_wp2_with (first
        | (refine wpList_load_row rfl 61 (.tmp 4) rfl w.heap.size rfl 61 tab (0, 0) _ HT1.out Try.underlying61 rfl (by rw [size_tab]; exact info64) ?_)
        | (go_at_call 62; (refine (get_told256 A1 c1 xs w1 HX1.out HXL.out hc1).mono ?_); rintro e w2 ⟨A2, c2, rfl, hx2, hlc2, hnw2, hb3⟩; rw [HPE.out, HME.out]; rw [HPE.out] at hx2; have HX2 := Lib.hid hx2; have hr2 := (hb3.block (w.heap.size + 1) (by omega)).trans HR1.out; have HR2 := Lib.hid ((Below.heap_alloc w2 (.cells #[.int .u8 (P.kind.toNat : Int), .int .i64 P.addr, .int .u64 (P.gen : Int), .slice A2 P.body.length c2] 66) (w.heap.size + 1) (Array.getElem?_eq_some_iff.1 hr2).1).trans hr2); clear hx2 hr2)
        | (refine wpList_store_row rfl 66 (.tmp 12) (.tmp 27) rfl w2.heap.size #[.int .u8 (P.kind.toNat : Int), .int .i64 P.addr, .int .u64 (P.gen : Int), .slice A2 P.body.length c2] rfl rfl 66 Try.zeroCells66 (heap_alloc_new _ _) (by kernel_rfl) (by kernel_rfl) (by kernel_rfl) ?_; rw [World.setRow_alloc_new])
        | (refine wpList_store_row rfl 66 (.tmp 8) (.tmp 43) rfl (w.heap.size + 1) #[.int .u8 0, .int .i64 0, .int .u64 0, .slice none 0 0] rfl rfl 66 _ HR2.out (by kernel_rfl) (by kernel_rfl) (by kernel_rfl) ?_))
    refine bodyPost_ret (v := .tuple #[.agg #[.int .u8 0, .int .i64 0, .int .u64 0, .slice none 0 0], .int .i64 3]) (results_cell_tmp (p := 8) (u := 9) (ty := 66) rfl _ _ (w.heap.size + 1) 66 #[.int .u8 0, .int .i64 0, .int .u64 0, .slice none 0 0] (0, 0) _ rfl (setRow_heap _ _ _ _ _ _ HR2.out) Try.underlying66 rfl size_page) rfl ⟨.inr ⟨fun h => HM.out h.1, rfl⟩, ?_⟩
    exact ((hbw1.trans (hb3.mono hbw1.size)).alloc (by have := hbw1.size; have := hb3.size; omega) _).trans ⟨rfl, rfl, rfl, by simp, fun k hk => setRow_other _ _ _ _ (by omega)⟩
end
end Go.Proofs.Ytmmkmpjhmbocfaa
