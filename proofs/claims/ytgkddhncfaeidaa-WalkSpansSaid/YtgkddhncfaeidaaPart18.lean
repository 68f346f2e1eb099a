/- Several texts in one: What both Gets say of some bytes. Package page's Read on a disk. Package page's Write on a disk. -/
import Derived.Test.YtgkddhncfaeidaaPart17
import Derived.Test.YtgkddhncfaeidaaPart05
import Derived.Deep.RegionHeld3
import Derived.StillTailTactics
import Derived.Test.YtgkddhncfaeidaaPart15
set_option linter.unusedSimpArgs false
set_option linter.unusedVariables false
namespace Go.Proofs.Ytgkddhncfaeidaa
open Go.RowKit CrcM PageM
set_option linter.unusedVariables false

/-- The number that both tell. -/
noncomputable def numOf (xs : List UInt8) : Nat := open Classical in if xs.length ≠ 256 then 4 else if good xs then 0 else 3
/-- The page that both tell, over some row. -/
noncomputable def toldP (xs : List UInt8) : Pg := open Classical in if good xs then parse xs else ⟨0, 0, 0, []⟩

end Go.Proofs.Ytgkddhncfaeidaa

namespace Go.Proofs.Ytgkddhncfaeidaa
open Go.RowKit CrcM PageM
set_option linter.unusedVariables false
section
variable {w w' : World} {B N g gs gn L cs cn : Nat} {rw : Value} {st nw : List UInt8} {ws : List (Nat × List UInt8)} {left : Int}

/-- What a Read of page a, as kind k, tells: these bytes stand there. -/
def readsP (xs : List UInt8) (a : Nat) (k : UInt8) : Prop := numOf xs = 0 ∧ (toldP xs).addr = (a : Int) ∧ (toldP xs).kind = k

theorem get_told256 (A : Option Addr) (cap : Nat) (xs : List UInt8) (w : World) (hx : BytesAt w A xs) (hl : xs.length = 256) (hc : 256 ≤ cap) :
    Calls Try.prog 111 #[.agg tab, .slice A 256 cap] w fun e w' => ∃ A' c', e = .returned (.tuple #[.agg #[.int .u8 ((toldP xs).kind.toNat : Int), .int .i64 (toldP xs).addr, .int .u64 ((toldP xs).gen : Int), .slice A' (toldP xs).body.length c'], .int .i64 (numOf xs : Int)]) ∧ BytesAt w' A' (toldP xs).body ∧ (toldP xs).body.length ≤ c' ∧ c' ≤ maxLen ∧ (∀ a, A' = some a → w.heap.size ≤ a.block) ∧ Below w.heap.size w w' := by
  have hnl : ¬ xs.length ≠ 256 := fun h => h hl
  have bad : ¬ good xs → ∀ w' : World, Below w.heap.size w w' → ∃ A' c', (.returned (.tuple #[zeroPage, .int .i64 3]) : Ending) = .returned (.tuple #[.agg #[.int .u8 ((toldP xs).kind.toNat : Int), .int .i64 (toldP xs).addr, .int .u64 ((toldP xs).gen : Int), .slice A' (toldP xs).body.length c'], .int .i64 (numOf xs : Int)]) ∧ BytesAt w' A' (toldP xs).body ∧ (toldP xs).body.length ≤ c' ∧ c' ≤ maxLen ∧ (∀ a, A' = some a → w.heap.size ≤ a.block) ∧ Below w.heap.size w w' := by
    intro hn w' hb
    refine ⟨none, 0, ?_, ?_, ?_, Nat.zero_le _, (fun a h => by cases h), hb⟩
    · simp only [toldP, numOf, if_neg hn, if_neg hnl]; rfl
    · simp only [toldP, if_neg hn]; exact fun h => absurd rfl h
    · simp only [toldP, if_neg hn]; exact Nat.le_refl _
  by_cases hs : sizeOfPage xs ≤ 238
  · refine (get_restF A cap xs w hx (by omega) hl hs).mono fun e w' ⟨hb, hr⟩ => ?_
    rcases hr with ⟨hn, he⟩ | ⟨hg, A', c', he, h2, h3, hm4, h4⟩
    · rw [he]; exact bad hn w' hb
    · refine ⟨A', c', ?_, ?_, ?_, hm4, h4, hb⟩
      · simp only [toldP, numOf, if_pos hg, if_neg hnl]; exact he
      · simp only [toldP, if_pos hg]; exact h2
      · simp only [toldP, if_pos hg]; exact h3
  · refine (get_size A cap xs w hx (by omega) hl (by omega)).mono fun e w' ⟨he, hb⟩ => ?_
    rw [he]
    exact bad (fun hg => hs hg.2.1) w' hb

set_option maxHeartbeats 1000000 in
set_option maxRecDepth 100000 in
theorem pread_any (h : Dk w B N g gs gn rw L cs cn st nw ws true left) (za : Int) (a : Nat) (hza : za = (a : Int)) (hin : 256 * a + 256 ≤ L) (k : UInt8) (xs : List UInt8) (hxs : (nw.drop (256 * a)).take 256 = xs) :
    Calls Try.prog 104 #[.agg tab, .pointer (some ⟨g, 0, none⟩), .int .i64 za, .int .u8 (k.toNat : Int)] w fun e w' =>
      ((readsP xs a k ∧ ∃ A' c', e = .returned (.tuple #[.agg (cellsC (toldP xs) A' c'), .int .i64 0]) ∧ BytesAt w' A' (toldP xs).body ∧ (toldP xs).body.length ≤ c' ∧ c' ≤ maxLen ∧ ∀ a, A' = some a → w.heap.size ≤ a.block) ∨ (¬ readsP xs a k ∧ e = .returned (.tuple #[zeroPage, .int .i64 3]))) ∧ Below w.heap.size w w' := by
  subst hza
  unfold readsP
  obtain ⟨P, hPe⟩ : ∃ P, P = toldP xs := ⟨_, rfl⟩
  obtain ⟨m, hme⟩ : ∃ m, m = numOf xs := ⟨_, rfl⟩
  rw [← hPe, ← hme]
  have HPE := Lib.hid hPe.symm
  have HME := Lib.hid hme.symm
  clear hPe hme
  have hLh := h.hi
  have hxl : xs.length = 256 := by rw [← hxs, List.length_take, List.length_drop, h.lnw]; omega
  have hb0 : Below w.heap.size w (w.alloc (.cells tab 111)) := (Below.refl _ _).alloc (Nat.le_refl _) _
  have hb1 : Below w.heap.size w ((w.alloc (.cells tab 111)).alloc (.cells #[.int .u8 0, .int .i64 0, .int .u64 0, .slice none 0 0] 179)) := hb0.alloc (by simp) _
  have D1 := Lib.hid (h.below hb1)
  have ht0 : ((w.alloc (.cells tab 111)).alloc (.cells #[.int .u8 0, .int .i64 0, .int .u64 0, .slice none 0 0] 179)).heap[w.heap.size]? = some (.cells tab 111 (0, 0)) := heap_alloc2_old _ _ _
  have hr0 : ((w.alloc (.cells tab 111)).alloc (.cells #[.int .u8 0, .int .i64 0, .int .u64 0, .slice none 0 0] 179)).heap[w.heap.size + 1]? = some (.cells #[.int .u8 0, .int .i64 0, .int .u64 0, .slice none 0 0] 179 (0, 0)) := heap_alloc2_new _ _ _
  have hsz : ((w.alloc (.cells tab 111)).alloc (.cells #[.int .u8 0, .int .i64 0, .int .u64 0, .slice none 0 0] 179)).heap.size = w.heap.size + 2 := by simp
  have HT0 := Lib.hid ht0
  have HR0 := Lib.hid hr0
  have HSZ := Lib.hid hsz
  have HXL := Lib.hid hxl
  have HXS := Lib.hid hxs
  clear h hxl hxs ht0 hr0 hsz
  go_enter Try.func104, Try.ntmps104
  go_upto_region 4 with (go_at_call 110; (refine (readRaw_ok D1.out _ _ a 256 rfl rfl (by omega) (by omega) (by omega)).mono ?_); rintro e w1 ⟨A1, c1, rfl, hx1, hc1, hcm1, hb2⟩; rw [HXS.out] at hx1; have HX1 := Lib.hid hx1; clear hx1)
  have hsz2 := hb2.size
  rw [HSZ.out] at hsz2
  have HT1 := Lib.hid ((hb2.block w.heap.size (by rw [HSZ.out]; omega)).trans HT0.out)
  have HR1 := Lib.hid ((hb2.block (w.heap.size + 1) (by rw [HSZ.out]; omega)).trans HR0.out)
  have hbw1 : Below w.heap.size w w1 := hb1.trans (hb2.mono (by rw [HSZ.out]; omega))
  clear hb2
  by_cases hm : m = 0
  · have d1 : ((m : Int) != 0) = false := by simp [hm]
    by_cases ha : P.addr = (a : Int)
    · have d2 : (P.addr != (a : Int)) = false := by simp [ha]
      by_cases hk : P.kind = k
      · have d3 : (((P.kind.toNat : Nat) : Int) != ((k.toNat : Nat) : Int)) = false := by simp [hk]
        have HM := Lib.hid hm
        have HA := Lib.hid ha
        have HKK := Lib.hid hk
        clear hm ha hk
        go_wp2_with (first
            | (refine wpList_load_row rfl 111 (.tmp 4) rfl w.heap.size rfl 111 tab (0, 0) _ HT1.out Try.underlying111 rfl (by rw [size_tab]; exact info64) ?_)
            | (go_at_call 111; (refine (get_told256 A1 c1 xs w1 HX1.out HXL.out hc1).mono ?_); rintro e w2 ⟨A2, c2, rfl, hx2, hlc2, hmc2, hnw2, hb3⟩; rw [HPE.out, HME.out]; rw [HPE.out] at hx2; have HX2 := Lib.hid hx2; have hr2 := (hb3.block (w.heap.size + 1) (by omega)).trans HR1.out; have HR2 := Lib.hid ((Below.heap_alloc w2 (.cells #[.int .u8 (P.kind.toNat : Int), .int .i64 P.addr, .int .u64 (P.gen : Int), .slice A2 P.body.length c2] 179) (w.heap.size + 1) (Array.getElem?_eq_some_iff.1 hr2).1).trans hr2); clear hx2 hr2)
            | (refine wpList_store_row rfl 179 (.tmp 12) (.tmp 27) rfl w2.heap.size #[.int .u8 (P.kind.toNat : Int), .int .i64 P.addr, .int .u64 (P.gen : Int), .slice A2 P.body.length c2] rfl rfl 179 Try.zeroCells179 (heap_alloc_new _ _) (by kernel_rfl) (by kernel_rfl) (by kernel_rfl) ?_; rw [World.setRow_alloc_new])
            | (refine wpList_load_row rfl 179 (.tmp 12) rfl w2.heap.size rfl 179 _ (0, 0) _ (heap_alloc_new _ _) Try.underlying179 rfl (by kernel_rfl) ?_)
            | (refine wpList_store_row rfl 179 (.tmp 8) (.tmp 44) rfl (w.heap.size + 1) #[.int .u8 (P.kind.toNat : Int), .int .i64 P.addr, .int .u64 (P.gen : Int), .slice A2 P.body.length c2] rfl rfl 179 _ HR2.out (by kernel_rfl) (by kernel_rfl) (by kernel_rfl) ?_))
        have hm := HM.out
        have ha := HA.out
        have hk := HKK.out
        have hlc2' : P.body.length ≤ c2 := by rw [HPE.out] at hlc2; exact hlc2
        refine bodyPost_ret (v := .tuple #[.agg #[.int .u8 (P.kind.toNat : Int), .int .i64 P.addr, .int .u64 (P.gen : Int), .slice A2 P.body.length c2], .int .i64 0]) (results_cell_tmp (p := 8) (u := 9) (ty := 179) rfl _ _ (w.heap.size + 1) 179 #[.int .u8 (P.kind.toNat : Int), .int .i64 P.addr, .int .u64 (P.gen : Int), .slice A2 P.body.length c2] (0, 0) _ rfl (setRow_heap _ _ _ _ _ _ HR2.out) Try.underlying179 rfl size_page) rfl ⟨.inl ⟨⟨hm, ha, hk⟩, A2, c2, rfl, bytes_setRow (HX2.out.below ((Below.refl _ _).alloc (Nat.le_refl _) _)) (fun a ha => by have := hnw2 a ha; omega) _, hlc2', hmc2, fun a ha => by have := hnw2 a ha; omega⟩, ?_⟩
        exact ((hbw1.trans (hb3.mono hbw1.size)).alloc (by have := hbw1.size; have := hb3.size; omega) _).trans ⟨rfl, rfl, rfl, by simp, fun k hk => setRow_other _ _ _ _ (by omega)⟩
      · have d3 : (((P.kind.toNat : Nat) : Int) != ((k.toNat : Nat) : Int)) = true := by rw [bne_iff_ne]; intro e; exact hk (UInt8.toNat_inj.1 (by omega))
        have HKK := Lib.hid hk
        clear hm ha hk
        go_wp2_with (first
            | (refine wpList_load_row rfl 111 (.tmp 4) rfl w.heap.size rfl 111 tab (0, 0) _ HT1.out Try.underlying111 rfl (by rw [size_tab]; exact info64) ?_)
            | (go_at_call 111; (refine (get_told256 A1 c1 xs w1 HX1.out HXL.out hc1).mono ?_); rintro e w2 ⟨A2, c2, rfl, hx2, hlc2, hmc2, hnw2, hb3⟩; rw [HPE.out, HME.out]; rw [HPE.out] at hx2; have HX2 := Lib.hid hx2; have hr2 := (hb3.block (w.heap.size + 1) (by omega)).trans HR1.out; have HR2 := Lib.hid ((Below.heap_alloc w2 (.cells #[.int .u8 (P.kind.toNat : Int), .int .i64 P.addr, .int .u64 (P.gen : Int), .slice A2 P.body.length c2] 179) (w.heap.size + 1) (Array.getElem?_eq_some_iff.1 hr2).1).trans hr2); clear hx2 hr2)
            | (refine wpList_store_row rfl 179 (.tmp 12) (.tmp 27) rfl w2.heap.size #[.int .u8 (P.kind.toNat : Int), .int .i64 P.addr, .int .u64 (P.gen : Int), .slice A2 P.body.length c2] rfl rfl 179 Try.zeroCells179 (heap_alloc_new _ _) (by kernel_rfl) (by kernel_rfl) (by kernel_rfl) ?_; rw [World.setRow_alloc_new])
            | (refine wpList_store_row rfl 179 (.tmp 8) (.tmp 43) rfl (w.heap.size + 1) #[.int .u8 0, .int .i64 0, .int .u64 0, .slice none 0 0] rfl rfl 179 _ HR2.out (by kernel_rfl) (by kernel_rfl) (by kernel_rfl) ?_))
        refine bodyPost_ret (v := .tuple #[.agg #[.int .u8 0, .int .i64 0, .int .u64 0, .slice none 0 0], .int .i64 3]) (results_cell_tmp (p := 8) (u := 9) (ty := 179) rfl _ _ (w.heap.size + 1) 179 #[.int .u8 0, .int .i64 0, .int .u64 0, .slice none 0 0] (0, 0) _ rfl (setRow_heap _ _ _ _ _ _ HR2.out) Try.underlying179 rfl size_page) rfl ⟨.inr ⟨fun h => HKK.out h.2.2, rfl⟩, ?_⟩
        exact ((hbw1.trans (hb3.mono hbw1.size)).alloc (by have := hbw1.size; have := hb3.size; omega) _).trans ⟨rfl, rfl, rfl, by simp, fun k hk => setRow_other _ _ _ _ (by omega)⟩
    · have d2 : (P.addr != (a : Int)) = true := by rw [bne_iff_ne]; exact ha
      have HA := Lib.hid ha
      clear hm ha
      go_wp2_with (first
          | (refine wpList_load_row rfl 111 (.tmp 4) rfl w.heap.size rfl 111 tab (0, 0) _ HT1.out Try.underlying111 rfl (by rw [size_tab]; exact info64) ?_)
          | (go_at_call 111; (refine (get_told256 A1 c1 xs w1 HX1.out HXL.out hc1).mono ?_); rintro e w2 ⟨A2, c2, rfl, hx2, hlc2, hmc2, hnw2, hb3⟩; rw [HPE.out, HME.out]; rw [HPE.out] at hx2; have HX2 := Lib.hid hx2; have hr2 := (hb3.block (w.heap.size + 1) (by omega)).trans HR1.out; have HR2 := Lib.hid ((Below.heap_alloc w2 (.cells #[.int .u8 (P.kind.toNat : Int), .int .i64 P.addr, .int .u64 (P.gen : Int), .slice A2 P.body.length c2] 179) (w.heap.size + 1) (Array.getElem?_eq_some_iff.1 hr2).1).trans hr2); clear hx2 hr2)
          | (refine wpList_store_row rfl 179 (.tmp 12) (.tmp 27) rfl w2.heap.size #[.int .u8 (P.kind.toNat : Int), .int .i64 P.addr, .int .u64 (P.gen : Int), .slice A2 P.body.length c2] rfl rfl 179 Try.zeroCells179 (heap_alloc_new _ _) (by kernel_rfl) (by kernel_rfl) (by kernel_rfl) ?_; rw [World.setRow_alloc_new])
          | (refine wpList_store_row rfl 179 (.tmp 8) (.tmp 43) rfl (w.heap.size + 1) #[.int .u8 0, .int .i64 0, .int .u64 0, .slice none 0 0] rfl rfl 179 _ HR2.out (by kernel_rfl) (by kernel_rfl) (by kernel_rfl) ?_))
      refine bodyPost_ret (v := .tuple #[.agg #[.int .u8 0, .int .i64 0, .int .u64 0, .slice none 0 0], .int .i64 3]) (results_cell_tmp (p := 8) (u := 9) (ty := 179) rfl _ _ (w.heap.size + 1) 179 #[.int .u8 0, .int .i64 0, .int .u64 0, .slice none 0 0] (0, 0) _ rfl (setRow_heap _ _ _ _ _ _ HR2.out) Try.underlying179 rfl size_page) rfl ⟨.inr ⟨fun h => HA.out h.2.1, rfl⟩, ?_⟩
      exact ((hbw1.trans (hb3.mono hbw1.size)).alloc (by have := hbw1.size; have := hb3.size; omega) _).trans ⟨rfl, rfl, rfl, by simp, fun k hk => setRow_other _ _ _ _ (by omega)⟩
  · have d1 : ((m : Int) != 0) = true := by rw [bne_iff_ne]; omega
    have HM := Lib.hid hm
    clear hm
    go_wp2_with (first
        | (refine wpList_load_row rfl 111 (.tmp 4) rfl w.heap.size rfl 111 tab (0, 0) _ HT1.out Try.underlying111 rfl (by rw [size_tab]; exact info64) ?_)
        | (go_at_call 111; (refine (get_told256 A1 c1 xs w1 HX1.out HXL.out hc1).mono ?_); rintro e w2 ⟨A2, c2, rfl, hx2, hlc2, hmc2, hnw2, hb3⟩; rw [HPE.out, HME.out]; rw [HPE.out] at hx2; have HX2 := Lib.hid hx2; have hr2 := (hb3.block (w.heap.size + 1) (by omega)).trans HR1.out; have HR2 := Lib.hid ((Below.heap_alloc w2 (.cells #[.int .u8 (P.kind.toNat : Int), .int .i64 P.addr, .int .u64 (P.gen : Int), .slice A2 P.body.length c2] 179) (w.heap.size + 1) (Array.getElem?_eq_some_iff.1 hr2).1).trans hr2); clear hx2 hr2)
        | (refine wpList_store_row rfl 179 (.tmp 12) (.tmp 27) rfl w2.heap.size #[.int .u8 (P.kind.toNat : Int), .int .i64 P.addr, .int .u64 (P.gen : Int), .slice A2 P.body.length c2] rfl rfl 179 Try.zeroCells179 (heap_alloc_new _ _) (by kernel_rfl) (by kernel_rfl) (by kernel_rfl) ?_; rw [World.setRow_alloc_new])
        | (refine wpList_store_row rfl 179 (.tmp 8) (.tmp 43) rfl (w.heap.size + 1) #[.int .u8 0, .int .i64 0, .int .u64 0, .slice none 0 0] rfl rfl 179 _ HR2.out (by kernel_rfl) (by kernel_rfl) (by kernel_rfl) ?_))
    refine bodyPost_ret (v := .tuple #[.agg #[.int .u8 0, .int .i64 0, .int .u64 0, .slice none 0 0], .int .i64 3]) (results_cell_tmp (p := 8) (u := 9) (ty := 179) rfl _ _ (w.heap.size + 1) 179 #[.int .u8 0, .int .i64 0, .int .u64 0, .slice none 0 0] (0, 0) _ rfl (setRow_heap _ _ _ _ _ _ HR2.out) Try.underlying179 rfl size_page) rfl ⟨.inr ⟨fun h => HM.out h.1, rfl⟩, ?_⟩
    exact ((hbw1.trans (hb3.mono hbw1.size)).alloc (by have := hbw1.size; have := hb3.size; omega) _).trans ⟨rfl, rfl, rfl, by simp, fun k hk => setRow_other _ _ _ _ (by omega)⟩
end
end Go.Proofs.Ytgkddhncfaeidaa

namespace Go.Proofs.Ytgkddhncfaeidaa
open Go.RowKit CrcM PageM
set_option linter.unusedVariables false
section
variable {w w' : World} {B N g gs gn L cs cn : Nat} {rw : Value} {st nw : List UInt8} {ws : List (Nat × List UInt8)} {on : Bool} {left : Int}

theorem outerX_of_below {X : Nat → Prop} {w w' : World} (h : Below w.heap.size w w') : OuterX X w w' := (OuterX.refl X w).then h (Nat.le_refl _)

theorem put_okB (k : UInt8) (m g : Nat) (b PP : List UInt8) (eP : PP = putP ⟨k, (m : Int), g, b⟩) (hk : isK k = true) (hm : m < 512) (hg : g < 18446744073709551616) (hb : b.length ≤ 238) (A : Option Addr) (c : Nat) (w : World) (hx : BytesAt w A b) (hbc : b.length ≤ c) (C : Array Value) (eC : C = cellsC ⟨k, (m : Int), g, b⟩ A c) :
    Calls Try.prog 106 #[.agg tab, .agg C] w fun e w' => ∃ q, e = .returned (.tuple #[.slice (some ⟨q, 0, none⟩) 256 256, .int .i64 0]) ∧ BytesAt w' (some ⟨q, 0, none⟩) PP ∧ Below w.heap.size w w' := by
  rw [eC]
  exact (put_okV k m g b hk hm hg hb A c w hx hbc).mono fun e w' ⟨h1, h2, h3⟩ => ⟨_, h1, by rw [eP]; exact h2.bytes, h3⟩

/-- WriteRaw of one page's bytes. -/
theorem writeRaw_page (h : Dk w B N g gs gn rw L cs cn st nw ws true (-1)) (hws : ws.length ≤ 500) (za : Int) (a : Nat) (hza : za = (a : Int)) (hin : 256 * a + 256 ≤ L) (A : Option Addr) (c : Nat) (bs : List UInt8) (hx : BytesAt w A bs) (hbl : bs.length = 256) :
    Calls Try.prog 107 #[.pointer (some ⟨g, 0, none⟩), .int .i64 za, .slice A 256 c] w fun e w' => e = .returned (.int .i64 0) ∧
      (∃ rw' ws', Dk w' B w'.heap.size g gs gn rw' L cs cn st (rawN nw (256 * a) bs 4) ws' true (-1) ∧ ws'.length = ws.length + 4 ∧ Moved w rw.ownBlock rw'.ownBlock) ∧ OuterX (DkX g gn rw) w w' := by
  have hh := h.hi
  refine (writeRaw_ok h hws za a 256 hza (.inr ⟨hin, by omega⟩) (by omega) (by omega) (by omega) A c bs hx hbl 1 rfl (by omega)).mono ?_
  rintro e w' ⟨h1, ⟨rw', ws', h2, h3, h4⟩, h5⟩
  refine ⟨h1, ⟨rw', ws', ?_, by omega, h4⟩, h5⟩
  simpa using h2

theorem OuterX.of_moved {w w1 w2 : World} {g gn : Nat} {rw : Value} (hb : Below w.heap.size w w1) (h2 : OuterX (DkX g gn rw) w1 w2) : OuterX (DkX g gn rw) w w2 :=
  ((OuterX.refl (DkX g gn rw) w).then hb (Nat.le_refl _)).chain (.inl rfl) h2

set_option maxHeartbeats 1000000 in
set_option maxRecDepth 100000 in
theorem pwrite_ok (h : Dk w B N g gs gn rw L cs cn st nw ws true (-1)) (hws : ws.length ≤ 500) (k : UInt8) (m gg : Nat) (b : List UInt8) (hk : isK k = true) (hm : m < 512) (hg : gg < 18446744073709551616) (hb : b.length ≤ 238) (hmL : 256 * m + 256 ≤ L) (A : Option Addr) (c : Nat) (hx : BytesAt w A b) (hbc : b.length ≤ c) (C : Array Value) (eC : C = cellsC ⟨k, (m : Int), gg, b⟩ A c) :
    Calls Try.prog 97 #[.agg tab, .pointer (some ⟨g, 0, none⟩), .agg C] w fun e w' => e = .returned (.int .i64 0) ∧
      (∃ rw' ws', Dk w' B w'.heap.size g gs gn rw' L cs cn st (rawN nw (256 * m) (putP ⟨k, (m : Int), gg, b⟩) 4) ws' true (-1) ∧ ws'.length = ws.length + 4 ∧ Moved w rw.ownBlock rw'.ownBlock) ∧ OuterX (DkX g gn rw) w w' := by
  obtain ⟨PP, eP⟩ : ∃ PP, PP = putP ⟨k, (m : Int), gg, b⟩ := ⟨_, rfl⟩
  have HK := Lib.hid hk
  have HPL : Hid (PP.length = 256) := Lib.hid (by rw [eP]; exact length_putP _ hb)
  have hC1 : C.all (·.oneCell') = true := by rw [eC]; simp [cellsC, Value.oneCell']
  have hC4 : C.size = 4 := by rw [eC]; rfl
  have hCm : C[1]? = some (.int .i64 (m : Int)) := by rw [eC]; rfl
  have h1 := Lib.hid hC1
  have h4 := Lib.hid hC4
  have HM := Lib.hid hCm
  rw [← eP]
  have EP := Lib.hid eP
  have EC := Lib.hid eC
  have HX := Lib.hid hx
  have H := Lib.hid h
  have HML := Lib.hid hmL
  have hb1 : Below w.heap.size w ((w.alloc (.cells tab 111)).alloc (.cells C 179)) := ((Below.refl _ _).alloc (Nat.le_refl _) _).alloc (by simp) _
  have D1 := Lib.hid (h.below hb1)
  have ht0 : ((w.alloc (.cells tab 111)).alloc (.cells C 179)).heap[w.heap.size]? = some (.cells tab 111 (0, 0)) := heap_alloc2_old _ _ _
  have hr0 : ((w.alloc (.cells tab 111)).alloc (.cells C 179)).heap[w.heap.size + 1]? = some (.cells C 179 (0, 0)) := heap_alloc2_new _ _ _
  have hsz : ((w.alloc (.cells tab 111)).alloc (.cells C 179)).heap.size = w.heap.size + 2 := by simp
  have HX1 := Lib.hid (hx.below hb1)
  have HB1 := Lib.hid hb1
  have HT0 := Lib.hid ht0
  have HR0 := Lib.hid hr0
  have HSZ := Lib.hid hsz
  clear hk eC eP hC1 hC4 hCm hx h hmL hb1 ht0 hr0 hsz
  go_enter Try.func97, Try.ntmps97
  go_wp2_with (first
    | (go_at_call 105; (refine (ready_on D1.out).mono ?_); rintro e w1 ⟨rfl, rfl⟩)
    | (refine wpList_load_row rfl 111 (.tmp 3) rfl w.heap.size rfl 111 tab (0, 0) _ HT0.out Try.underlying111 rfl (by rw [size_tab]; exact info64) ?_)
    | (refine wpList_load_row rfl 179 (.tmp 5) rfl (w.heap.size + 1) rfl 179 C (0, 0) _ HR0.out Try.underlying179 rfl (by rw [h4.out]; exact size_page) ?_)
    | (go_at_call 106; (refine (put_okB k m gg b PP EP.out HK.out hm hg hb A c _ HX1.out hbc C EC.out).mono ?_); rintro e w2 ⟨q, rfl, hq, hb2⟩; have HQ := Lib.hid hq; clear hq; have D2 := Lib.hid (D1.out.below hb2); have hr2 := (hb2.block (w.heap.size + 1) (by rw [HSZ.out]; omega)).trans HR0.out; have k1 := (cell_of_row w2 (w.heap.size + 1) 1 _ _ _ hr2).trans HM.out; clear hr2)
    | (go_at_call 107; (refine (writeRaw_page D2.out hws _ m rfl HML.out _ _ PP HQ.out HPL.out).mono ?_); rintro e w3 ⟨rfl, ⟨rw3, ws3, d3, l3, m3⟩, o3⟩))
  go_ret
  have hbw : Below w.heap.size w w2 := HB1.out.trans (hb2.mono (by rw [HSZ.out]; omega))
  refine ⟨rfl, ⟨rw3, ws3, d3, l3, ?_⟩, o3.of_moved hbw⟩
  rcases m3 with e | ⟨q', e, hq'⟩
  · exact .inl e
  · exact .inr ⟨q', e, Nat.le_trans hbw.size hq'⟩

end
end Go.Proofs.Ytgkddhncfaeidaa
