/- The walk of the statement PagePuts. -/
import Derived.Test.YtnfbebfgllldgaaPuts
import Derived.Test.YtnfbebfgllldgaaMid
namespace Go.Proofs.Ytnfbebfgllldgaa
open Go.RowKit CrcM PageM
set_option linter.unusedVariables false

/-- The cells of a page. -/
def cellsC (p : Pg) (A : Option Addr) (c : Nat) : Array Value := #[.int .u8 (p.kind.toNat : Int), .int .i64 p.addr, .int .u64 (p.gen : Int), .slice A p.body.length c]

theorem put_errV (p : Pg) (hp : ¬ okP p) (hc : bodyC p) (A : Option Addr) (c : Nat) (w : World) :
    Calls Try.prog 41 #[.agg tab, .agg (cellsC p A c)] w fun e w' => e = .returned (.tuple #[.slice none 0 0, .int .i64 1]) ∧ Below w.heap.size w w' := put_err p hp hc A c w
theorem refPut_errV (p : Pg) (hp : ¬ okP p) (hc : bodyC p) (A : Option Addr) (c : Nat) (w : World) :
    Calls Try.prog 43 #[.agg (cellsC p A c)] w fun e w' => e = .returned (.tuple #[.slice none 0 0, .bool false]) ∧ Below w.heap.size w w' := refPut_err p hp hc A c w
theorem to_V (p : Pg) (A : Option Addr) (c : Nat) (w : World) :
    Calls Try.prog 42 #[.agg (cellsC p A c)] w fun e w' => e = .returned (.agg (cellsC p A c)) ∧ Below w.heap.size w w' := to_any _ _ _ _ _ _ w

theorem put_okV (k : UInt8) (m g : Nat) (b : List UInt8) (hk : isK k = true) (hm : m < 512) (hg : g < 18446744073709551616) (hb : b.length ≤ 238) (A : Option Addr) (c : Nat) (w : World) (hx : BytesAt w A b) (hbc : b.length ≤ c) :
    Calls Try.prog 41 #[.agg tab, .agg (cellsC ⟨k, (m : Int), g, b⟩ A c)] w fun e w' => e = .returned (.tuple #[.slice (some ⟨w.heap.size + 1 + 1, 0, none⟩) 256 256, .int .i64 0]) ∧ OwnB w' w.heap.size (w.heap.size + 1 + 1) 256 5 (putP ⟨k, (m : Int), g, b⟩) ∧ Below w.heap.size w w' :=
  put_ok k m g b hk hm hg hb A c w hx hbc
theorem refPut_okV (k : UInt8) (m g : Nat) (b : List UInt8) (hk : isK k = true) (hm : m < 512) (hg : g < 18446744073709551616) (hb : b.length ≤ 238) (A : Option Addr) (c : Nat) (w : World) (hx : BytesAt w A b) (hbc : b.length ≤ c) :
    Calls Try.prog 43 #[.agg (cellsC ⟨k, (m : Int), g, b⟩ A c)] w fun e w' => e = .returned (.tuple #[.slice (some ⟨w.heap.size + 1, 0, none⟩) 256 256, .bool true]) ∧ OwnB w' w.heap.size (w.heap.size + 1) 256 5 (putP ⟨k, (m : Int), g, b⟩) ∧ Below w.heap.size w w' :=
  refPut_ok k m g b hk hm hg hb A c w hx hbc
theorem get_putV (gB : Nat) (k : UInt8) (m g : Nat) (b PP : List UInt8) (e : PP = putP ⟨k, (m : Int), g, b⟩) (hk : isK k = true) (hm : m < 512) (hg : g < 18446744073709551616) (hb : b.length ≤ 238) (w : World)
    (hx : BytesAt w (some ⟨gB, 0, none⟩) PP) :
    Calls Try.prog 45 #[.agg tab, .slice (some ⟨gB, 0, none⟩) 256 256] w fun e w' => ∃ A' c', e = .returned (.tuple #[.agg (cellsC ⟨k, (m : Int), g, b⟩ A' c'), .int .i64 0]) ∧
      BytesAt w' A' b ∧ b.length ≤ c' ∧ Below w.heap.size w w' := by
  rw [e] at hx
  exact get_put (some ⟨gB, 0, none⟩) 256 k m g b hk hm hg hb w hx (Nat.le_refl _)

theorem from_V (p : Pg) (A : Option Addr) (c : Nat) (w : World) :
    Calls Try.prog 47 #[.agg (cellsC p A c)] w fun e w' => e = .returned (.agg (cellsC p A c)) ∧ Below w.heap.size w w' := from_any _ _ _ _ _ _ w
theorem same_V (p : Pg) (A B : Option Addr) (c d : Nat) (w : World) (hx : BytesAt w A p.body) (hy : BytesAt w B p.body) :
    Calls Try.prog 46 #[.agg (cellsC p A c), .agg (cellsC p B d)] w fun e w' => e = .returned (.bool true) ∧ Below w.heap.size w w' :=
  same_any _ _ _ A B _ _ c d p.body w rfl rfl hx hy
theorem _root_.Go.Proofs.Ytnfbebfgllldgaa.BytesAt.sub_ {w : World} {A : Option Addr} {xs : List UInt8} (h : BytesAt w A xs) (y : SubW w.heap.size w) : BytesAt y.at_ A xs := h.below y.ok_

set_option maxHeartbeats 1000000 in
set_option maxRecDepth 100000 in
theorem pagePuts_err (p : Pg) (hp : ¬ okP p) (hc : bodyC p) (A : Option Addr) (c : Nat) (w : World) :
    Calls Try.prog 11 #[.agg (cellsC p A c)] w fun e w' => e = .returned (.bool true) ∧ Below w.heap.size w w' := by
  obtain ⟨C, eC⟩ : ∃ C, C = cellsC p A c := ⟨_, rfl⟩
  have HP := Lib.hid hp
  have HC := Lib.hid hc
  have EC := Lib.hid eC
  have hC1 : C.all (·.oneCell') = true := by rw [eC]; simp [cellsC, Value.oneCell']
  have hC4 : C.size = 4 := by rw [eC]; rfl
  have h1 := Lib.hid hC1
  have h4 := Lib.hid hC4
  rw [← eC]
  clear hp hc eC hC1 hC4
  go_enter Try.func11, Try.ntmps11
  go_wp2_with (first
    | (go_at_call 36; refine (new_any _).mono ?_; rintro e w2 ⟨rfl, hb2⟩)
    | (refine wpList_store_row rfl 64 (.tmp 3) (.tmp 10) rfl w2.heap.size tab rfl rfl 64 Try.zeroCells64 (heap_alloc_new _ _) (by rw [size_tab]; exact info64) (by rw [size_tab, zero64, size_tabC]) (tab_one _) ?_; rw [World.setRow_alloc_new]))
  simp only [Act.put]
  have hbW : Below w.heap.size w (w2.alloc (.cells tab 64)) := (((Below.refl _ _).alloc (Nat.le_refl _) _).trans (hb2.mono (by simp))).alloc (by have := hb2.size; simp at this; omega) _
  have hs2 : w.heap.size < w2.heap.size := by have := hb2.size; simp at this; omega
  have F0 : Hid ((w2.alloc (.cells tab 64)).heap[w2.heap.size]? = some (.cells tab 64 (0, 0))) := Lib.hid (heap_alloc_new _ _)
  have F1 : Hid ((w2.alloc (.cells tab 64)).heap[w.heap.size]? = some (.cells C 75 (0, 0))) := Lib.hid ((heap_alloc_old _ _ hs2).trans ((hb2.block _ (by simp)).trans (heap_alloc_new _ _)))
  generalize eW2 : w2.alloc (.cells tab 64) = W2 at F0 F1 hbW
  have hsW : W2.heap.size = w2.heap.size + 1 := by rw [← eW2]; simp
  have EW := Lib.hid eW2
  have SW := Lib.hid hsW
  clear eW2 hsW hb2
  have f0 : Hid (∀ y : SubW W2.heap.size W2, y.at_.heap[w2.heap.size]? = some (.cells tab 64 (0, 0))) := fun y => (y.ok_.block _ (by rw [SW.out]; omega)).trans F0.out
  have f1 : Hid (∀ y : SubW W2.heap.size W2, y.at_.heap[w.heap.size]? = some (.cells C 75 (0, 0))) := fun y => (y.ok_.block _ (by rw [SW.out]; omega)).trans F1.out
  refine region_below_mid 3 W2.heap.size W2 (Below.refl _ _) (by kernel_rfl) (by kernel_rfl) rfl ?_
  simp only [List.take_succ_cons, List.take_zero, List.drop_succ_cons, List.drop_zero]
  repeat (first
    | (go_big_quiet_want; refine quiet_load_row 64 (.tmp 3) rfl w2.heap.size rfl 64 tab (0, 0) _ f0.out Try.underlying64 rfl (by rw [size_tab]; exact info64) ?_; simp only [Act.put, List.setIfInBounds_toArray, List.set_cons_zero, List.set_cons_succ]; go_big_quiet_on)
    | (go_big_quiet_want; refine quiet_load_row 75 (.tmp 1) rfl w.heap.size rfl 75 C (0, 0) _ f1.out Try.underlying75 rfl (by rw [size_refPage, h4.out]) ?_; simp only [Act.put, List.setIfInBounds_toArray, List.set_cons_zero, List.set_cons_succ]; go_big_quiet_on)
    | go_big_quiet_step ((go_at_call 42; rw [EC.out]; exact calls_sub (Nat.le_refl _) (to_V p A c _))))
  refine wpQuiet_nil ?_
  rintro w' ⟨y, rfl⟩ K hK
  rw [if_pos (by rfl)]
  go_simp
  go_at_call 41
  rw [EC.out]
  refine (put_errV p HP.out HC.out A c _).mono ?_
  rw [← EC.out]
  rintro e w3 ⟨rfl, hb3⟩
  go_wp2_with fail
  refine hK.out _ _ ?_
  repeat (go_big_quiet_step (fail))
  refine wpQuiet_nil ?_
  rintro w' ⟨z, rfl⟩
  have hbz : Below W2.heap.size W2 z.at_ := (y.ok_.trans (hb3.mono y.ok_.size)).trans (z.ok_.mono (Nat.le_trans y.ok_.size hb3.size))
  have G0 := Lib.hid ((hbz.block _ (by rw [SW.out]; omega)).trans F0.out)
  have G1 := Lib.hid ((hbz.block _ (by rw [SW.out]; omega)).trans F1.out)
  have hbZ := hbW.trans (hbz.mono (by rw [SW.out]; omega))
  generalize eZ : z.at_ = Z at G0 G1 hbZ
  clear hbz hb3 z f0 f1 F0 F1 hbW eZ y hK K
  have et : ∀ W, (convert 27 9 (.slice none 0 0)).run Try.prog W = .ok (.string ⟨#[]⟩) W := fun W => run_text (P := Try.prog) (w := W) (xs := []) 27 9 Try.underlying27 Try.underlying5 Try.underlying9 none 0 (fun h => absurd rfl h)
  go_wp2_with (first
    | (refine wpList_load_row rfl 75 (.tmp 1) rfl w.heap.size rfl 75 C (0, 0) _ G1.out Try.underlying75 rfl (by rw [size_refPage, h4.out]) ?_)
    | (go_at_call 43; rw [EC.out]; refine (refPut_errV p HP.out HC.out A c _).mono ?_; rw [← EC.out]; rintro e w4 ⟨rfl, hb4⟩)
    | (go_at_call 44; refine (puts_any _).mono ?_; rintro e w5 ⟨rfl, hb5⟩))
  go_ret
  exact ⟨rfl, (hbZ.trans (hb4.mono hbZ.size)).trans (hb5.mono (Nat.le_trans hbZ.size hb4.size))⟩
set_option maxHeartbeats 1000000 in
set_option maxRecDepth 100000 in
theorem pagePuts_ok (k : UInt8) (m g : Nat) (bs : List UInt8) (hk : isK k = true) (hm : m < 512) (hg : g < 18446744073709551616) (hb : bs.length ≤ 238) (A : Option Addr) (c : Nat) (w : World) (hx : BytesAt w A bs) (hbc : bs.length ≤ c) :
    Calls Try.prog 11 #[.agg (cellsC ⟨k, (m : Int), g, bs⟩ A c)] w fun e w' => e = .returned (.bool true) ∧ Below w.heap.size w w' := by
  obtain ⟨C, eC⟩ : ∃ C, C = cellsC ⟨k, (m : Int), g, bs⟩ A c := ⟨_, rfl⟩
  obtain ⟨PP, eP⟩ : ∃ PP, PP = putP ⟨k, (m : Int), g, bs⟩ := ⟨_, rfl⟩
  have HK := Lib.hid hk
  have HPL : Hid (PP.length = 256) := Lib.hid (by rw [eP]; exact length_putP _ hb)
  have EP := Lib.hid eP
  have EC := Lib.hid eC
  have hC1 : C.all (·.oneCell') = true := by rw [eC]; simp [cellsC, Value.oneCell']
  have hC4 : C.size = 4 := by rw [eC]; rfl
  have h1 := Lib.hid hC1
  have h4 := Lib.hid hC4
  rw [← eC]
  clear hk eC hC1 hC4 eP
  go_enter Try.func11, Try.ntmps11
  go_wp2_with (first
    | (go_at_call 36; refine (new_any _).mono ?_; rintro e w2 ⟨rfl, hb2⟩)
    | (refine wpList_store_row rfl 64 (.tmp 3) (.tmp 10) rfl w2.heap.size tab rfl rfl 64 Try.zeroCells64 (heap_alloc_new _ _) (by rw [size_tab]; exact info64) (by rw [size_tab, zero64, size_tabC]) (tab_one _) ?_; rw [World.setRow_alloc_new]))
  simp only [Act.put]
  have hbW : Below w.heap.size w (w2.alloc (.cells tab 64)) := (((Below.refl _ _).alloc (Nat.le_refl _) _).trans (hb2.mono (by simp))).alloc (by have := hb2.size; simp at this; omega) _
  have hs2 : w.heap.size < w2.heap.size := by have := hb2.size; simp at this; omega
  have F0 : Hid ((w2.alloc (.cells tab 64)).heap[w2.heap.size]? = some (.cells tab 64 (0, 0))) := Lib.hid (heap_alloc_new _ _)
  have F1 : Hid ((w2.alloc (.cells tab 64)).heap[w.heap.size]? = some (.cells C 75 (0, 0))) := Lib.hid ((heap_alloc_old _ _ hs2).trans ((hb2.block _ (by simp)).trans (heap_alloc_new _ _)))
  generalize eW2 : w2.alloc (.cells tab 64) = W2 at F0 F1 hbW
  have hsW : W2.heap.size = w2.heap.size + 1 := by rw [← eW2]; simp
  have EW := Lib.hid eW2
  have SW := Lib.hid hsW
  clear eW2 hsW hb2
  have f0 : Hid (∀ y : SubW W2.heap.size W2, y.at_.heap[w2.heap.size]? = some (.cells tab 64 (0, 0))) := fun y => (y.ok_.block _ (by rw [SW.out]; omega)).trans F0.out
  have f1 : Hid (∀ y : SubW W2.heap.size W2, y.at_.heap[w.heap.size]? = some (.cells C 75 (0, 0))) := fun y => (y.ok_.block _ (by rw [SW.out]; omega)).trans F1.out
  refine region_below_mid 3 W2.heap.size W2 (Below.refl _ _) (by kernel_rfl) (by kernel_rfl) rfl ?_
  simp only [List.take_succ_cons, List.take_zero, List.drop_succ_cons, List.drop_zero]
  repeat (first
    | (go_big_quiet_want; refine quiet_load_row 64 (.tmp 3) rfl w2.heap.size rfl 64 tab (0, 0) _ f0.out Try.underlying64 rfl (by rw [size_tab]; exact info64) ?_; simp only [Act.put, List.setIfInBounds_toArray, List.set_cons_zero, List.set_cons_succ]; go_big_quiet_on)
    | (go_big_quiet_want; refine quiet_load_row 75 (.tmp 1) rfl w.heap.size rfl 75 C (0, 0) _ f1.out Try.underlying75 rfl (by rw [size_refPage, h4.out]) ?_; simp only [Act.put, List.setIfInBounds_toArray, List.set_cons_zero, List.set_cons_succ]; go_big_quiet_on)
    | go_big_quiet_step ((go_at_call 42; rw [EC.out]; exact calls_sub (Nat.le_refl _) (to_V _ A c _))))
  refine wpQuiet_nil ?_
  rintro w' ⟨y, rfl⟩ K hK
  rw [if_pos (by rfl)]
  go_simp
  go_at_call 41
  rw [EC.out]
  refine (put_okV k m g bs HK.out hm hg hb A c _ (hx.below (hbW.trans (y.ok_.mono (by rw [SW.out]; omega)))) hbc).mono ?_
  rw [← EC.out, ← EP.out]
  rintro e w3 ⟨rfl, hown, hb3⟩
  generalize eG : y.at_.heap.size + 1 + 1 = gB at hown ⊢
  have HG := Lib.hid eG
  clear eG
  go_wp2_with fail
  refine hK.out _ _ ?_
  repeat (go_big_quiet_step (fail))
  refine wpQuiet_nil ?_
  rintro w' ⟨z, rfl⟩
  have hbz : Below W2.heap.size W2 z.at_ := (y.ok_.trans (hb3.mono y.ok_.size)).trans (z.ok_.mono (Nat.le_trans y.ok_.size hb3.size))
  have G0 := Lib.hid ((hbz.block _ (by rw [SW.out]; omega)).trans F0.out)
  have G1 := Lib.hid ((hbz.block _ (by rw [SW.out]; omega)).trans F1.out)
  have hbZ := hbW.trans (hbz.mono (by rw [SW.out]; omega))
  have GO := Lib.hid (hown.bytes.below z.ok_)
  have hs2Z : w2.heap.size < z.at_.heap.size := by have := hbz.size; rw [SW.out] at this; omega
  generalize eZ : z.at_ = Z at G0 G1 hbZ GO hs2Z
  clear hbz hb3 z f0 f1 F0 F1 hbW eZ HG hown y hK K
  go_wp2_with (first
    | (refine wpList_load_row rfl 75 (.tmp 1) rfl w.heap.size rfl 75 C (0, 0) _ G1.out Try.underlying75 rfl (by rw [size_refPage, h4.out]) ?_)
    | (refine wpList_load_row rfl 64 (.tmp 3) rfl w2.heap.size rfl 64 tab (0, 0) _ (((hb4.trans (hb5.mono hb4.size)).block _ hs2Z).trans G0.out) Try.underlying64 rfl (by rw [size_tab]; exact info64) ?_)
    | (go_at_call 43; rw [EC.out]; refine (refPut_okV k m g bs HK.out hm hg hb A c _ (hx.below hbZ) hbc).mono ?_; rw [← EC.out, ← EP.out]; rintro e w4 ⟨rfl, hown4, hb4⟩)
    | (go_at_call 44; refine (puts_any _).mono ?_; rintro e w5 ⟨rfl, hb5⟩; have t1 := run_text (P := Try.prog) (w := w5) (xs := PP) 27 9 Try.underlying27 Try.underlying5 Try.underlying9 (some ⟨gB, 0, none⟩) 256 (GO.out.below (hb4.trans (hb5.mono hb4.size))); have t2 := run_text (P := Try.prog) (w := w5) (xs := PP) 27 9 Try.underlying27 Try.underlying5 Try.underlying9 (some ⟨Z.heap.size + 1, 0, none⟩) 256 (hown4.bytes.below hb5); rw [HPL.out] at t1 t2)
    | (refine wpList_store_row rfl 77 (.tmp 8) (.tmp 46) rfl w6.heap.size (cellsC ⟨k, (m : Int), g, bs⟩ A' c') rfl rfl 77 #[.int .u8 0, .int .i64 0, .int .u64 0, .slice none 0 0] (heap_alloc_new _ _) size_page rfl (by simp [cellsC, Value.oneCell']) ?_; rw [World.setRow_alloc_new])
    | (go_at_call 45; refine (get_putV gB k m g bs PP EP.out HK.out hm hg hb _ (GO.out.below (hb4.trans (hb5.mono hb4.size)))).mono ?_; rintro e w6 ⟨A', c', rfl, hq, hqc, hb6⟩))
  have hb6' : Below Z.heap.size Z w6 := (hb4.trans (hb5.mono hb4.size)).trans (hb6.mono (Nat.le_trans hb4.size hb5.size))
  obtain ⟨D, eD⟩ : ∃ D, D = cellsC ⟨k, (m : Int), g, bs⟩ A' c' := ⟨_, rfl⟩
  rw [← eD]
  have ED := Lib.hid eD
  have hD4 : D.size = 4 := by rw [eD]; rfl
  have d4 := Lib.hid hD4
  clear eD hD4
  have hZw : w.heap.size < Z.heap.size := by have := hbZ.size; omega
  have hbF : Below w.heap.size w (w6.alloc (.cells D 77)) := (hbZ.trans (hb6'.mono (by omega))).alloc (by have := hb6'.size; omega) _
  have E0 : Hid ((w6.alloc (.cells D 77)).heap[w6.heap.size]? = some (.cells D 77 (0, 0))) := Lib.hid (heap_alloc_new _ _)
  have E1 : Hid ((w6.alloc (.cells D 77)).heap[w.heap.size]? = some (.cells C 75 (0, 0))) := Lib.hid ((heap_alloc_old _ _ (by have := hb6'.size; omega)).trans ((hb6'.block _ hZw).trans G1.out))
  have E2 : Hid (BytesAt (w6.alloc (.cells D 77)) A' bs) := Lib.hid (hq.below ((Below.refl _ _).alloc (Nat.le_refl _) _))
  have E3 : Hid (BytesAt (w6.alloc (.cells D 77)) A bs) := Lib.hid (hx.below hbF)
  have E4 : Hid (w6.heap.size < (w6.alloc (.cells D 77)).heap.size) := Lib.hid (by simp)
  have E5 : Hid (w.heap.size < (w6.alloc (.cells D 77)).heap.size) := Lib.hid (by have := hb6'.size; simp; omega)
  generalize w6.alloc (.cells D 77) = Y at E0 E1 E2 E3 E4 E5 hbF
  have f0 : Hid (∀ y : SubW Y.heap.size Y, y.at_.heap[w6.heap.size]? = some (.cells D 77 (0, 0))) := fun y => (y.ok_.block _ E4.out).trans E0.out
  have f1 : Hid (∀ y : SubW Y.heap.size Y, y.at_.heap[w.heap.size]? = some (.cells C 75 (0, 0))) := fun y => (y.ok_.block _ E5.out).trans E1.out
  clear hb4 hb5 hb6 hb6' hown4 t1 t2 hq G0 G1 GO
  refine region_below Y.heap.size Y (Below.refl _ _) (by kernel_rfl) (by kernel_rfl) ?_
  repeat (first
    | (go_big_quiet_want; refine quiet_load_row 77 (.tmp 8) rfl w6.heap.size rfl 77 D (0, 0) _ f0.out Try.underlying77 rfl (by rw [size_page, d4.out]) ?_; simp only [Act.put, List.setIfInBounds_toArray, List.set_cons_zero, List.set_cons_succ]; go_big_quiet_on)
    | (go_big_quiet_want; refine quiet_load_row 75 (.tmp 1) rfl w.heap.size rfl 75 C (0, 0) _ f1.out Try.underlying75 rfl (by rw [size_refPage, h4.out]) ?_; simp only [Act.put, List.setIfInBounds_toArray, List.set_cons_zero, List.set_cons_succ]; go_big_quiet_on)
    | go_big_quiet_step ((first
        | (go_at_call 47; rw [ED.out]; exact calls_sub (Nat.le_refl _) (from_V _ A' c' _))
        | (go_at_call 46; rw [EC.out]; exact calls_sub (Nat.le_refl _) (same_V _ A' A c' c _ (E2.out.sub_ _) (E3.out.sub_ _))))))
  refine wpQuiet_nil ?_
  rintro w' ⟨y, rfl⟩
  go_wp2
  go_ret
  exact ⟨rfl, hbF.trans (y.ok_.mono hbF.size)⟩

theorem pagePuts_walk (p : Pg) (hc : bodyC p) (A : Option Addr) (c : Nat) {w : World} (hx : BytesAt w A p.body) (hl : p.body.length ≤ c) :
    Calls Try.prog 11 #[.agg (cellsC p A c)] w fun e w' => e = .returned (.bool true) ∧ Below w.heap.size w w' := by
  by_cases hp : okP p
  · obtain ⟨k, a, g, b⟩ := p
    obtain ⟨h1, h2, h3, h4⟩ := hp
    obtain ⟨m, rfl⟩ := Int.eq_ofNat_of_zero_le h2
    exact pagePuts_ok k m g b h1 (by have : ((m : Int)) ≤ 511 := h3; omega) hc.1 h4 A c w hx hl
  · exact pagePuts_err p hp hc A c w
end Go.Proofs.Ytnfbebfgllldgaa
