/- Several texts in one: Package page's Write on a disk. Pages among bytes: what a written page leaves of the others; page's calls told by pages. What package page's calls on a disk refuse; no bytes at all. PageMoves: its walk. PageDisks: what its walk wants besides. -/
import Derived.Test.YtemnafnbpndldaaPgW
import Derived.Test.YtemnafnbpndldaaPgR
import Derived.Test.YtemnafnbpndldaaPageRow
import Derived.Test.YtemnafnbpndldaaDiskLoads
namespace Go.Proofs.Ytemnafnbpndldaa
open Go.RowKit CrcM PageM
set_option linter.unusedVariables false
section
variable {w w' : World} {B N g gs gn L cs cn : Nat} {rw : Value} {st nw : List UInt8} {ws : List (Nat × List UInt8)} {on : Bool} {left : Int}

theorem outerX_of_below {X : Nat → Prop} {w w' : World} (h : Below w.heap.size w w') : OuterX X w w' := (OuterX.refl X w).then h (Nat.le_refl _)

theorem put_okB (k : UInt8) (m g : Nat) (b PP : List UInt8) (eP : PP = putP ⟨k, (m : Int), g, b⟩) (hk : isK k = true) (hm : m < 512) (hg : g < 18446744073709551616) (hb : b.length ≤ 238) (A : Option Addr) (c : Nat) (w : World) (hx : BytesAt w A b) (hbc : b.length ≤ c) (C : Array Value) (eC : C = cellsC ⟨k, (m : Int), g, b⟩ A c) :
    Calls Try.prog 61 #[.agg tab, .agg C] w fun e w' => ∃ q, e = .returned (.tuple #[.slice (some ⟨q, 0, none⟩) 256 256, .int .i64 0]) ∧ BytesAt w' (some ⟨q, 0, none⟩) PP ∧ Below w.heap.size w w' := by
  rw [eC]
  exact (put_okV k m g b hk hm hg hb A c w hx hbc).mono fun e w' ⟨h1, h2, h3⟩ => ⟨_, h1, by rw [eP]; exact h2.bytes, h3⟩

theorem put_errC (p : Pg) (hp : ¬ okP p) (hc : bodyC p) (A : Option Addr) (c : Nat) (w : World) (C : Array Value) (eC : C = cellsC p A c) :
    Calls Try.prog 61 #[.agg tab, .agg C] w fun e w' => e = .returned (.tuple #[.slice none 0 0, .int .i64 1]) ∧ Below w.heap.size w w' := by
  rw [eC]
  exact put_errV p hp hc A c w

/-- WriteRaw of one page's bytes. -/
theorem writeRaw_page (h : Dk w B N g gs gn rw L cs cn st nw ws true (-1)) (hws : ws.length ≤ 500) (za : Int) (a : Nat) (hza : za = (a : Int)) (hin : 256 * a + 256 ≤ L) (A : Option Addr) (c : Nat) (bs : List UInt8) (hx : BytesAt w A bs) (hbl : bs.length = 256) :
    Calls Try.prog 35 #[.pointer (some ⟨g, 0, none⟩), .int .i64 za, .slice A 256 c] w fun e w' => e = .returned (.int .i64 0) ∧
      (∃ rw' ws', Dk w' B w'.heap.size g gs gn rw' L cs cn st (rawN nw (256 * a) bs 4) ws' true (-1) ∧ ws'.length = ws.length + 4 ∧ Moved w rw.ownBlock rw'.ownBlock) ∧ OuterX (DkX g gn rw) w w' := by
  have hh := h.hi
  refine (writeRaw_ok h hws za a 256 hza (.inr ⟨hin, by omega⟩) (by omega) (by omega) (by omega) A c bs hx hbl 1 rfl (by omega)).mono ?_
  rintro e w' ⟨h1, ⟨rw', ws', h2, h3, h4⟩, h5⟩
  refine ⟨h1, ⟨rw', ws', ?_, by omega, h4⟩, h5⟩
  simpa using h2

theorem OuterX.of_moved {w w1 w2 : World} {g gn : Nat} {rw : Value} (hb : Below w.heap.size w w1) (h2 : OuterX (DkX g gn rw) w1 w2) : OuterX (DkX g gn rw) w w2 :=
  ((OuterX.refl (DkX g gn rw) w).then hb (Nat.le_refl _)).chain (.inl rfl) h2

set_option maxHeartbeats 1000000 in
set_option maxRecDepth 100000 in
theorem pwrite_ok (h : Dk w B N g gs gn rw L cs cn st nw ws true (-1)) (hws : ws.length ≤ 500) (k : UInt8) (m gg : Nat) (b : List UInt8) (hk : isK k = true) (hm : m < 512) (hg : gg < 18446744073709551616) (hb : b.length ≤ 238) (hmL : 256 * m + 256 ≤ L) (A : Option Addr) (c : Nat) (hx : BytesAt w A b) (hbc : b.length ≤ c) (C : Array Value) (eC : C = cellsC ⟨k, (m : Int), gg, b⟩ A c) :
    Calls Try.prog 31 #[.agg tab, .pointer (some ⟨g, 0, none⟩), .agg C] w fun e w' => e = .returned (.int .i64 0) ∧
      (∃ rw' ws', Dk w' B w'.heap.size g gs gn rw' L cs cn st (rawN nw (256 * m) (putP ⟨k, (m : Int), gg, b⟩) 4) ws' true (-1) ∧ ws'.length = ws.length + 4 ∧ Moved w rw.ownBlock rw'.ownBlock) ∧ OuterX (DkX g gn rw) w w' := by
  obtain ⟨PP, eP⟩ : ∃ PP, PP = putP ⟨k, (m : Int), gg, b⟩ := ⟨_, rfl⟩
  have HK := Lib.hid hk
  have HPL : Hid (PP.length = 256) := Lib.hid (by rw [eP]; exact length_putP _ hb)
  have hC1 : C.all (·.oneCell') = true := by rw [eC]; simp [cellsC, Value.oneCell']
  have hC4 : C.size = 4 := by rw [eC]; rfl
  have hCm : C[1]? = some (.int .i64 (m : Int)) := by rw [eC]; rfl
  have h1 := Lib.hid hC1
  have h4 := Lib.hid hC4
  have HM := Lib.hid hCm
  rw [← eP]
  have EP := Lib.hid eP
  have EC := Lib.hid eC
  have HX := Lib.hid hx
  have H := Lib.hid h
  have HML := Lib.hid hmL
  have hb1 : Below w.heap.size w ((w.alloc (.cells tab 61)).alloc (.cells C 66)) := ((Below.refl _ _).alloc (Nat.le_refl _) _).alloc (by simp) _
  have D1 := Lib.hid (h.below hb1)
  have ht0 : ((w.alloc (.cells tab 61)).alloc (.cells C 66)).heap[w.heap.size]? = some (.cells tab 61 (0, 0)) := heap_alloc2_old _ _ _
  have hr0 : ((w.alloc (.cells tab 61)).alloc (.cells C 66)).heap[w.heap.size + 1]? = some (.cells C 66 (0, 0)) := heap_alloc2_new _ _ _
  have hsz : ((w.alloc (.cells tab 61)).alloc (.cells C 66)).heap.size = w.heap.size + 2 := by simp
  have HX1 := Lib.hid (hx.below hb1)
  have HB1 := Lib.hid hb1
  have HT0 := Lib.hid ht0
  have HR0 := Lib.hid hr0
  have HSZ := Lib.hid hsz
  clear hk eC eP hC1 hC4 hCm hx h hmL hb1 ht0 hr0 hsz
  go_enter Try.func31, Try.ntmps31
  go_wp2_with (first
    | (go_at_call 60; (refine (ready_on D1.out).mono ?_); rintro e w1 ⟨rfl, rfl⟩)
    | (refine wpList_load_row rfl 61 (.tmp 3) rfl w.heap.size rfl 61 tab (0, 0) _ HT0.out Try.underlying61 rfl (by rw [size_tab]; exact info64) ?_)
    | (refine wpList_load_row rfl 66 (.tmp 5) rfl (w.heap.size + 1) rfl 66 C (0, 0) _ HR0.out Try.underlying66 rfl (by rw [h4.out]; exact size_page) ?_)
    | (go_at_call 61; (refine (put_okB k m gg b PP EP.out HK.out hm hg hb A c _ HX1.out hbc C EC.out).mono ?_); rintro e w2 ⟨q, rfl, hq, hb2⟩; have HQ := Lib.hid hq; clear hq; have D2 := Lib.hid (D1.out.below hb2); have hr2 := (hb2.block (w.heap.size + 1) (by rw [HSZ.out]; omega)).trans HR0.out; have k1 := (cell_of_row w2 (w.heap.size + 1) 1 _ _ _ hr2).trans HM.out; clear hr2)
    | (go_at_call 35; (refine (writeRaw_page D2.out hws _ m rfl HML.out _ _ PP HQ.out HPL.out).mono ?_); rintro e w3 ⟨rfl, ⟨rw3, ws3, d3, l3, m3⟩, o3⟩))
  go_ret
  have hbw : Below w.heap.size w w2 := HB1.out.trans (hb2.mono (by rw [HSZ.out]; omega))
  refine ⟨rfl, ⟨rw3, ws3, d3, l3, ?_⟩, o3.of_moved hbw⟩
  rcases m3 with e | ⟨q', e, hq'⟩
  · exact .inl e
  · exact .inr ⟨q', e, Nat.le_trans hbw.size hq'⟩

set_option maxHeartbeats 1000000 in
set_option maxRecDepth 100000 in
theorem pwrite_err (h : Dk w B N g gs gn rw L cs cn st nw ws true left) (p : Pg) (hp : ¬ okP p) (hc : bodyC p) (A : Option Addr) (c : Nat) (C : Array Value) (eC : C = cellsC p A c) :
    Calls Try.prog 31 #[.agg tab, .pointer (some ⟨g, 0, none⟩), .agg C] w fun e w' => e = .returned (.int .i64 1) ∧ Below w.heap.size w w' := by
  have hC4 : C.size = 4 := by rw [eC]; rfl
  have h4 := Lib.hid hC4
  have EC := Lib.hid eC
  have HP := Lib.hid hp
  have HC := Lib.hid hc
  have hb1 : Below w.heap.size w ((w.alloc (.cells tab 61)).alloc (.cells C 66)) := ((Below.refl _ _).alloc (Nat.le_refl _) _).alloc (by simp) _
  have D1 := Lib.hid (h.below hb1)
  have ht0 : ((w.alloc (.cells tab 61)).alloc (.cells C 66)).heap[w.heap.size]? = some (.cells tab 61 (0, 0)) := heap_alloc2_old _ _ _
  have hr0 : ((w.alloc (.cells tab 61)).alloc (.cells C 66)).heap[w.heap.size + 1]? = some (.cells C 66 (0, 0)) := heap_alloc2_new _ _ _
  have hsz : ((w.alloc (.cells tab 61)).alloc (.cells C 66)).heap.size = w.heap.size + 2 := by simp
  have HB1 := Lib.hid hb1
  have HT0 := Lib.hid ht0
  have HR0 := Lib.hid hr0
  have HSZ := Lib.hid hsz
  clear eC hC4 h hp hc hb1 ht0 hr0 hsz
  go_enter Try.func31, Try.ntmps31
  go_wp2_with (first
    | (go_at_call 60; (refine (ready_on D1.out).mono ?_); rintro e w1 ⟨rfl, rfl⟩)
    | (refine wpList_load_row rfl 61 (.tmp 3) rfl w.heap.size rfl 61 tab (0, 0) _ HT0.out Try.underlying61 rfl (by rw [size_tab]; exact info64) ?_)
    | (refine wpList_load_row rfl 66 (.tmp 5) rfl (w.heap.size + 1) rfl 66 C (0, 0) _ HR0.out Try.underlying66 rfl (by rw [h4.out]; exact size_page) ?_)
    | (go_at_call 61; (refine (put_errC p HP.out HC.out A c _ C EC.out).mono ?_); rintro e w2 ⟨rfl, hb2⟩))
  go_ret
  exact ⟨rfl, HB1.out.trans (hb2.mono (by rw [HSZ.out]; omega))⟩
end
end Go.Proofs.Ytemnafnbpndldaa

namespace Go.Proofs.Ytemnafnbpndldaa
open Go.RowKit CrcM PageM
set_option linter.unusedVariables false

/-- The bytes of page a. -/
def pageOf (nw : List UInt8) (a : Nat) : List UInt8 := (nw.drop (256 * a)).take 256
theorem rawN_four {nw bs : List UInt8} {a : Nat} (hb : bs.length = 256) : rawN nw (256 * a) bs 4 = nw.take (256 * a) ++ bs ++ nw.drop (256 * a + 256) := by
  unfold rawN
  rw [show 64 * 4 = 256 from rfl, List.take_of_length_le (by omega : bs.length ≤ 256)]
theorem page_same {nw bs : List UInt8} {a : Nat} (h : 256 * a + 256 ≤ nw.length) (hb : bs.length = 256) : pageOf (rawN nw (256 * a) bs 4) a = bs := by
  rw [rawN_four hb]
  unfold pageOf
  rw [List.append_assoc, List.drop_left' (by rw [List.length_take]; omega)]
  exact List.take_left' hb
theorem page_other {nw bs : List UInt8} {a a' : Nat} (h : 256 * a + 256 ≤ nw.length) (hb : bs.length = 256) (hne : a' ≠ a) : pageOf (rawN nw (256 * a) bs 4) a' = pageOf nw a' := by
  rw [rawN_four hb]
  unfold pageOf
  have hl : (nw.take (256 * a)).length = 256 * a := by rw [List.length_take]; omega
  rcases Nat.lt_or_ge a' a with h1 | h1
  · rw [List.append_assoc, List.drop_append_of_le_length (by rw [hl]; omega), List.take_append_of_le_length (by rw [List.length_drop, hl]; omega), List.drop_take, List.take_take, Nat.min_eq_left (by omega)]
  · have hl2 : (nw.take (256 * a) ++ bs).length = 256 * a + 256 := by rw [List.length_append, hl, hb]
    rw [show 256 * a' = (256 * a + 256) + (256 * a' - (256 * a + 256)) by omega, ← List.drop_drop, List.drop_left' hl2, List.drop_drop]
theorem page_zeros {n a : Nat} (h : 256 * a + 256 ≤ n) : pageOf (List.replicate n 0) a = List.replicate 256 0 := by
  unfold pageOf
  rw [List.drop_replicate, List.take_replicate, Nat.min_eq_left (by omega)]

section
variable {w w' : World} {B N g gs gn L cs cn : Nat} {rw : Value} {st nw : List UInt8} {ws : List (Nat × List UInt8)} {on : Bool} {left : Int}

theorem Dk.outer_below (h : Dk w B N g gs gn rw L cs cn st nw ws on left) (ho : OuterX (DkX g gn rw) w w') : Below B w w' := by
  have h1 := h.gB
  have h2 := h.now.parts.1
  have h3 := h.blk
  have h4 := h.NN
  have h5 := h.gN
  refine ⟨ho.os, ho.tape, ho.output, ho.size, fun k hk => ho.block k (by omega) ?_⟩
  rintro (e | e | e)
  · omega
  · omega
  · have := h3 _ e; omega

/-- What a page that was written leaves. -/
def WrotePg (w w' : World) (B g gs gn : Nat) (rw : Value) (L cs cn : Nat) (st nw : List UInt8) (ws : List (Nat × List UInt8)) (a : Nat) (bs : List UInt8) : Prop :=
  (∃ rw' ws' nw', Dk w' B w'.heap.size g gs gn rw' L cs cn st nw' ws' true (-1) ∧ ws'.length = ws.length + 4 ∧ pageOf nw' a = bs ∧ (∀ a', a' ≠ a → pageOf nw' a' = pageOf nw a') ∧ Moved w rw.ownBlock rw'.ownBlock) ∧ OuterX (DkX g gn rw) w w' ∧ Below B w w'

theorem wrotePg (h : Dk w B N g gs gn rw L cs cn st nw ws on left) {a : Nat} {bs : List UInt8} (ha : 256 * a + 256 ≤ L) (hb : bs.length = 256)
    (hd : (∃ rw' ws', Dk w' B w'.heap.size g gs gn rw' L cs cn st (rawN nw (256 * a) bs 4) ws' true (-1) ∧ ws'.length = ws.length + 4 ∧ Moved w rw.ownBlock rw'.ownBlock) ∧ OuterX (DkX g gn rw) w w') : WrotePg w w' B g gs gn rw L cs cn st nw ws a bs := by
  obtain ⟨⟨rw', ws', h1, h2, h3⟩, h4⟩ := hd
  exact ⟨⟨rw', ws', _, h1, h2, page_same (by rw [h.lnw]; exact ha) hb, fun a' hne => page_other (by rw [h.lnw]; exact ha) hb hne, h3⟩, h4, h.outer_below h4⟩

theorem writeRaw_pg (h : Dk w B N g gs gn rw L cs cn st nw ws true (-1)) (hws : ws.length ≤ 500) (za : Int) (a : Nat) (hza : za = (a : Int)) (hin : 256 * a + 256 ≤ L) (A : Option Addr) (c : Nat) (bs : List UInt8) (hx : BytesAt w A bs) (hbl : bs.length = 256) :
    Calls Try.prog 35 #[.pointer (some ⟨g, 0, none⟩), .int .i64 za, .slice A 256 c] w fun e w' => e = .returned (.int .i64 0) ∧ WrotePg w w' B g gs gn rw L cs cn st nw ws a bs :=
  (writeRaw_page h hws za a hza hin A c bs hx hbl).mono fun e w' ⟨h1, h2⟩ => ⟨h1, wrotePg h hin hbl h2⟩

theorem pwrite_pg (h : Dk w B N g gs gn rw L cs cn st nw ws true (-1)) (hws : ws.length ≤ 500) (k : UInt8) (m gg : Nat) (b PP : List UInt8) (eP : PP = putP ⟨k, (m : Int), gg, b⟩) (hk : isK k = true) (hm : m < 512) (hg : gg < 18446744073709551616) (hb : b.length ≤ 238) (hmL : 256 * m + 256 ≤ L) (A : Option Addr) (c : Nat) (hx : BytesAt w A b) (hbc : b.length ≤ c) (C : Array Value) (eC : C = cellsC ⟨k, (m : Int), gg, b⟩ A c) :
    Calls Try.prog 31 #[.agg tab, .pointer (some ⟨g, 0, none⟩), .agg C] w fun e w' => e = .returned (.int .i64 0) ∧ WrotePg w w' B g gs gn rw L cs cn st nw ws m PP := by
  subst eP
  exact (pwrite_ok h hws k m gg b hk hm hg hb hmL A c hx hbc C eC).mono fun e w' ⟨h1, h2⟩ => ⟨h1, wrotePg h hmL (length_putP _ hb) h2⟩

theorem told_put (k : UInt8) (m g : Nat) (b : List UInt8) (hk : isK k = true) (hm : m < 512) (hg : g < 18446744073709551616) (hb : b.length ≤ 238) :
    numOf (putP ⟨k, (m : Int), g, b⟩) = 0 ∧ toldP (putP ⟨k, (m : Int), g, b⟩) = ⟨k, (m : Int), g, b⟩ := by
  have hgd := good_put k m g b hk hm hg hb
  have hl : ¬ (putP ⟨k, (m : Int), g, b⟩).length ≠ 256 := fun h => h (length_putP _ hb)
  refine ⟨?_, ?_⟩
  · simp only [numOf, if_pos hgd, if_neg hl]
  · simp only [toldP, if_pos hgd]
    exact (parse_put k m g b hm hg hb).2
theorem told_zeros : numOf (List.replicate 256 0) ≠ 0 := by
  have hn : ¬ good (List.replicate 256 0) := by
    intro h
    have := h.2.2.1.1
    revert this
    decide +kernel
  simp only [numOf, if_neg hn]
  split <;> omega

/-- Read where a page's bytes stand: as that kind, at that place. -/
theorem pread_yes (h : Dk w B N g gs gn rw L cs cn st nw ws true left) (za : Int) (a : Nat) (hza : za = (a : Int)) (hin : 256 * a + 256 ≤ L) (k : UInt8) (gg : Nat) (b : List UInt8) (hk : isK k = true) (hg : gg < 18446744073709551616) (hb : b.length ≤ 238)
    (PP : List UInt8) (eP : PP = putP ⟨k, (a : Int), gg, b⟩) (hxs : pageOf nw a = PP) (zk : Int) (hzk : zk = (k.toNat : Int)) :
    Calls Try.prog 34 #[.agg tab, .pointer (some ⟨g, 0, none⟩), .int .i64 za, .int .u8 zk] w fun e w' =>
      (∃ A' c', e = .returned (.tuple #[.agg (cellsC ⟨k, (a : Int), gg, b⟩ A' c'), .int .i64 0]) ∧ BytesAt w' A' b ∧ b.length ≤ c' ∧ ∀ a, A' = some a → w.heap.size ≤ a.block) ∧ Below w.heap.size w w' := by
  subst hzk
  have hh := h.hi
  obtain ⟨t1, t2⟩ := told_put k a gg b hk (by omega) hg hb
  rw [← eP] at t1 t2
  refine (pread_any h za a hza hin k PP hxs).mono fun e w' ⟨hr, hb⟩ => ⟨?_, hb⟩
  rcases hr with ⟨_, A', c', h2, h3, h4, h5⟩ | ⟨h1, _⟩
  · rw [t2] at h2 h3 h4
    exact ⟨A', c', h2, h3, h4, h5⟩
  · exact absurd ⟨t1, by rw [t2], by rw [t2]⟩ h1
/-- Read where no such page's bytes stand. -/
theorem pread_not (h : Dk w B N g gs gn rw L cs cn st nw ws true left) (za : Int) (a : Nat) (hza : za = (a : Int)) (hin : 256 * a + 256 ≤ L) (k : UInt8) (hno : ¬ readsP (pageOf nw a) a k) (zk : Int) (hzk : zk = (k.toNat : Int)) :
    Calls Try.prog 34 #[.agg tab, .pointer (some ⟨g, 0, none⟩), .int .i64 za, .int .u8 zk] w fun e w' => e = .returned (.tuple #[.agg #[.int .u8 0, .int .i64 0, .int .u64 0, .slice none 0 0], .int .i64 3]) ∧ Below w.heap.size w w' := by
  subst hzk
  refine (pread_any h za a hza hin k _ rfl).mono fun e w' ⟨hr, hb⟩ => ⟨?_, hb⟩
  rcases hr with ⟨h1, _⟩ | ⟨_, h1⟩
  · exact absurd h1 hno
  · exact h1
theorem reads_put {k k' : UInt8} {m gg a : Nat} {b : List UInt8} (hk : isK k = true) (hm : m < 512) (hg : gg < 18446744073709551616) (hb : b.length ≤ 238) (h : readsP (putP ⟨k, (m : Int), gg, b⟩) a k') : m = a ∧ k = k' := by
  obtain ⟨t1, t2⟩ := told_put k m gg b hk hm hg hb
  unfold readsP at h
  rw [t2] at h
  have h1 : (m : Int) = (a : Int) := h.2.1
  exact ⟨by omega, h.2.2⟩
end
end Go.Proofs.Ytemnafnbpndldaa

namespace Go.Proofs.Ytemnafnbpndldaa
open Go.RowKit CrcM PageM
set_option linter.unusedVariables false
section
variable {w w' : World} {B N g gs gn L cs cn : Nat} {rw : Value} {st nw : List UInt8} {ws : List (Nat × List UInt8)} {on : Bool} {left : Int}

theorem within_far (h : Dk w B N g gs gn rw L cs cn st nw ws on left) (za zn : Int) (hza : (L : Int) ≤ 256 * za) (hzn : zn ≠ 0) :
    Calls Try.prog 63 #[.pointer (some ⟨g, 0, none⟩), .int .i64 za, .int .i64 zn] w fun e w' => e = .returned (.bool false) ∧ w = w' := by
  have hlo := h.lo
  have hhi := h.hi
  have hpg := h.pg
  have H := Lib.hid h
  clear h
  obtain ⟨p, hp⟩ : ∃ p, p = L / 256 := ⟨_, rfl⟩
  have HP := Lib.hid hp
  have hn0 : (zn == 0) = false := by simpa using hzn
  have ha0 : decide ((0 : Int) ≤ za) = true := by simp; omega
  have hd1 : decide (za < (p : Int)) = false := by simp; omega
  clear hza hp
  go_enter Try.func63, Try.ntmps63
  go_wp2_with (go_at_call 17; refine (pages_any H.out).mono ?_; rintro e w1 ⟨rfl, rfl⟩; rw [← HP.out])
  all_goals go_ret
  all_goals exact ⟨rfl, rfl⟩

theorem readRaw_neg (h : Dk w B N g gs gn rw L cs cn st nw ws true left) (za zn : Int) (hn : zn < 0) :
    Calls Try.prog 36 #[.pointer (some ⟨g, 0, none⟩), .int .i64 za, .int .i64 zn] w fun e w' => e = .returned (.tuple #[.slice none 0 0, .int .i64 1]) ∧ w = w' := by
  have hd : decide (zn < 0) = true := by simpa using hn
  have H := Lib.hid h
  clear h hn
  go_enter Try.func36, Try.ntmps36
  go_wp2_with (go_at_call 60; refine (ready_on H.out).mono ?_; rintro e w1 ⟨rfl, rfl⟩)
  all_goals go_ret2
  all_goals exact ⟨rfl, rfl⟩
theorem readRaw_far (h : Dk w B N g gs gn rw L cs cn st nw ws true left) (za zn : Int) (hza : (L : Int) ≤ 256 * za) (hzn : 0 < zn) :
    Calls Try.prog 36 #[.pointer (some ⟨g, 0, none⟩), .int .i64 za, .int .i64 zn] w fun e w' => e = .returned (.tuple #[.slice none 0 0, .int .i64 1]) ∧ w = w' := by
  have hd : decide (zn < 0) = false := by simp; omega
  have H := Lib.hid h
  have HZ := Lib.hid hza
  have HN := Lib.hid hzn
  clear h hza hzn
  go_enter Try.func36, Try.ntmps36
  go_wp2_with (first
    | (go_at_call 60; refine (ready_on H.out).mono ?_; rintro e w1 ⟨rfl, rfl⟩)
    | (go_at_call 63; refine (within_far H.out _ _ HZ.out (by have := HN.out; omega)).mono ?_; rintro e w1 ⟨rfl, rfl⟩))
  all_goals go_ret2
  all_goals exact ⟨rfl, rfl⟩
theorem writeRaw_far (h : Dk w B N g gs gn rw L cs cn st nw ws true left) (za : Int) (hza : (L : Int) ≤ 256 * za) (A : Option Addr) (n c : Nat) (hn : 0 < n) :
    Calls Try.prog 35 #[.pointer (some ⟨g, 0, none⟩), .int .i64 za, .slice A n c] w fun e w' => e = .returned (.int .i64 1) ∧ w = w' := by
  have H := Lib.hid h
  have HZ := Lib.hid hza
  have HN := Lib.hid hn
  clear h hza hn
  go_enter Try.func35, Try.ntmps35
  go_wp2_with (first
    | (go_at_call 60; refine (ready_on H.out).mono ?_; rintro e w1 ⟨rfl, rfl⟩)
    | (go_at_call 63; refine (within_far H.out _ _ HZ.out (by have := HN.out; omega)).mono ?_; rintro e w1 ⟨rfl, rfl⟩))
  all_goals go_ret
  all_goals exact ⟨rfl, rfl⟩

theorem pread_far (h : Dk w B N g gs gn rw L cs cn st nw ws true left) (za : Int) (hza : (L : Int) ≤ 256 * za) (zk : Int) :
    Calls Try.prog 34 #[.agg tab, .pointer (some ⟨g, 0, none⟩), .int .i64 za, .int .u8 zk] w fun e w' => e = .returned (.tuple #[.agg #[.int .u8 0, .int .i64 0, .int .u64 0, .slice none 0 0], .int .i64 1]) ∧ Below w.heap.size w w' := by
  have hb0 : Below w.heap.size w (w.alloc (.cells tab 61)) := (Below.refl _ _).alloc (Nat.le_refl _) _
  have hb1 : Below w.heap.size w ((w.alloc (.cells tab 61)).alloc (.cells #[.int .u8 0, .int .i64 0, .int .u64 0, .slice none 0 0] 66)) := hb0.alloc (by simp) _
  have D1 := Lib.hid (h.below hb1)
  have hr0 : ((w.alloc (.cells tab 61)).alloc (.cells #[.int .u8 0, .int .i64 0, .int .u64 0, .slice none 0 0] 66)).heap[w.heap.size + 1]? = some (.cells #[.int .u8 0, .int .i64 0, .int .u64 0, .slice none 0 0] 66 (0, 0)) := heap_alloc2_new _ _ _
  have HR0 := Lib.hid hr0
  have HZ := Lib.hid hza
  clear h hr0 hza
  go_enter Try.func34, Try.ntmps34
  go_wp2_with (first
    | (go_at_call 36; (refine (readRaw_far D1.out _ _ HZ.out (by omega)).mono ?_); rintro e w1 ⟨rfl, rfl⟩)
    | fail)
  refine bodyPost_ret (v := .tuple #[.agg #[.int .u8 0, .int .i64 0, .int .u64 0, .slice none 0 0], .int .i64 1]) (results_cell_tmp (p := 8) (u := 9) (ty := 66) rfl _ _ (w.heap.size + 1) 66 #[.int .u8 0, .int .i64 0, .int .u64 0, .slice none 0 0] (0, 0) _ rfl HR0.out Try.underlying66 rfl size_page) rfl ⟨rfl, ?_⟩
  exact hb1

end
end Go.Proofs.Ytemnafnbpndldaa

namespace Go.Proofs.Ytemnafnbpndldaa
open Go.ChangeShapes Go.WideShapes Go.ChangeAt Go.RowKit CrcM PageM
set_option linter.unusedVariables false

theorem refPut_okB (k : UInt8) (m g : Nat) (b PP : List UInt8) (eP : PP = putP ⟨k, (m : Int), g, b⟩) (hk : isK k = true) (hm : m < 512) (hg : g < 18446744073709551616) (hb : b.length ≤ 238) (A : Option Addr) (c : Nat) (w : World) (hx : BytesAt w A b) (hbc : b.length ≤ c) (C : Array Value) (eC : C = cellsC ⟨k, (m : Int), g, b⟩ A c) :
    Calls Try.prog 30 #[.agg C] w fun e w' => ∃ q, e = .returned (.tuple #[.slice (some ⟨q, 0, none⟩) 256 256, .bool true]) ∧ BytesAt w' (some ⟨q, 0, none⟩) PP ∧ Below w.heap.size w w' := by
  rw [eC]
  exact (refPut_okV k m g b hk hm hg hb A c w hx hbc).mono fun e w' ⟨h1, h2, h3⟩ => ⟨_, h1, by rw [eP]; exact h2.bytes, h3⟩
theorem refPut_errC (p : Pg) (hp : ¬ okP p) (hc : bodyC p) (A : Option Addr) (c : Nat) (w : World) (C : Array Value) (eC : C = cellsC p A c) :
    Calls Try.prog 30 #[.agg C] w fun e w' => e = .returned (.tuple #[.slice none 0 0, .bool false]) ∧ Below w.heap.size w w' := by
  rw [eC]
  exact refPut_errV p hp hc A c w

set_option maxHeartbeats 2000000 in
set_option maxRecDepth 100000 in
theorem pageMoves_err (p : Pg) (hp : ¬ (isK p.kind = true ∧ p.body.length ≤ 238)) (hc : bodyC p) (A : Option Addr) (c : Nat) (t : Int) (w : World) :
    Calls Try.prog 5 #[.agg (cellsC p A c), .int .i64 t] w fun e w' => e = .returned (.bool true) ∧ Below w.heap.size w w' := by
  obtain ⟨m, hm, hme⟩ := modN p.addr 20 (by omega) (by omega)
  have HME : Hid (wrap64 ((IntKind.u64.wrap p.addr).tmod 20) = (m : Int)) := Lib.hid hme
  obtain ⟨k, ad, gg, b⟩ := p
  unfold cellsC
  dsimp only at *
  have hbad : ¬ okP ⟨k, (m : Int), gg, b⟩ := fun h => hp ⟨h.1, h.2.2.2⟩
  have hc2 : bodyC ⟨k, (m : Int), gg, b⟩ := ⟨hc.1, hc.2.1, by show (-9223372036854775808 : Int) ≤ (m : Int); omega, by show (m : Int) ≤ _; omega⟩
  have HB := Lib.hid hbad
  have HC := Lib.hid hc2
  clear hme hp hc hbad hc2
  go_enter Try.func5, Try.ntmps5
  go_upto_region 3 with (first
    | (go_at_call 29; refine (new_any _).mono ?_; rintro e w2 ⟨rfl, hb2⟩)
    | (refine wpList_store_row rfl 61 (.tmp 5) (.tmp 19) rfl w2.heap.size tab rfl rfl 61 Try.zeroCells61 (heap_alloc_new _ _) (by rw [size_tab]; exact info64) (by rw [size_tab, zero64, size_tabC]) (tab_one _) ?_; rw [World.setRow_alloc_new])
    | (go_at_call 20; (refine (new_ok 20 (by omega) (by omega) _).mono ?_); rintro e w3 ⟨g, gs, gn, cs, cn, rfl, d3, hb3⟩; have D3 := Lib.hid d3; clear d3))
  have hs2 : w.heap.size + 1 ≤ w2.heap.size := by have := hb2.size; simpa using this
  have hs3 : w2.heap.size + 1 ≤ w3.heap.size := by have := hb3.size; simpa using this
  have hp2 := (hb2.block w.heap.size (by simp)).trans (heap_alloc_new w _)
  have hp3 := (hb3.block w.heap.size (by simp; omega)).trans ((heap_alloc_old _ _ (by omega)).trans hp2)
  have ht3 := (hb3.block w2.heap.size (by simp)).trans (heap_alloc_new w2 _)
  have hb03 : Below w.heap.size w w3 := ((((Below.refl _ _).alloc (Nat.le_refl _) _).trans (hb2.mono (by simp))).alloc (by omega) _).trans (hb3.mono (by simp; omega))
  have HP3 := Lib.hid hp3
  have HT3 := Lib.hid ht3
  have hD3 : Hid (w2.heap.size + 1 ≤ g ∧ w2.heap.size + 1 ≤ gs ∧ w2.heap.size + 1 ≤ gn) := by
    have := D3.out
    refine ⟨?_, ?_, ?_⟩
    · have := this.gB; simpa using this
    · have := this.stay.parts.1; simpa using this
    · have := this.now.parts.1; simpa using this
  clear hb2 hb3 hp2 ht3
  have k1 := blk_cell hp3 1 _ rfl
  have f1 : w3.frozen? ⟨w.heap.size, 1, none⟩ = false := by simp [World.frozen?, hp3]
  clear hp3
  go_cut [] (fun wx => Below w.heap.size w wx ∧ wx.heap[w.heap.size]? = some (.cells #[.int .u8 (k.toNat : Int), .int .i64 (m : Int), .int .u64 (gg : Int), .slice A b.length c] 58 (0, 0)))
  case first =>
    go_wp2_with fail
    rw [HME.out]
    go_meet
    refine ⟨hb03.trans (below_setC' hb03.size (Nat.le_refl _)), ?_⟩
    exact heap_setCell_same w3 w.heap.size 1 _ _ _ HP3.out
  case rest =>
    obtain ⟨hbc, hpc⟩ := hcut
    have HPC := Lib.hid hpc
    have hbA := hbc
    have hbA := hbc
    have hbA := hbc
    have hbA := hbc
    have hbA := hbc
    have hbA := hbc
    have hbA := hbc
    have hbA := hbc
    clear hpc k1 f1
    go_wp2_with (first
      | (refine wpList_load_row rfl 58 (.tmp 2) rfl w.heap.size rfl 58 _ (0, 0) _ HPC.out Try.underlying58 rfl size_refPage ?_)
      | (go_at_call 30; (refine (refPut_errC ⟨k, (m : Int), gg, b⟩ HB.out HC.out A c _ _ rfl).mono ?_); rintro e w4 ⟨rfl, hb4⟩; have hbA := hbA.trans (hb4.mono hbA.size))
      | (go_at_call 33; (refine (puts_any _).mono ?_); rintro e w5 ⟨rfl, hb5⟩; have hbA := hbA.trans (hb5.mono hbA.size)))
    go_ret
    exact ⟨rfl, hbA⟩
/- ok -/
def fourK : List UInt8 := [83, 76, 73, 66]

end Go.Proofs.Ytemnafnbpndldaa

namespace Go.Proofs.Ytemnafnbpndldaa
open Go.RowKit CrcM PageM
set_option linter.unusedVariables false
theorem Outer.trans2 {B N : Nat} {w w1 w2 : World} (h : Outer B N w w1) (h2 : Outer B N w1 w2) : Outer B N w w2 :=
  ⟨h2.os.trans h.os, h2.tape.trans h.tape, h2.output.trans h.output, Nat.le_trans h.size h2.size, fun k hk hko => (h2.block k (Nat.lt_of_lt_of_le hk h.size) hko).trans (h.block k hk hko)⟩
section
variable {w w' : World} {B N g gs gn L cs cn : Nat} {rw : Value} {st nw : List UInt8} {ws : List (Nat × List UInt8)} {on : Bool} {left : Int}

theorem Dk.outer (h : Dk w B N g gs gn rw L cs cn st nw ws on left) (ho : OuterX (DkX g gn rw) w w') : Outer B N w w' := by
  have h1 := h.gB
  have h2 := h.now.parts.1
  have h3 := h.blk
  have h5 := h.gN
  have h6 := h.nN
  have h7 := h.wN
  refine ⟨ho.os, ho.tape, ho.output, ho.size, fun k hk hko => ho.block k hk ?_⟩
  rintro (e | e | e)
  · omega
  · omega
  · have := h3 _ e; have := h7 _ e; omega
theorem pread_num (h : Dk w B N g gs gn rw L cs cn st nw ws true left) (za : Int) (a : Nat) (hza : za = (a : Int)) (hin : 256 * a + 256 ≤ L) (k' k : UInt8) (gg : Nat) (b : List UInt8) (hk : isK k = true) (hg : gg < 18446744073709551616) (hb : b.length ≤ 238)
    (PP : List UInt8) (eP : PP = putP ⟨k, (a : Int), gg, b⟩) (hxs : pageOf nw a = PP) (dk : Bool) (hdk : dk = decide (k = k')) :
    Calls Try.prog 34 #[.agg tab, .pointer (some ⟨g, 0, none⟩), .int .i64 za, .int .u8 (k'.toNat : Int)] w fun e w' =>
      (∃ (C : Array Value) (z : Int), e = .returned (.tuple #[.agg C, .int .i64 z]) ∧ (z == 0) = dk ∧ (∃ P A' c', C = cellsC P A' c')) ∧ Below w.heap.size w w' := by
  by_cases hkk : k = k'
  · subst hkk
    refine (pread_yes h za a hza hin k gg b hk hg hb PP eP hxs _ rfl).mono fun e w' ⟨⟨A', c', h1, h2, h3, h4⟩, h5⟩ => ⟨⟨_, 0, h1, ?_, _, _, _, rfl⟩, h5⟩
    rw [hdk]; simp
  · have hh := h.hi
    refine (pread_not h za a hza hin k' (fun hr => by rw [hxs, eP] at hr; exact hkk (reads_put hk (by omega) hg hb hr).2) _ rfl).mono fun e w' ⟨h1, h5⟩ => ⟨⟨_, 3, h1, ?_, ⟨0, 0, 0, []⟩, none, 0, rfl⟩, h5⟩
    rw [hdk]; simp [hkk]
theorem not_reads_zero (a : Nat) (k : UInt8) : ¬ readsP (List.replicate 256 0) a k := fun h => told_zeros h.1

/-- WriteRaw of some bytes, and what is read there then. -/
theorem writeRaw_back (h : Dk w B N g gs gn rw L cs cn st nw ws true (-1)) (hws : ws.length ≤ 500) (za : Int) (a n : Nat) (hza : za = (a : Int)) (hin : 256 * a + 700 ≤ L) (hn : n ≤ 700) (A : Option Addr) (c : Nat) (bs : List UInt8) (hx : BytesAt w A bs) (hbl : bs.length = n) :
    Calls Try.prog 35 #[.pointer (some ⟨g, 0, none⟩), .int .i64 za, .slice A n c] w fun e w' => e = .returned (.int .i64 0) ∧
      (∃ rw' ws' nw', Dk w' B w'.heap.size g gs gn rw' L cs cn st nw' ws' true (-1) ∧ (nw'.drop (256 * a)).take n = bs) ∧ Outer B N w w' ∧ Below B w w' := by
  have hh := h.hi
  refine (writeRaw_ok h hws za a n hza (.inr ⟨by omega, by omega⟩) (by omega) (by omega) (by omega) A c bs hx hbl ((n + 255) / 256) rfl (by omega)).mono ?_
  rintro e w' ⟨h1, ⟨rw', ws', h2, h3, h4⟩, h5⟩
  refine ⟨h1, ⟨rw', ws', _, h2, ?_⟩, h.outer h5, h.outer_below h5⟩
  unfold rawN
  rw [List.append_assoc, List.drop_left' (by rw [List.length_take, h.lnw]; omega), List.take_append_of_le_length (by rw [List.length_take, List.length_append, List.length_replicate]; omega), List.take_take, Nat.min_eq_left (by omega)]
  exact List.take_left' hbl
end
end Go.Proofs.Ytemnafnbpndldaa
