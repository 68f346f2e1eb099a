/- Several texts in one: Package page's Write on a disk. Pages among bytes: what a written page leaves of the others; page's calls told by pages. Package super's Write. Package super's at: the superblock that stands at a place of a disk. Package super's Newest: the superblock of a disk that counts. -/
import Derived.Test.YtmmkmpjhmbocfaaPgW
import Derived.Test.YtmmkmpjhmbocfaaPgR
import Derived.Test.YtmmkmpjhmbocfaaPartA
namespace Go.Proofs.Ytmmkmpjhmbocfaa
open Go.RowKit CrcM PageM
set_option linter.unusedVariables false
section
variable {w w' : World} {B N g gs gn L cs cn : Nat} {rw : Value} {st nw : List UInt8} {ws : List (Nat × List UInt8)} {on : Bool} {left : Int}

theorem outerX_of_below {X : Nat → Prop} {w w' : World} (h : Below w.heap.size w w') : OuterX X w w' := (OuterX.refl X w).then h (Nat.le_refl _)

theorem put_okB (k : UInt8) (m g : Nat) (b PP : List UInt8) (eP : PP = putP ⟨k, (m : Int), g, b⟩) (hk : isK k = true) (hm : m < 512) (hg : g < 18446744073709551616) (hb : b.length ≤ 238) (A : Option Addr) (c : Nat) (w : World) (hx : BytesAt w A b) (hbc : b.length ≤ c) (C : Array Value) (eC : C = cellsC ⟨k, (m : Int), g, b⟩ A c) :
    Calls Try.prog 61 #[.agg tab, .agg C] w fun e w' => ∃ q, e = .returned (.tuple #[.slice (some ⟨q, 0, none⟩) 256 256, .int .i64 0]) ∧ BytesAt w' (some ⟨q, 0, none⟩) PP ∧ Below w.heap.size w w' := by
  rw [eC]
  exact (put_okV k m g b hk hm hg hb A c w hx hbc).mono fun e w' ⟨h1, h2, h3⟩ => ⟨_, h1, by rw [eP]; exact h2.bytes, h3⟩

theorem put_errC (p : Pg) (hp : ¬ okP p) (hc : bodyC p) (A : Option Addr) (c : Nat) (w : World) (C : Array Value) (eC : C = cellsC p A c) :
    Calls Try.prog 61 #[.agg tab, .agg C] w fun e w' => e = .returned (.tuple #[.slice none 0 0, .int .i64 1]) ∧ Below w.heap.size w w' := by
  rw [eC]
  exact put_errV p hp hc A c w

/-- WriteRaw of one page's bytes. -/
theorem writeRaw_page (h : Dk w B N g gs gn rw L cs cn st nw ws true (-1)) (hws : ws.length ≤ 500) (za : Int) (a : Nat) (hza : za = (a : Int)) (hin : 256 * a + 256 ≤ L) (A : Option Addr) (c : Nat) (bs : List UInt8) (hx : BytesAt w A bs) (hbl : bs.length = 256) :
    Calls Try.prog 35 #[.pointer (some ⟨g, 0, none⟩), .int .i64 za, .slice A 256 c] w fun e w' => e = .returned (.int .i64 0) ∧
      (∃ rw' ws', Dk w' B w'.heap.size g gs gn rw' L cs cn st (rawN nw (256 * a) bs 4) ws' true (-1) ∧ ws'.length = ws.length + 4 ∧ Moved w rw.ownBlock rw'.ownBlock) ∧ OuterX (DkX g gn rw) w w' := by
  have hh := h.hi
  refine (writeRaw_ok h hws za a 256 hza (.inr ⟨hin, by omega⟩) (by omega) (by omega) (by omega) A c bs hx hbl 1 rfl (by omega)).mono ?_
  rintro e w' ⟨h1, ⟨rw', ws', h2, h3, h4⟩, h5⟩
  refine ⟨h1, ⟨rw', ws', ?_, by omega, h4⟩, h5⟩
  simpa using h2

theorem OuterX.of_moved {w w1 w2 : World} {g gn : Nat} {rw : Value} (hb : Below w.heap.size w w1) (h2 : OuterX (DkX g gn rw) w1 w2) : OuterX (DkX g gn rw) w w2 :=
  ((OuterX.refl (DkX g gn rw) w).then hb (Nat.le_refl _)).chain (.inl rfl) h2

set_option maxHeartbeats 1000000 in
set_option maxRecDepth 100000 in
theorem pwrite_ok (h : Dk w B N g gs gn rw L cs cn st nw ws true (-1)) (hws : ws.length ≤ 500) (k : UInt8) (m gg : Nat) (b : List UInt8) (hk : isK k = true) (hm : m < 512) (hg : gg < 18446744073709551616) (hb : b.length ≤ 238) (hmL : 256 * m + 256 ≤ L) (A : Option Addr) (c : Nat) (hx : BytesAt w A b) (hbc : b.length ≤ c) (C : Array Value) (eC : C = cellsC ⟨k, (m : Int), gg, b⟩ A c) :
    Calls Try.prog 31 #[.agg tab, .pointer (some ⟨g, 0, none⟩), .agg C] w fun e w' => e = .returned (.int .i64 0) ∧
      (∃ rw' ws', Dk w' B w'.heap.size g gs gn rw' L cs cn st (rawN nw (256 * m) (putP ⟨k, (m : Int), gg, b⟩) 4) ws' true (-1) ∧ ws'.length = ws.length + 4 ∧ Moved w rw.ownBlock rw'.ownBlock) ∧ OuterX (DkX g gn rw) w w' := by
  obtain ⟨PP, eP⟩ : ∃ PP, PP = putP ⟨k, (m : Int), gg, b⟩ := ⟨_, rfl⟩
  have HK := Lib.hid hk
  have HPL : Hid (PP.length = 256) := Lib.hid (by rw [eP]; exact length_putP _ hb)
  have hC1 : C.all (·.oneCell') = true := by rw [eC]; simp [cellsC, Value.oneCell']
  have hC4 : C.size = 4 := by rw [eC]; rfl
  have hCm : C[1]? = some (.int .i64 (m : Int)) := by rw [eC]; rfl
  have h1 := Lib.hid hC1
  have h4 := Lib.hid hC4
  have HM := Lib.hid hCm
  rw [← eP]
  have EP := Lib.hid eP
  have EC := Lib.hid eC
  have HX := Lib.hid hx
  have H := Lib.hid h
  have HML := Lib.hid hmL
  have hb1 : Below w.heap.size w ((w.alloc (.cells tab 61)).alloc (.cells C 66)) := ((Below.refl _ _).alloc (Nat.le_refl _) _).alloc (by simp) _
  have D1 := Lib.hid (h.below hb1)
  have ht0 : ((w.alloc (.cells tab 61)).alloc (.cells C 66)).heap[w.heap.size]? = some (.cells tab 61 (0, 0)) := heap_alloc2_old _ _ _
  have hr0 : ((w.alloc (.cells tab 61)).alloc (.cells C 66)).heap[w.heap.size + 1]? = some (.cells C 66 (0, 0)) := heap_alloc2_new _ _ _
  have hsz : ((w.alloc (.cells tab 61)).alloc (.cells C 66)).heap.size = w.heap.size + 2 := by simp
  have HX1 := Lib.hid (hx.below hb1)
  have HB1 := Lib.hid hb1
  have HT0 := Lib.hid ht0
  have HR0 := Lib.hid hr0
  have HSZ := Lib.hid hsz
  clear hk eC eP hC1 hC4 hCm hx h hmL hb1 ht0 hr0 hsz
  go_enter Try.func31, Try.ntmps31
  go_wp2_with (first
    | (go_at_call 60; (refine (ready_on D1.out).mono ?_); rintro e w1 ⟨rfl, rfl⟩)
    | (refine wpList_load_row rfl 61 (.tmp 3) rfl w.heap.size rfl 61 tab (0, 0) _ HT0.out Try.underlying61 rfl (by rw [size_tab]; exact info64) ?_)
    | (refine wpList_load_row rfl 66 (.tmp 5) rfl (w.heap.size + 1) rfl 66 C (0, 0) _ HR0.out Try.underlying66 rfl (by rw [h4.out]; exact size_page) ?_)
    | (go_at_call 61; (refine (put_okB k m gg b PP EP.out HK.out hm hg hb A c _ HX1.out hbc C EC.out).mono ?_); rintro e w2 ⟨q, rfl, hq, hb2⟩; have HQ := Lib.hid hq; clear hq; have D2 := Lib.hid (D1.out.below hb2); have hr2 := (hb2.block (w.heap.size + 1) (by rw [HSZ.out]; omega)).trans HR0.out; have k1 := (cell_of_row w2 (w.heap.size + 1) 1 _ _ _ hr2).trans HM.out; clear hr2)
    | (go_at_call 35; (refine (writeRaw_page D2.out hws _ m rfl HML.out _ _ PP HQ.out HPL.out).mono ?_); rintro e w3 ⟨rfl, ⟨rw3, ws3, d3, l3, m3⟩, o3⟩))
  go_ret
  have hbw : Below w.heap.size w w2 := HB1.out.trans (hb2.mono (by rw [HSZ.out]; omega))
  refine ⟨rfl, ⟨rw3, ws3, d3, l3, ?_⟩, o3.of_moved hbw⟩
  rcases m3 with e | ⟨q', e, hq'⟩
  · exact .inl e
  · exact .inr ⟨q', e, Nat.le_trans hbw.size hq'⟩

set_option maxHeartbeats 1000000 in
set_option maxRecDepth 100000 in
theorem pwrite_err (h : Dk w B N g gs gn rw L cs cn st nw ws true left) (p : Pg) (hp : ¬ okP p) (hc : bodyC p) (A : Option Addr) (c : Nat) (C : Array Value) (eC : C = cellsC p A c) :
    Calls Try.prog 31 #[.agg tab, .pointer (some ⟨g, 0, none⟩), .agg C] w fun e w' => e = .returned (.int .i64 1) ∧ Below w.heap.size w w' := by
  have hC4 : C.size = 4 := by rw [eC]; rfl
  have h4 := Lib.hid hC4
  have EC := Lib.hid eC
  have HP := Lib.hid hp
  have HC := Lib.hid hc
  have hb1 : Below w.heap.size w ((w.alloc (.cells tab 61)).alloc (.cells C 66)) := ((Below.refl _ _).alloc (Nat.le_refl _) _).alloc (by simp) _
  have D1 := Lib.hid (h.below hb1)
  have ht0 : ((w.alloc (.cells tab 61)).alloc (.cells C 66)).heap[w.heap.size]? = some (.cells tab 61 (0, 0)) := heap_alloc2_old _ _ _
  have hr0 : ((w.alloc (.cells tab 61)).alloc (.cells C 66)).heap[w.heap.size + 1]? = some (.cells C 66 (0, 0)) := heap_alloc2_new _ _ _
  have hsz : ((w.alloc (.cells tab 61)).alloc (.cells C 66)).heap.size = w.heap.size + 2 := by simp
  have HB1 := Lib.hid hb1
  have HT0 := Lib.hid ht0
  have HR0 := Lib.hid hr0
  have HSZ := Lib.hid hsz
  clear eC hC4 h hp hc hb1 ht0 hr0 hsz
  go_enter Try.func31, Try.ntmps31
  go_wp2_with (first
    | (go_at_call 60; (refine (ready_on D1.out).mono ?_); rintro e w1 ⟨rfl, rfl⟩)
    | (refine wpList_load_row rfl 61 (.tmp 3) rfl w.heap.size rfl 61 tab (0, 0) _ HT0.out Try.underlying61 rfl (by rw [size_tab]; exact info64) ?_)
    | (refine wpList_load_row rfl 66 (.tmp 5) rfl (w.heap.size + 1) rfl 66 C (0, 0) _ HR0.out Try.underlying66 rfl (by rw [h4.out]; exact size_page) ?_)
    | (go_at_call 61; (refine (put_errC p HP.out HC.out A c _ C EC.out).mono ?_); rintro e w2 ⟨rfl, hb2⟩))
  go_ret
  exact ⟨rfl, HB1.out.trans (hb2.mono (by rw [HSZ.out]; omega))⟩
end
end Go.Proofs.Ytmmkmpjhmbocfaa

namespace Go.Proofs.Ytmmkmpjhmbocfaa
open Go.RowKit CrcM PageM
set_option linter.unusedVariables false

/-- The bytes of page a. -/
def pageOf (nw : List UInt8) (a : Nat) : List UInt8 := (nw.drop (256 * a)).take 256
theorem rawN_four {nw bs : List UInt8} {a : Nat} (hb : bs.length = 256) : rawN nw (256 * a) bs 4 = nw.take (256 * a) ++ bs ++ nw.drop (256 * a + 256) := by
  unfold rawN
  rw [show 64 * 4 = 256 from rfl, List.take_of_length_le (by omega : bs.length ≤ 256)]
theorem page_same {nw bs : List UInt8} {a : Nat} (h : 256 * a + 256 ≤ nw.length) (hb : bs.length = 256) : pageOf (rawN nw (256 * a) bs 4) a = bs := by
  rw [rawN_four hb]
  unfold pageOf
  rw [List.append_assoc, List.drop_left' (by rw [List.length_take]; omega)]
  exact List.take_left' hb
theorem page_other {nw bs : List UInt8} {a a' : Nat} (h : 256 * a + 256 ≤ nw.length) (hb : bs.length = 256) (hne : a' ≠ a) : pageOf (rawN nw (256 * a) bs 4) a' = pageOf nw a' := by
  rw [rawN_four hb]
  unfold pageOf
  have hl : (nw.take (256 * a)).length = 256 * a := by rw [List.length_take]; omega
  rcases Nat.lt_or_ge a' a with h1 | h1
  · rw [List.append_assoc, List.drop_append_of_le_length (by rw [hl]; omega), List.take_append_of_le_length (by rw [List.length_drop, hl]; omega), List.drop_take, List.take_take, Nat.min_eq_left (by omega)]
  · have hl2 : (nw.take (256 * a) ++ bs).length = 256 * a + 256 := by rw [List.length_append, hl, hb]
    rw [show 256 * a' = (256 * a + 256) + (256 * a' - (256 * a + 256)) by omega, ← List.drop_drop, List.drop_left' hl2, List.drop_drop]
theorem page_zeros {n a : Nat} (h : 256 * a + 256 ≤ n) : pageOf (List.replicate n 0) a = List.replicate 256 0 := by
  unfold pageOf
  rw [List.drop_replicate, List.take_replicate, Nat.min_eq_left (by omega)]

section
variable {w w' : World} {B N g gs gn L cs cn : Nat} {rw : Value} {st nw : List UInt8} {ws : List (Nat × List UInt8)} {on : Bool} {left : Int}

theorem Dk.outer_below (h : Dk w B N g gs gn rw L cs cn st nw ws on left) (ho : OuterX (DkX g gn rw) w w') : Below B w w' := by
  have h1 := h.gB
  have h2 := h.now.parts.1
  have h3 := h.blk
  have h4 := h.NN
  have h5 := h.gN
  refine ⟨ho.os, ho.tape, ho.output, ho.size, fun k hk => ho.block k (by omega) ?_⟩
  rintro (e | e | e)
  · omega
  · omega
  · have := h3 _ e; omega

/-- What a page that was written leaves. -/
def WrotePg (w w' : World) (B g gs gn : Nat) (rw : Value) (L cs cn : Nat) (st nw : List UInt8) (ws : List (Nat × List UInt8)) (a : Nat) (bs : List UInt8) : Prop :=
  (∃ rw' ws' nw', Dk w' B w'.heap.size g gs gn rw' L cs cn st nw' ws' true (-1) ∧ ws'.length = ws.length + 4 ∧ pageOf nw' a = bs ∧ (∀ a', a' ≠ a → pageOf nw' a' = pageOf nw a') ∧ Moved w rw.ownBlock rw'.ownBlock) ∧ OuterX (DkX g gn rw) w w' ∧ Below B w w'

theorem wrotePg (h : Dk w B N g gs gn rw L cs cn st nw ws on left) {a : Nat} {bs : List UInt8} (ha : 256 * a + 256 ≤ L) (hb : bs.length = 256)
    (hd : (∃ rw' ws', Dk w' B w'.heap.size g gs gn rw' L cs cn st (rawN nw (256 * a) bs 4) ws' true (-1) ∧ ws'.length = ws.length + 4 ∧ Moved w rw.ownBlock rw'.ownBlock) ∧ OuterX (DkX g gn rw) w w') : WrotePg w w' B g gs gn rw L cs cn st nw ws a bs := by
  obtain ⟨⟨rw', ws', h1, h2, h3⟩, h4⟩ := hd
  exact ⟨⟨rw', ws', _, h1, h2, page_same (by rw [h.lnw]; exact ha) hb, fun a' hne => page_other (by rw [h.lnw]; exact ha) hb hne, h3⟩, h4, h.outer_below h4⟩

theorem writeRaw_pg (h : Dk w B N g gs gn rw L cs cn st nw ws true (-1)) (hws : ws.length ≤ 500) (za : Int) (a : Nat) (hza : za = (a : Int)) (hin : 256 * a + 256 ≤ L) (A : Option Addr) (c : Nat) (bs : List UInt8) (hx : BytesAt w A bs) (hbl : bs.length = 256) :
    Calls Try.prog 35 #[.pointer (some ⟨g, 0, none⟩), .int .i64 za, .slice A 256 c] w fun e w' => e = .returned (.int .i64 0) ∧ WrotePg w w' B g gs gn rw L cs cn st nw ws a bs :=
  (writeRaw_page h hws za a hza hin A c bs hx hbl).mono fun e w' ⟨h1, h2⟩ => ⟨h1, wrotePg h hin hbl h2⟩

theorem pwrite_pg (h : Dk w B N g gs gn rw L cs cn st nw ws true (-1)) (hws : ws.length ≤ 500) (k : UInt8) (m gg : Nat) (b PP : List UInt8) (eP : PP = putP ⟨k, (m : Int), gg, b⟩) (hk : isK k = true) (hm : m < 512) (hg : gg < 18446744073709551616) (hb : b.length ≤ 238) (hmL : 256 * m + 256 ≤ L) (A : Option Addr) (c : Nat) (hx : BytesAt w A b) (hbc : b.length ≤ c) (C : Array Value) (eC : C = cellsC ⟨k, (m : Int), gg, b⟩ A c) :
    Calls Try.prog 31 #[.agg tab, .pointer (some ⟨g, 0, none⟩), .agg C] w fun e w' => e = .returned (.int .i64 0) ∧ WrotePg w w' B g gs gn rw L cs cn st nw ws m PP := by
  subst eP
  exact (pwrite_ok h hws k m gg b hk hm hg hb hmL A c hx hbc C eC).mono fun e w' ⟨h1, h2⟩ => ⟨h1, wrotePg h hmL (length_putP _ hb) h2⟩

theorem told_put (k : UInt8) (m g : Nat) (b : List UInt8) (hk : isK k = true) (hm : m < 512) (hg : g < 18446744073709551616) (hb : b.length ≤ 238) :
    numOf (putP ⟨k, (m : Int), g, b⟩) = 0 ∧ toldP (putP ⟨k, (m : Int), g, b⟩) = ⟨k, (m : Int), g, b⟩ := by
  have hgd := good_put k m g b hk hm hg hb
  have hl : ¬ (putP ⟨k, (m : Int), g, b⟩).length ≠ 256 := fun h => h (length_putP _ hb)
  refine ⟨?_, ?_⟩
  · simp only [numOf, if_pos hgd, if_neg hl]
  · simp only [toldP, if_pos hgd]
    exact (parse_put k m g b hm hg hb).2
theorem told_zeros : numOf (List.replicate 256 0) ≠ 0 := by
  have hn : ¬ good (List.replicate 256 0) := by
    intro h
    have := h.2.2.1.1
    revert this
    decide +kernel
  simp only [numOf, if_neg hn]
  split <;> omega

/-- Read where a page's bytes stand: as that kind, at that place. -/
theorem pread_yes (h : Dk w B N g gs gn rw L cs cn st nw ws true left) (za : Int) (a : Nat) (hza : za = (a : Int)) (hin : 256 * a + 256 ≤ L) (k : UInt8) (gg : Nat) (b : List UInt8) (hk : isK k = true) (hg : gg < 18446744073709551616) (hb : b.length ≤ 238)
    (PP : List UInt8) (eP : PP = putP ⟨k, (a : Int), gg, b⟩) (hxs : pageOf nw a = PP) (zk : Int) (hzk : zk = (k.toNat : Int)) :
    Calls Try.prog 34 #[.agg tab, .pointer (some ⟨g, 0, none⟩), .int .i64 za, .int .u8 zk] w fun e w' =>
      (∃ A' c', e = .returned (.tuple #[.agg (cellsC ⟨k, (a : Int), gg, b⟩ A' c'), .int .i64 0]) ∧ BytesAt w' A' b ∧ b.length ≤ c' ∧ ∀ a, A' = some a → w.heap.size ≤ a.block) ∧ Below w.heap.size w w' := by
  subst hzk
  have hh := h.hi
  obtain ⟨t1, t2⟩ := told_put k a gg b hk (by omega) hg hb
  rw [← eP] at t1 t2
  refine (pread_any h za a hza hin k PP hxs).mono fun e w' ⟨hr, hb⟩ => ⟨?_, hb⟩
  rcases hr with ⟨_, A', c', h2, h3, h4, h5⟩ | ⟨h1, _⟩
  · rw [t2] at h2 h3 h4
    exact ⟨A', c', h2, h3, h4, h5⟩
  · exact absurd ⟨t1, by rw [t2], by rw [t2]⟩ h1
/-- Read where no such page's bytes stand. -/
theorem pread_not (h : Dk w B N g gs gn rw L cs cn st nw ws true left) (za : Int) (a : Nat) (hza : za = (a : Int)) (hin : 256 * a + 256 ≤ L) (k : UInt8) (hno : ¬ readsP (pageOf nw a) a k) (zk : Int) (hzk : zk = (k.toNat : Int)) :
    Calls Try.prog 34 #[.agg tab, .pointer (some ⟨g, 0, none⟩), .int .i64 za, .int .u8 zk] w fun e w' => e = .returned (.tuple #[.agg #[.int .u8 0, .int .i64 0, .int .u64 0, .slice none 0 0], .int .i64 3]) ∧ Below w.heap.size w w' := by
  subst hzk
  refine (pread_any h za a hza hin k _ rfl).mono fun e w' ⟨hr, hb⟩ => ⟨?_, hb⟩
  rcases hr with ⟨h1, _⟩ | ⟨_, h1⟩
  · exact absurd h1 hno
  · exact h1
theorem reads_put {k k' : UInt8} {m gg a : Nat} {b : List UInt8} (hk : isK k = true) (hm : m < 512) (hg : gg < 18446744073709551616) (hb : b.length ≤ 238) (h : readsP (putP ⟨k, (m : Int), gg, b⟩) a k') : m = a ∧ k = k' := by
  obtain ⟨t1, t2⟩ := told_put k m gg b hk hm hg hb
  unfold readsP at h
  rw [t2] at h
  have h1 : (m : Int) = (a : Int) := h.2.1
  exact ⟨by omega, h.2.2⟩
end
end Go.Proofs.Ytmmkmpjhmbocfaa

namespace Go.Proofs.Ytmmkmpjhmbocfaa
open Go.RowKit CrcM PageM SupM
set_option linter.unusedVariables false

theorem place_suB (g : Nat) (w : World) : Calls Try.prog 67 #[.int .u64 (g : Int)] w fun e w' => e = .returned (.int .i64 ((g % 2 : Nat) : Int)) ∧ Below w.heap.size w w' :=
  (place_su g w).mono fun e w' ⟨h1, h2⟩ => ⟨h1, by rw [← h2]; exact Below.refl _ _⟩

section
variable {w w' : World} {B N g gs gn L cs cn : Nat} {rw : Value} {st nw : List UInt8} {ws : List (Nat × List UInt8)} {on : Bool} {left : Int}

theorem WrotePg.of_below {w1 : World} {a : Nat} {bs : List UInt8} (h : Dk w B N g gs gn rw L cs cn st nw ws on left) (hb : Below w.heap.size w w1) (hw : WrotePg w1 w' B g gs gn rw L cs cn st nw ws a bs) : WrotePg w w' B g gs gn rw L cs cn st nw ws a bs := by
  obtain ⟨⟨rw', ws', nw', h1, h2, h3, h4, h5⟩, h6, h7⟩ := hw
  have hBw : B ≤ w.heap.size := by have := h.gB; have := h.gN; have := h.NN; omega
  refine ⟨⟨rw', ws', nw', h1, h2, h3, h4, ?_⟩, h6.of_moved hb, (hb.mono hBw).trans h7⟩
  rcases h5 with e | ⟨q', e, hq'⟩
  · exact .inl e
  · exact .inr ⟨q', e, Nat.le_trans hb.size hq'⟩

set_option maxHeartbeats 2000000 in
set_option maxRecDepth 100000 in
theorem swrite_ok (h : Dk w B N g gs gn rw L cs cn st nw ws true (-1)) (hws : ws.length ≤ 500) (s : Sup) (hs : okS s) (hgen : s.gen < 18446744073709551616) (C : Array Value) (eC : C = supC s) :
    Calls Try.prog 46 #[.agg tab, .pointer (some ⟨g, 0, none⟩), .agg C] w fun e w' => e = .returned (.int .i64 0) ∧ WrotePg w w' B g gs gn rw L cs cn st nw ws (s.gen % 2) (putP ⟨83, ((s.gen % 2 : Nat) : Int), s.gen, supB s⟩) := by
  obtain ⟨m, hm⟩ : ∃ m, m = s.gen % 2 := ⟨_, rfl⟩
  have hm2 : m < 2 := by omega
  have hlo := h.lo
  have hmL : 256 * m + 256 ≤ L := by omega
  obtain ⟨PP, eP⟩ : ∃ PP, PP = putP ⟨83, (m : Int), s.gen, supB s⟩ := ⟨_, rfl⟩
  rw [← hm, ← eP]
  have h5 : Hid (some 5 = some C.size) := Lib.hid (by rw [eC]; rfl)
  have HPT : Hid (∀ W, Calls Try.prog 39 #[.agg C] W fun e w' => ∃ q, e = .returned (.tuple #[.slice (some ⟨q, 0, none⟩) 15 15, .int .i64 0]) ∧ OwnB w' W.heap.size q 15 5 (supB s) ∧ Below W.heap.size W w') := Lib.hid (fun W => sput_ok s hs hgen W C eC)
  have HPL : Hid (∀ W, Calls Try.prog 67 #[.int .u64 (s.gen : Int)] W fun e w' => e = .returned (.int .i64 (m : Int)) ∧ Below W.heap.size W w') := Lib.hid (fun W => by rw [hm]; exact place_suB s.gen W)
  have hC0 : C[0]? = some (.int .u64 (s.gen : Int)) := by rw [eC]; rfl
  have HC0 := Lib.hid hC0
  have EP := Lib.hid eP
  have HM := Lib.hid hm
  have hb1 : Below w.heap.size w ((w.alloc (.cells tab 61)).alloc (.cells C 82)) := ((Below.refl _ _).alloc (Nat.le_refl _) _).alloc (by simp) _
  have D1 := Lib.hid (h.below hb1)
  have HT0 : Hid (((w.alloc (.cells tab 61)).alloc (.cells C 82)).heap[w.heap.size]? = some (.cells tab 61 (0, 0))) := Lib.hid (heap_alloc2_old _ _ _)
  have HR0 : Hid (((w.alloc (.cells tab 61)).alloc (.cells C 82)).heap[w.heap.size + 1]? = some (.cells C 82 (0, 0))) := Lib.hid (heap_alloc2_new _ _ _)
  have HSZ : Hid (((w.alloc (.cells tab 61)).alloc (.cells C 82)).heap.size = w.heap.size + 2) := Lib.hid (by simp)
  have HB1 := Lib.hid hb1
  have H := Lib.hid h
  clear h eC eP hm hs hC0 hb1
  go_enter Try.func46, Try.ntmps46
  go_upto_region 6 with (first
    | (go_at_call 16; (refine (on_any D1.out).mono ?_); rintro e w1 ⟨rfl, rfl⟩)
    | (refine wpList_load_row rfl 82 (.tmp 5) rfl (w.heap.size + 1) rfl 82 C (0, 0) _ HR0.out Try.underlying82 rfl (infoSup.trans h5.out) ?_)
    | (go_at_call 39; (refine (HPT.out _).mono ?_); rintro e w2 ⟨q, rfl, ho2, hb2⟩; have HO2 := Lib.hid ho2; clear ho2))
  have hs2 := hb2.size
  rw [HSZ.out] at hs2
  have HT2 := (hb2.block w.heap.size (by rw [HSZ.out]; omega)).trans HT0.out
  have HR2 := (hb2.block (w.heap.size + 1) (by rw [HSZ.out]; omega)).trans HR0.out
  have D2 := Lib.hid (D1.out.below hb2)
  have hbw : Below w.heap.size w w2 := HB1.out.trans (hb2.mono (by rw [HSZ.out]; omega))
  have f0 : Hid (∀ y : SubW w2.heap.size w2, y.at_.heap[w.heap.size]? = some (.cells tab 61 (0, 0))) := fun y => (y.ok_.block _ (by omega)).trans HT2
  have f1 : ∀ y : SubW w2.heap.size w2, y.at_.cell? ⟨w.heap.size + 1, 0, none⟩ = some (.int .u64 (s.gen : Int)) := fun y => (cell_of_row _ _ 0 _ _ _ ((y.ok_.block _ (by omega)).trans HR2)).trans HC0.out
  clear HT2 HR2 hb2 HT0 HR0 HB1 D1
  refine region_below_tail 9 w2.heap.size w2 (Below.refl _ _) (by kernel_rfl) (by kernel_rfl) ?_
  simp only [List.take_succ_cons, List.take_zero, List.drop_succ_cons, List.drop_zero]
  repeat (first
    | (go_big_quiet_want; refine quiet_load_row 61 (.tmp 3) rfl w.heap.size rfl 61 tab (0, 0) _ f0.out Try.underlying61 rfl (by rw [size_tab]; exact info64) ?_; simp only [Act.put, List.setIfInBounds_toArray, List.set_cons_zero, List.set_cons_succ]; go_big_quiet_on)
    | go_big_quiet_step ((go_at_call 67; exact calls_sub (Nat.le_refl _) (HPL.out _))))
  refine wpQuiet_nil ?_
  rintro w' ⟨y, rfl⟩
  have D3 := Lib.hid (D2.out.below y.ok_)
  have HX3 : Hid (BytesAt y.at_ (some ⟨q, 0, none⟩) (supB s)) := Lib.hid (HO2.out.bytes.below y.ok_)
  have hby : Below w.heap.size w y.at_ := hbw.trans (y.ok_.mono hbw.size)
  clear f0 f1
  go_wp2_with (go_at_call 31; (refine (pwrite_pg D3.out hws 83 m s.gen (supB s) PP EP.out rfl (by omega) hgen (by rw [length_supB]; omega) hmL (some ⟨q, 0, none⟩) 15 HX3.out (by rw [length_supB]; omega) _ (by unfold cellsC; rw [length_supB]; rfl)).mono ?_); rintro e w5 ⟨rfl, hw5⟩)
  go_ret
  exact ⟨rfl, WrotePg.of_below H.out hby hw5⟩
end
end Go.Proofs.Ytmmkmpjhmbocfaa

namespace Go.Proofs.Ytmmkmpjhmbocfaa
open Go.RowKit CrcM PageM SupM
set_option linter.unusedVariables false

noncomputable instance (xs : List UInt8) (a : Nat) (k : UInt8) : Decidable (readsP xs a k) := by unfold readsP; infer_instance
/-- The superblock that stands at page a: its bytes xs, on a disk of L bytes. -/
def stoodsP (L a : Nat) (xs : List UInt8) : Prop := readsP xs a 83 ∧ goodS (toldP xs).body ∧ (toldS (toldP xs).body).gen = (toldP xs).gen ∧ (toldS (toldP xs).body).gen % 2 = a ∧ (toldS (toldP xs).body).pages = ((L / 256 : Nat) : Int)
noncomputable instance (L a : Nat) (xs : List UInt8) : Decidable (stoodsP L a xs) := by unfold stoodsP; infer_instance
noncomputable def stoodS (L a : Nat) (xs : List UInt8) : Sup := if stoodsP L a xs then toldS (toldP xs).body else zeroS
noncomputable def stoodN (L a : Nat) (xs : List UInt8) : Nat := if stoodsP L a xs then 0 else 3

section
variable {w w' : World} {B N g gs gn L cs cn : Nat} {rw : Value} {st nw : List UInt8} {ws : List (Nat × List UInt8)} {left : Int}

theorem pread_sup (h : Dk w B N g gs gn rw L cs cn st nw ws true left) (a : Nat) (hin : 256 * a + 256 ≤ L) (xs : List UInt8) (hxs : pageOf nw a = xs) (hr : readsP xs a 83) :
    Calls Try.prog 34 #[.agg tab, .pointer (some ⟨g, 0, none⟩), .int .i64 (a : Int), .int .u8 83] w fun e w' =>
      (∃ A' c', e = .returned (.tuple #[.agg (cellsC (toldP xs) A' c'), .int .i64 0]) ∧ BytesAt w' A' (toldP xs).body ∧ (toldP xs).body.length ≤ c' ∧ ∀ a, A' = some a → w.heap.size ≤ a.block) ∧ Below w.heap.size w w' := by
  refine (pread_any h (a : Int) a rfl hin 83 xs hxs).mono fun e w' ⟨hd, hb⟩ => ⟨?_, hb⟩
  rcases hd with ⟨_, A', c', h2⟩ | ⟨h1, _⟩
  · exact ⟨A', c', h2⟩
  · exact absurd hr h1

set_option maxHeartbeats 2000000 in
set_option maxRecDepth 100000 in
theorem at_not (h : Dk w B N g gs gn rw L cs cn st nw ws true left) (za : Int) (a : Nat) (hza : za = (a : Int)) (hin : 256 * a + 256 ≤ L) (xs : List UInt8) (hxs : pageOf nw a = xs) (hr : ¬ readsP xs a 83) :
    Calls Try.prog 68 #[.agg tab, .pointer (some ⟨g, 0, none⟩), .int .i64 za] w fun e w' => e = .returned (.tuple #[.agg (supC zeroS), .int .i64 3]) ∧ Below w.heap.size w w' := by
  subst hza
  have hb1 : Below w.heap.size w ((w.alloc (.cells tab 61)).alloc (.cells #[.int .u64 0, .int .i64 0, .int .i64 0, .int .i64 0, .int .i64 0] 82)) := ((Below.refl _ _).alloc (Nat.le_refl _) _).alloc (by simp) _
  have D1 := Lib.hid (h.below hb1)
  have HT0 : Hid (((w.alloc (.cells tab 61)).alloc (.cells #[.int .u64 0, .int .i64 0, .int .i64 0, .int .i64 0, .int .i64 0] 82)).heap[w.heap.size]? = some (.cells tab 61 (0, 0))) := Lib.hid (heap_alloc2_old _ _ _)
  have HR0 : Hid (((w.alloc (.cells tab 61)).alloc (.cells #[.int .u64 0, .int .i64 0, .int .i64 0, .int .i64 0, .int .i64 0] 82)).heap[w.heap.size + 1]? = some (.cells (supC zeroS) 82 (0, 0))) := Lib.hid (heap_alloc2_new _ _ _)
  have HSZ : Hid (((w.alloc (.cells tab 61)).alloc (.cells #[.int .u64 0, .int .i64 0, .int .i64 0, .int .i64 0, .int .i64 0] 82)).heap.size = w.heap.size + 2) := Lib.hid (by simp)
  have HXS := Lib.hid hxs
  have HNR := Lib.hid hr
  clear h hxs hr
  go_enter Try.func68, Try.ntmps68
  go_wp2_with (first
    | (refine wpList_load_row rfl 61 (.tmp 3) rfl w.heap.size rfl 61 tab (0, 0) _ HT0.out Try.underlying61 rfl (by rw [size_tab]; exact info64) ?_)
    | (go_at_call 34; (refine (pread_not D1.out _ a rfl hin 83 (by rw [HXS.out]; exact HNR.out) 83 rfl).mono ?_); rintro e w2 ⟨rfl, hb2⟩; have HR2 := Lib.hid ((hb2.block (w.heap.size + 1) (by rw [HSZ.out]; omega)).trans HR0.out); have HS2 := hb2.size; rw [HSZ.out] at HS2)
    | (refine wpList_store_row rfl 66 (.tmp 8) (.tmp 16) rfl w2.heap.size #[.int .u8 0, .int .i64 0, .int .u64 0, .slice none 0 0] rfl rfl 66 Try.zeroCells66 (heap_alloc_new _ _) (by kernel_rfl) (by kernel_rfl) (by kernel_rfl) ?_; rw [World.setRow_alloc_new])
    | (refine wpList_store_row rfl 82 (.tmp 6) (.tmp 20) rfl (w.heap.size + 1) (supC zeroS) rfl rfl 82 (supC zeroS) ((Below.heap_alloc w2 (.cells #[.int .u8 0, .int .i64 0, .int .u64 0, .slice none 0 0] 66) (w.heap.size + 1) (by omega)).trans HR2.out) infoSup0 rfl (by simp [supC, zeroS, Value.oneCell']) ?_))
  refine bodyPost_ret (v := .tuple #[.agg (supC zeroS), .int .i64 3]) (results_cell_tmp (p := 6) (u := 7) (ty := 82) rfl _ _ (w.heap.size + 1) 82 (supC zeroS) (0, 0) _ rfl (setRow_heap _ _ (supC zeroS) _ _ _ ((Below.heap_alloc w2 (.cells #[.int .u8 0, .int .i64 0, .int .u64 0, .slice none 0 0] 66) (w.heap.size + 1) (by omega)).trans HR2.out)) Try.underlying82 rfl infoSup0) rfl
    ⟨rfl, below_setRow (below_alloc (by omega) (hb1.trans (hb2.mono (by rw [HSZ.out]; omega))) _) (by omega) _⟩

set_option maxHeartbeats 4000000 in
set_option maxRecDepth 100000 in
theorem at_yes (h : Dk w B N g gs gn rw L cs cn st nw ws true left) (za : Int) (a : Nat) (hza : za = (a : Int)) (hin : 256 * a + 256 ≤ L) (xs : List UInt8) (hxs : pageOf nw a = xs) (hr : readsP xs a 83) :
    Calls Try.prog 68 #[.agg tab, .pointer (some ⟨g, 0, none⟩), .int .i64 za] w fun e w' => e = .returned (.tuple #[.agg (supC (stoodS L a xs)), .int .i64 (stoodN L a xs : Int)]) ∧ Below w.heap.size w w' := by
  subst hza
  have hst : stoodsP L a xs ↔ goodS (toldP xs).body ∧ (toldS (toldP xs).body).gen = (toldP xs).gen ∧ (toldS (toldP xs).body).gen % 2 = a ∧ (toldS (toldP xs).body).pages = ((L / 256 : Nat) : Int) := ⟨fun h => h.2, fun h => ⟨hr, h⟩⟩
  have hRD : Hid (∀ W, Dk W B N g gs gn rw L cs cn st nw ws true left → Calls Try.prog 34 #[.agg tab, .pointer (some ⟨g, 0, none⟩), .int .i64 (a : Int), .int .u8 83] W fun e w' =>
      (∃ A' c', e = .returned (.tuple #[.agg #[.int .u8 ((toldP xs).kind.toNat : Int), .int .i64 (toldP xs).addr, .int .u64 ((toldP xs).gen : Int), .slice A' (toldP xs).body.length c'], .int .i64 0]) ∧ BytesAt w' A' (toldP xs).body ∧ (toldP xs).body.length ≤ c' ∧ ∀ a, A' = some a → W.heap.size ≤ a.block) ∧ Below W.heap.size W w') := Lib.hid (fun W hW => pread_sup hW a hin xs hxs hr)
  obtain ⟨P, hP⟩ : ∃ P, P = toldP xs := ⟨_, rfl⟩
  rw [← hP] at hst hRD
  obtain ⟨k, pa, pg, pb⟩ := P
  dsimp only at hst hRD
  have hpl : pb.length ≤ 238 := by
    have e : pb = (toldP xs).body := congrArg Pg.body hP
    have hg : good xs := by
      have := hr.1
      unfold numOf at this
      by_cases hg : good xs
      · exact hg
      · rw [if_neg hg] at this
        split at this <;> omega
    have e2 : toldP xs = parse xs := if_pos hg
    rw [e, e2]
    exact hg.2.2.1.2.2.2
  obtain ⟨S, hS⟩ : ∃ S, S = toldS pb := ⟨_, rfl⟩
  obtain ⟨m, hm⟩ : ∃ m, m = numS pb := ⟨_, rfl⟩
  have hgm : goodS pb ↔ m = 0 := by
    rw [hm]
    unfold numS
    by_cases hg : goodS pb
    · rw [if_pos hg]; exact ⟨fun _ => rfl, fun _ => hg⟩
    · rw [if_neg hg]; exact ⟨fun h => absurd h hg, fun h => by omega⟩
  have hGT : Hid (∀ (A : Option Addr) (c : Nat) (W : World), BytesAt W A pb → pb.length ≤ c → Calls Try.prog 43 #[.slice A pb.length c] W fun e w' => e = .returned (.tuple #[.agg (supC S), .int .i64 (m : Int)]) ∧ Below W.heap.size W w') := Lib.hid (fun A c W hx hc => by rw [hS, hm]; exact sget_any A c pb.length pb W rfl (by omega) hx hc)
  rw [hgm, ← hS] at hst
  have hsS : stoodS L a xs = if m = 0 ∧ S.gen = pg ∧ S.gen % 2 = a ∧ S.pages = ((L / 256 : Nat) : Int) then S else zeroS := by
    unfold stoodS
    by_cases hc : stoodsP L a xs
    · rw [if_pos hc, if_pos (hst.1 hc), ← hP, hS]
    · rw [if_neg hc, if_neg (fun h => hc (hst.2 h))]
  have hsN : stoodN L a xs = if m = 0 ∧ S.gen = pg ∧ S.gen % 2 = a ∧ S.pages = ((L / 256 : Nat) : Int) then 0 else 3 := by
    unfold stoodN
    by_cases hc : stoodsP L a xs
    · rw [if_pos hc, if_pos (hst.1 hc)]
    · rw [if_neg hc, if_neg (fun h => hc (hst.2 h))]
  rw [hsS, hsN]
  clear hsS hsN hst hgm hS hm hP hr hxs hpl
  obtain ⟨PGS, hPGS⟩ : ∃ PGS : Nat, PGS = L / 256 := ⟨_, rfl⟩
  rw [← hPGS]
  have HPG := Lib.hid hPGS
  clear hPGS
  obtain ⟨n, hn⟩ : ∃ n, n = pb.length := ⟨_, rfl⟩
  rw [← hn] at hRD hGT
  clear hn
  obtain ⟨sg, sa, sh, sb, sp⟩ := S
  unfold supC at hGT
  dsimp only at hGT ⊢
  have hb1 : Below w.heap.size w ((w.alloc (.cells tab 61)).alloc (.cells #[.int .u64 0, .int .i64 0, .int .i64 0, .int .i64 0, .int .i64 0] 82)) := ((Below.refl _ _).alloc (Nat.le_refl _) _).alloc (by simp) _
  have D1 := Lib.hid (h.below hb1)
  have HT0 : Hid (((w.alloc (.cells tab 61)).alloc (.cells #[.int .u64 0, .int .i64 0, .int .i64 0, .int .i64 0, .int .i64 0] 82)).heap[w.heap.size]? = some (.cells tab 61 (0, 0))) := Lib.hid (heap_alloc2_old _ _ _)
  have HR0 : Hid (((w.alloc (.cells tab 61)).alloc (.cells #[.int .u64 0, .int .i64 0, .int .i64 0, .int .i64 0, .int .i64 0] 82)).heap[w.heap.size + 1]? = some (.cells (supC zeroS) 82 (0, 0))) := Lib.hid (heap_alloc2_new _ _ _)
  have HSZ : Hid (((w.alloc (.cells tab 61)).alloc (.cells #[.int .u64 0, .int .i64 0, .int .i64 0, .int .i64 0, .int .i64 0] 82)).heap.size = w.heap.size + 2) := Lib.hid (by simp)
  have HB1 := Lib.hid hb1
  clear h hb1
  go_enter Try.func68, Try.ntmps68
  go_upto_region 5 with (first
    | (refine wpList_load_row rfl 61 (.tmp 3) rfl w.heap.size rfl 61 tab (0, 0) _ HT0.out Try.underlying61 rfl (by rw [size_tab]; exact info64) ?_)
    | (go_at_call 34; (refine (hRD.out _ D1.out).mono ?_); rintro e w2 ⟨⟨A2, c2, rfl, hx2, hc2, hn2⟩, hb2⟩; have HX2 := Lib.hid hx2; clear hx2; have HR2 := Lib.hid ((hb2.block (w.heap.size + 1) (by rw [HSZ.out]; omega)).trans HR0.out); have HS2 := hb2.size; rw [HSZ.out] at HS2)
    | (refine wpList_store_row rfl 66 (.tmp 8) (.tmp 16) rfl w2.heap.size #[.int .u8 (k.toNat : Int), .int .i64 pa, .int .u64 (pg : Int), .slice A2 n c2] rfl rfl 66 Try.zeroCells66 (heap_alloc_new _ _) (by kernel_rfl) (by kernel_rfl) (by kernel_rfl) ?_; rw [World.setRow_alloc_new])
    | (go_at_call 43; (refine (hGT.out A2 c2 _ (HX2.out.below ((Below.refl _ _).alloc (Nat.le_refl _) _)) hc2).mono ?_); rintro e w3 ⟨rfl, hb3⟩)
    | (refine wpList_store_row rfl 82 (.tmp 10) (.tmp 26) rfl w3.heap.size #[.int .u64 (sg : Int), .int .i64 sa, .int .i64 sh, .int .i64 sb, .int .i64 sp] rfl rfl 82 Try.zeroCells82 (heap_alloc_new _ _) (by kernel_rfl) (by kernel_rfl) (by kernel_rfl) ?_; rw [World.setRow_alloc_new]))
  have hs3 := hb3.size
  have hs3' : w2.heap.size + 1 ≤ w3.heap.size := by simpa using hs3
  have hbF : Below w.heap.size w (w3.alloc (.cells #[.int .u64 (sg : Int), .int .i64 sa, .int .i64 sh, .int .i64 sb, .int .i64 sp] 82)) := (((HB1.out.trans (hb2.mono (by rw [HSZ.out]; omega))).alloc (by omega) _).trans (hb3.mono (by simp; omega))).alloc (by omega) _
  have hPF : (w3.alloc (.cells #[.int .u64 (sg : Int), .int .i64 sa, .int .i64 sh, .int .i64 sb, .int .i64 sp] 82)).heap[w2.heap.size]? = some (.cells #[.int .u8 (k.toNat : Int), .int .i64 pa, .int .u64 (pg : Int), .slice A2 n c2] 66 (0, 0)) := (Below.heap_alloc w3 _ _ (by omega)).trans ((hb3.block _ (by simp)).trans (heap_alloc_new _ _))
  have hSF : (w3.alloc (.cells #[.int .u64 (sg : Int), .int .i64 sa, .int .i64 sh, .int .i64 sb, .int .i64 sp] 82)).heap[w3.heap.size]? = some (.cells #[.int .u64 (sg : Int), .int .i64 sa, .int .i64 sh, .int .i64 sb, .int .i64 sp] 82 (0, 0)) := heap_alloc_new _ _
  have hRF : (w3.alloc (.cells #[.int .u64 (sg : Int), .int .i64 sa, .int .i64 sh, .int .i64 sb, .int .i64 sp] 82)).heap[w.heap.size + 1]? = some (.cells (supC zeroS) 82 (0, 0)) := (Below.heap_alloc w3 _ _ (by omega)).trans ((hb3.block _ (by simp; omega)).trans ((Below.heap_alloc w2 _ _ (by omega)).trans HR2.out))
  have hDF : Dk (w3.alloc (.cells #[.int .u64 (sg : Int), .int .i64 sa, .int .i64 sh, .int .i64 sb, .int .i64 sp] 82)) B N g gs gn rw L cs cn st nw ws true left := ((D1.out.below hb2).below (((Below.refl _ _).alloc (Nat.le_refl _) _).trans (hb3.mono (by simp)))).below ((Below.refl _ _).alloc (Nat.le_refl _) _)
  have hsF : (w3.alloc (.cells #[.int .u64 (sg : Int), .int .i64 sa, .int .i64 sh, .int .i64 sb, .int .i64 sp] 82)).heap.size = w3.heap.size + 1 := by simp
  obtain ⟨WF, eWF⟩ : ∃ WF, WF = w3.alloc (.cells #[.int .u64 (sg : Int), .int .i64 sa, .int .i64 sh, .int .i64 sb, .int .i64 sp] 82) := ⟨_, rfl⟩
  rw [← eWF] at hbF hPF hSF hRF hDF hsF ⊢
  clear eWF
  have f1 : ∀ y : SubW WF.heap.size WF, y.at_.cell? ⟨w2.heap.size, 2, none⟩ = some (.int .u64 (pg : Int)) := fun y => cell_of_row _ _ _ _ _ _ ((y.ok_.block _ (by omega)).trans hPF)
  have f2 : ∀ y : SubW WF.heap.size WF, y.at_.cell? ⟨w3.heap.size, 0, none⟩ = some (.int .u64 (sg : Int)) := fun y => cell_of_row _ _ _ _ _ _ ((y.ok_.block _ (by omega)).trans hSF)
  have f3 : ∀ y : SubW WF.heap.size WF, y.at_.cell? ⟨w3.heap.size, 4, none⟩ = some (.int .i64 sp) := fun y => cell_of_row _ _ _ _ _ _ ((y.ok_.block _ (by omega)).trans hSF)
  have HPL : Hid (∀ W, Calls Try.prog 67 #[.int .u64 (sg : Int)] W fun e w' => e = .returned (.int .i64 ((sg % 2 : Nat) : Int)) ∧ Below W.heap.size W w') := Lib.hid (fun W => place_suB sg W)
  have HPGS : Hid (∀ y : SubW WF.heap.size WF, Calls Try.prog 17 #[.pointer (some ⟨g, 0, none⟩)] y.at_ fun e w' => e = .returned (.int .i64 (PGS : Int)) ∧ Below y.at_.heap.size y.at_ w') := Lib.hid (fun y => by
    rw [HPG.out]
    exact (pages_any (hDF.below y.ok_)).mono fun e w' ⟨h1, h2⟩ => ⟨h1, by rw [← h2]; exact Below.refl _ _⟩)
  have HBF := Lib.hid hbF
  have HRF : Hid (w.heap.size + 1 < WF.heap.size ∧ WF.heap[w.heap.size + 1]? = some (.cells (supC zeroS) 82 (0, 0))) := Lib.hid ⟨by omega, hRF⟩
  have HSF : Hid (w3.heap.size < WF.heap.size ∧ WF.heap[w3.heap.size]? = some (.cells #[.int .u64 (sg : Int), .int .i64 sa, .int .i64 sh, .int .i64 sb, .int .i64 sp] 82 (0, 0))) := Lib.hid ⟨by omega, hSF⟩
  clear hbF hPF hSF hRF hDF hsF hs3 hs3' hb3 hb2 D1 HT0 HR0 HB1 HR2 HX2 hRD hGT
  obtain ⟨pl, hpl⟩ : ∃ pl : Nat, pl = sg % 2 := ⟨_, rfl⟩
  rw [← hpl] at HPL
  by_cases h1 : m = 0
  · have d1 : ((m : Int) != 0) = false := by simp [h1]
    by_cases h2 : sg = pg
    · have d2 : ((sg : Int) != (pg : Int)) = false := by simp [h2]
      by_cases h3 : pl = a
      · have d3 : ((pl : Int) != (a : Int)) = false := by simp [h3]
        by_cases h4 : sp = (PGS : Int)
        · have d4 : (sp != (PGS : Int)) = false := by simp [h4]
          subst h1 h2 h3 h4
          have HC : Hid (0 = 0 ∧ sg = sg ∧ sg % 2 = pl ∧ (PGS : Int) = (PGS : Int)) := Lib.hid ⟨rfl, rfl, hpl.symm, rfl⟩
          clear hpl
          refine region_below WF.heap.size WF (Below.refl _ _) (by kernel_rfl) (by kernel_rfl) ?_
          repeat (first
            | (go_big_quiet_step ((go_at_call 67; exact calls_sub (Nat.le_refl _) (HPL.out _))))
            | (go_big_quiet_step ((go_at_call 17; exact calls_sub (Nat.le_refl _) (HPGS.out _)))))
          refine wpQuiet_nil ?_
          rintro w' ⟨y, rfl⟩
          have hby := HBF.out.trans (y.ok_.mono HBF.out.size)
          have HR6 := (y.ok_.block _ HRF.out.1).trans HRF.out.2
          go_wp2_with (first
            | (refine wpList_load_row rfl 82 (.tmp 10) rfl w3.heap.size rfl 82 #[.int .u64 (sg : Int), .int .i64 sa, .int .i64 sh, .int .i64 sb, .int .i64 (PGS : Int)] (0, 0) _ ((y.ok_.block _ HSF.out.1).trans HSF.out.2) Try.underlying82 rfl infoSup ?_)
            | (refine wpList_store_row rfl 82 (.tmp 6) (.tmp 52) rfl (w.heap.size + 1) #[.int .u64 (sg : Int), .int .i64 sa, .int .i64 sh, .int .i64 sb, .int .i64 (PGS : Int)] rfl rfl 82 (supC zeroS) HR6 infoSup rfl (by simp [Value.oneCell']) ?_))
          rotate_left
          · exact absurd HC.out.2.2.1 h
          refine bodyPost_ret (v := .tuple #[.agg #[.int .u64 (sg : Int), .int .i64 sa, .int .i64 sh, .int .i64 sb, .int .i64 (PGS : Int)], .int .i64 0]) (results_cell_tmp (p := 6) (u := 7) (ty := 82) rfl _ _ (w.heap.size + 1) 82 #[.int .u64 (sg : Int), .int .i64 sa, .int .i64 sh, .int .i64 sb, .int .i64 (PGS : Int)] (0, 0) _ rfl (setRow_heap _ _ (supC zeroS) _ _ _ HR6) Try.underlying82 rfl infoSup) rfl
            ⟨?_, below_setRow hby (by omega) _⟩
          first | rfl | (rw [if_pos HC.out]; rfl) | (rw [if_pos HC.out, if_pos HC.out]; rfl)
        · have d4 : (sp != (PGS : Int)) = true := by rw [bne_iff_ne]; exact h4
          have HC : Hid (¬ (m = 0 ∧ sg = pg ∧ sg % 2 = a ∧ sp = (PGS : Int))) := Lib.hid (fun h => h4 h.2.2.2)
          clear h1 h2 h3 h4 hpl
          refine region_below WF.heap.size WF (Below.refl _ _) (by kernel_rfl) (by kernel_rfl) ?_
          repeat (first
            | (go_big_quiet_step ((go_at_call 67; exact calls_sub (Nat.le_refl _) (HPL.out _))))
            | (go_big_quiet_step ((go_at_call 17; exact calls_sub (Nat.le_refl _) (HPGS.out _)))))
          refine wpQuiet_nil ?_
          rintro w' ⟨y, rfl⟩
          have hby := HBF.out.trans (y.ok_.mono HBF.out.size)
          have HR6 := (y.ok_.block _ HRF.out.1).trans HRF.out.2
          go_wp2_with (refine wpList_store_row rfl 82 (.tmp 6) (.tmp 51) rfl (w.heap.size + 1) (supC zeroS) rfl rfl 82 (supC zeroS) HR6 infoSup0 rfl (by simp [supC, zeroS, Value.oneCell']) ?_)
          refine bodyPost_ret (v := .tuple #[.agg (supC zeroS), .int .i64 3]) (results_cell_tmp (p := 6) (u := 7) (ty := 82) rfl _ _ (w.heap.size + 1) 82 (supC zeroS) (0, 0) _ rfl (setRow_heap _ _ (supC zeroS) _ _ _ HR6) Try.underlying82 rfl infoSup0) rfl
            ⟨?_, below_setRow hby (by omega) _⟩
          first | rfl | (rw [if_neg HC.out]; rfl) | (rw [if_neg HC.out, if_neg HC.out]; rfl)
      · have d3 : ((pl : Int) != (a : Int)) = true := by rw [bne_iff_ne]; omega
        have HC : Hid (¬ (m = 0 ∧ sg = pg ∧ sg % 2 = a ∧ sp = (PGS : Int))) := Lib.hid (fun h => h3 (hpl.trans h.2.2.1))
        clear h1 h2 h3 hpl
        refine region_below WF.heap.size WF (Below.refl _ _) (by kernel_rfl) (by kernel_rfl) ?_
        repeat (first
          | (go_big_quiet_step ((go_at_call 67; exact calls_sub (Nat.le_refl _) (HPL.out _))))
          | (go_big_quiet_step ((go_at_call 17; exact calls_sub (Nat.le_refl _) (HPGS.out _)))))
        refine wpQuiet_nil ?_
        rintro w' ⟨y, rfl⟩
        have hby := HBF.out.trans (y.ok_.mono HBF.out.size)
        have HR6 := (y.ok_.block _ HRF.out.1).trans HRF.out.2
        go_wp2_with (refine wpList_store_row rfl 82 (.tmp 6) (.tmp 51) rfl (w.heap.size + 1) (supC zeroS) rfl rfl 82 (supC zeroS) HR6 infoSup0 rfl (by simp [supC, zeroS, Value.oneCell']) ?_)
        refine bodyPost_ret (v := .tuple #[.agg (supC zeroS), .int .i64 3]) (results_cell_tmp (p := 6) (u := 7) (ty := 82) rfl _ _ (w.heap.size + 1) 82 (supC zeroS) (0, 0) _ rfl (setRow_heap _ _ (supC zeroS) _ _ _ HR6) Try.underlying82 rfl infoSup0) rfl
          ⟨?_, below_setRow hby (by omega) _⟩
        first | rfl | (rw [if_neg HC.out]; rfl) | (rw [if_neg HC.out, if_neg HC.out]; rfl)
    · have d2 : ((sg : Int) != (pg : Int)) = true := by rw [bne_iff_ne]; omega
      have HC : Hid (¬ (m = 0 ∧ sg = pg ∧ sg % 2 = a ∧ sp = (PGS : Int))) := Lib.hid (fun h => h2 h.2.1)
      clear h1 h2 hpl
      refine region_below WF.heap.size WF (Below.refl _ _) (by kernel_rfl) (by kernel_rfl) ?_
      repeat (first
        | (go_big_quiet_step ((go_at_call 67; exact calls_sub (Nat.le_refl _) (HPL.out _))))
        | (go_big_quiet_step ((go_at_call 17; exact calls_sub (Nat.le_refl _) (HPGS.out _)))))
      refine wpQuiet_nil ?_
      rintro w' ⟨y, rfl⟩
      have hby := HBF.out.trans (y.ok_.mono HBF.out.size)
      have HR6 := (y.ok_.block _ HRF.out.1).trans HRF.out.2
      go_wp2_with (refine wpList_store_row rfl 82 (.tmp 6) (.tmp 51) rfl (w.heap.size + 1) (supC zeroS) rfl rfl 82 (supC zeroS) HR6 infoSup0 rfl (by simp [supC, zeroS, Value.oneCell']) ?_)
      refine bodyPost_ret (v := .tuple #[.agg (supC zeroS), .int .i64 3]) (results_cell_tmp (p := 6) (u := 7) (ty := 82) rfl _ _ (w.heap.size + 1) 82 (supC zeroS) (0, 0) _ rfl (setRow_heap _ _ (supC zeroS) _ _ _ HR6) Try.underlying82 rfl infoSup0) rfl
        ⟨?_, below_setRow hby (by omega) _⟩
      first | rfl | (rw [if_neg HC.out]; rfl) | (rw [if_neg HC.out, if_neg HC.out]; rfl)
  · have d1 : ((m : Int) != 0) = true := by rw [bne_iff_ne]; omega
    have HC : Hid (¬ (m = 0 ∧ sg = pg ∧ sg % 2 = a ∧ sp = (PGS : Int))) := Lib.hid (fun h => h1 h.1)
    clear h1 hpl
    refine region_below WF.heap.size WF (Below.refl _ _) (by kernel_rfl) (by kernel_rfl) ?_
    repeat (first
      | (go_big_quiet_step ((go_at_call 67; exact calls_sub (Nat.le_refl _) (HPL.out _))))
      | (go_big_quiet_step ((go_at_call 17; exact calls_sub (Nat.le_refl _) (HPGS.out _)))))
    refine wpQuiet_nil ?_
    rintro w' ⟨y, rfl⟩
    have hby := HBF.out.trans (y.ok_.mono HBF.out.size)
    have HR6 := (y.ok_.block _ HRF.out.1).trans HRF.out.2
    go_wp2_with (refine wpList_store_row rfl 82 (.tmp 6) (.tmp 51) rfl (w.heap.size + 1) (supC zeroS) rfl rfl 82 (supC zeroS) HR6 infoSup0 rfl (by simp [supC, zeroS, Value.oneCell']) ?_)
    refine bodyPost_ret (v := .tuple #[.agg (supC zeroS), .int .i64 3]) (results_cell_tmp (p := 6) (u := 7) (ty := 82) rfl _ _ (w.heap.size + 1) 82 (supC zeroS) (0, 0) _ rfl (setRow_heap _ _ (supC zeroS) _ _ _ HR6) Try.underlying82 rfl infoSup0) rfl
      ⟨?_, below_setRow hby (by omega) _⟩
    first | rfl | (rw [if_neg HC.out]; rfl) | (rw [if_neg HC.out, if_neg HC.out]; rfl)

theorem at_any (h : Dk w B N g gs gn rw L cs cn st nw ws true left) (za : Int) (a : Nat) (hza : za = (a : Int)) (hin : 256 * a + 256 ≤ L) (xs : List UInt8) (hxs : pageOf nw a = xs) :
    Calls Try.prog 68 #[.agg tab, .pointer (some ⟨g, 0, none⟩), .int .i64 za] w fun e w' => e = .returned (.tuple #[.agg (supC (stoodS L a xs)), .int .i64 (stoodN L a xs : Int)]) ∧ Below w.heap.size w w' := by
  by_cases hr : readsP xs a 83
  · exact at_yes h za a hza hin xs hxs hr
  · have hs : ¬ stoodsP L a xs := fun h => hr h.1
    have e1 : stoodS L a xs = zeroS := if_neg hs
    have e2 : stoodN L a xs = 3 := if_neg hs
    rw [e1, e2]
    exact at_not h za a hza hin xs hxs hr
end
end Go.Proofs.Ytmmkmpjhmbocfaa

namespace Go.Proofs.Ytmmkmpjhmbocfaa
open Go.RowKit CrcM PageM SupM
set_option linter.unusedVariables false

/-- What counts of the first j places of a disk of L bytes. -/
noncomputable def newAt (L : Nat) (nw : List UInt8) : Nat → Sup
  | 0 => zeroS
  | j + 1 => if (newAt L nw j).gen < (stoodS L j (pageOf nw j)).gen then stoodS L j (pageOf nw j) else newAt L nw j
theorem newAt_succ (L : Nat) (nw : List UInt8) (j : Nat) : newAt L nw (j + 1) = if (newAt L nw j).gen < (stoodS L j (pageOf nw j)).gen then stoodS L j (pageOf nw j) else newAt L nw j := rfl
theorem newAt_zero (L : Nat) (nw : List UInt8) : ∀ j, (newAt L nw j).gen = 0 → newAt L nw j = zeroS
  | 0, _ => rfl
  | j + 1, h => by
    rw [newAt_succ] at h ⊢
    by_cases hc : (newAt L nw j).gen < (stoodS L j (pageOf nw j)).gen
    · rw [if_pos hc] at h; omega
    · rw [if_neg hc] at h ⊢; exact newAt_zero L nw j h
theorem stoodN_two (L a : Nat) (xs : List UInt8) : stoodN L a xs = 0 ∨ stoodN L a xs = 3 := by
  unfold stoodN
  split
  · exact .inl rfl
  · exact .inr rfl
noncomputable def newN (L : Nat) (nw : List UInt8) : Nat := if (newAt L nw 2).gen = 0 then 3 else 0

section
variable {w w' : World} {B N g gs gn L cs cn : Nat} {rw : Value} {st nw : List UInt8} {ws : List (Nat × List UInt8)} {left : Int}

set_option maxHeartbeats 4000000 in
set_option maxRecDepth 100000 in
theorem newest_any (h : Dk w B N g gs gn rw L cs cn st nw ws true left) :
    Calls Try.prog 48 #[.agg tab, .pointer (some ⟨g, 0, none⟩)] w fun e w' => e = .returned (.tuple #[.agg (supC (newAt L nw 2)), .int .i64 (newN L nw : Int)]) ∧ Below w.heap.size w w' := by
  obtain ⟨RC, hRC⟩ : ∃ RC, RC = supC (newAt L nw 2) := ⟨_, rfl⟩
  obtain ⟨RN, hRN⟩ : ∃ RN, RN = newN L nw := ⟨_, rfl⟩
  rw [← hRC, ← hRN]
  have HRC := Lib.hid hRC
  have HRN := Lib.hid hRN
  clear hRC hRN
  have hlo := h.lo
  have hNN := h.NN
  have hAT : Hid (∀ (W : World) (j : Nat), j < 2 → Dk W B N g gs gn rw L cs cn st nw ws true left → Calls Try.prog 68 #[.agg tab, .pointer (some ⟨g, 0, none⟩), .int .i64 (j : Int)] W fun e w' => e = .returned (.tuple #[.agg (supC (stoodS L j (pageOf nw j))), .int .i64 (stoodN L j (pageOf nw j) : Int)]) ∧ Below W.heap.size W w') := Lib.hid (fun W j hj hW => at_any hW j j rfl (by omega) _ rfl)
  have hb1 : Below w.heap.size w (((w.alloc (.cells tab 61)).alloc (.cells #[.int .u64 0, .int .i64 0, .int .i64 0, .int .i64 0, .int .i64 0] 82)).alloc (.cells #[.int .u64 0, .int .i64 0, .int .i64 0, .int .i64 0, .int .i64 0] 82)) := (((Below.refl _ _).alloc (Nat.le_refl _) _).alloc (by simp) _).alloc (by simp; omega) _
  have D1 := h.below hb1
  have hT0 : (((w.alloc (.cells tab 61)).alloc (.cells #[.int .u64 0, .int .i64 0, .int .i64 0, .int .i64 0, .int .i64 0] 82)).alloc (.cells #[.int .u64 0, .int .i64 0, .int .i64 0, .int .i64 0, .int .i64 0] 82)).heap[w.heap.size]? = some (.cells tab 61 (0, 0)) := (Below.heap_alloc _ _ _ (by simp; omega)).trans (heap_alloc2_old _ _ _)
  have hR0 : (((w.alloc (.cells tab 61)).alloc (.cells #[.int .u64 0, .int .i64 0, .int .i64 0, .int .i64 0, .int .i64 0] 82)).alloc (.cells #[.int .u64 0, .int .i64 0, .int .i64 0, .int .i64 0, .int .i64 0] 82)).heap[w.heap.size + 1]? = some (.cells (supC zeroS) 82 (0, 0)) := (Below.heap_alloc _ _ _ (by simp)).trans (heap_alloc2_new _ _ _)
  have hN0 : (((w.alloc (.cells tab 61)).alloc (.cells #[.int .u64 0, .int .i64 0, .int .i64 0, .int .i64 0, .int .i64 0] 82)).alloc (.cells #[.int .u64 0, .int .i64 0, .int .i64 0, .int .i64 0, .int .i64 0] 82)).heap[w.heap.size + 2]? = some (.cells (supC zeroS) 82 (0, 0)) := by
    have := heap_alloc_new ((w.alloc (.cells tab 61)).alloc (.cells #[.int .u64 0, .int .i64 0, .int .i64 0, .int .i64 0, .int .i64 0] 82)) (.cells #[.int .u64 0, .int .i64 0, .int .i64 0, .int .i64 0, .int .i64 0] 82)
    rwa [show ((w.alloc (.cells tab 61)).alloc (.cells #[.int .u64 0, .int .i64 0, .int .i64 0, .int .i64 0, .int .i64 0] 82)).heap.size = w.heap.size + 2 by simp] at this
  have hZ0 : (((w.alloc (.cells tab 61)).alloc (.cells #[.int .u64 0, .int .i64 0, .int .i64 0, .int .i64 0, .int .i64 0] 82)).alloc (.cells #[.int .u64 0, .int .i64 0, .int .i64 0, .int .i64 0, .int .i64 0] 82)).heap.size = w.heap.size + 3 := by simp
  have INV0 : Hid (Dk _ B N g gs gn rw L cs cn st nw ws true left ∧ _ ∧ _ ∧ _ ∧ _ ∧ _) := Lib.hid ⟨D1, hT0, hR0, hN0, hb1, hZ0⟩
  clear h D1 hT0 hR0 hN0 hb1 hZ0
  go_enter Try.func48, Try.ntmps48
  go_wp2_with fail
  go_loopw [10] (fun i wr => ∃ j : Nat, j ≤ 2 ∧ i = .int .i64 j ∧ Hid (Dk wr B N g gs gn rw L cs cn st nw ws true left ∧ wr.heap[w.heap.size]? = some (.cells tab 61 (0, 0)) ∧ wr.heap[w.heap.size + 1]? = some (.cells (supC zeroS) 82 (0, 0)) ∧ wr.heap[w.heap.size + 2]? = some (.cells (supC (newAt L nw j)) 82 (0, 0)) ∧ Below w.heap.size w wr ∧ w.heap.size + 3 ≤ wr.heap.size)) (fun i _ => 2 - (intOf i).toNat)
  case atStart => exact ⟨0, by omega, rfl, Lib.hid ⟨INV0.out.1, INV0.out.2.1, INV0.out.2.2.1, INV0.out.2.2.2.1, INV0.out.2.2.2.2.1, by rw [INV0.out.2.2.2.2.2]; exact Nat.le_refl _⟩⟩
  case round =>
    obtain ⟨j, hj, rfl, hr⟩ := hrel
    clear INV0
    by_cases hlt : j < 2
    · obtain ⟨hD, hT, hR, hNW, hB, hsz⟩ := hr.out
      clear hr
      obtain ⟨S, hS⟩ : ∃ S, S = stoodS L j (pageOf nw j) := ⟨_, rfl⟩
      obtain ⟨n, hn⟩ : ∃ n, n = stoodN L j (pageOf nw j) := ⟨_, rfl⟩
      obtain ⟨T, hTT⟩ : ∃ T, T = newAt L nw j := ⟨_, rfl⟩
      have hnn : n = 0 ∨ n = 3 := by rw [hn]; exact stoodN_two _ _ _
      have hsu : newAt L nw (j + 1) = if T.gen < S.gen then S else T := by rw [hTT, hS]; rfl
      rw [← hTT] at hNW
      clear hTT
      obtain ⟨sg, sa, sh, sb, sp⟩ := S
      obtain ⟨tg, ta, th, tb, tp⟩ := T
      have hsS : supC (stoodS L j (pageOf nw j)) = #[.int .u64 (sg : Int), .int .i64 sa, .int .i64 sh, .int .i64 sb, .int .i64 sp] := by rw [← hS]; rfl
      have HS := Lib.hid hsS
      have HN := Lib.hid hn.symm
      have HD := Lib.hid hD
      have HT := Lib.hid hT
      have HR := Lib.hid hR
      have HNW : Hid (wr.heap[w.heap.size + 2]? = some (.cells #[.int .u64 (tg : Int), .int .i64 ta, .int .i64 th, .int .i64 tb, .int .i64 tp] 82 (0, 0))) := Lib.hid hNW
      have HB := Lib.hid hB
      have HSU := Lib.hid hsu
      clear hsS hS hn hD hT hR hNW hB hsu
      by_cases hgt : tg < sg
      · have d1 : decide ((tg : Int) < (sg : Int)) = true := by simpa using hgt
        have d2 : decide (tg < sg) = true := decide_eq_true hgt
        have HC : Hid (newAt L nw (j + 1) = ⟨sg, sa, sh, sb, sp⟩) := Lib.hid (by rw [HSU.out]; exact if_pos hgt)
        clear hgt
        rcases hnn with rfl | rfl
        · skip
          go_wp2_with (first
              | (refine wpList_load_row rfl 61 (.tmp 2) rfl w.heap.size rfl 61 tab (0, 0) _ HT.out Try.underlying61 rfl (by rw [size_tab]; exact info64) ?_)
              | (go_at_call 68; (refine (hAT.out _ j hlt HD.out).mono ?_); rintro e w2 ⟨rfl, hb2⟩; rw [HS.out, HN.out]; have HS2 := hb2.size; have HN2 := Lib.hid ((hb2.block (w.heap.size + 2) (by omega)).trans HNW.out); have fg : (w2.alloc (.cells #[.int .u64 (sg : Int), .int .i64 sa, .int .i64 sh, .int .i64 sb, .int .i64 sp] 82)).cell? ⟨w.heap.size + 2, 0, none⟩ = some (.int .u64 (tg : Int)) := cell_of_row _ _ _ _ _ _ ((Below.heap_alloc w2 _ _ (by omega)).trans HN2.out))
              | (refine wpList_store_row rfl 82 (.tmp 8) (.tmp 18) rfl w2.heap.size #[.int .u64 (sg : Int), .int .i64 sa, .int .i64 sh, .int .i64 sb, .int .i64 sp] rfl rfl 82 Try.zeroCells82 (heap_alloc_new _ _) (by kernel_rfl) (by kernel_rfl) (by kernel_rfl) ?_; rw [World.setRow_alloc_new])
              | (refine wpList_load_row rfl 82 (.tmp 8) rfl w2.heap.size rfl 82 #[.int .u64 (sg : Int), .int .i64 sa, .int .i64 sh, .int .i64 sb, .int .i64 sp] (0, 0) _ (heap_alloc_new _ _) Try.underlying82 rfl infoSup ?_)
              | (refine wpList_store_row rfl 82 (.tmp 6) (.tmp 33) rfl (w.heap.size + 2) #[.int .u64 (sg : Int), .int .i64 sa, .int .i64 sh, .int .i64 sb, .int .i64 sp] rfl rfl 82 #[.int .u64 (tg : Int), .int .i64 ta, .int .i64 th, .int .i64 tb, .int .i64 tp] ((Below.heap_alloc w2 _ _ (by omega)).trans HN2.out) infoSup rfl (by simp [Value.oneCell']) ?_))
          go_roundw
          case rel =>
            have hbx : Below w.heap.size w (w2.alloc (.cells #[.int .u64 (sg : Int), .int .i64 sa, .int .i64 sh, .int .i64 sb, .int .i64 sp] 82)) := (HB.out.trans (hb2.mono HB.out.size)).alloc (by omega) _
            have hby : Below wr.heap.size wr (w2.alloc (.cells #[.int .u64 (sg : Int), .int .i64 sa, .int .i64 sh, .int .i64 sb, .int .i64 sp] 82)) := hb2.alloc hb2.size _
            refine ⟨j + 1, by omega, by go_num, Lib.hid ⟨HD.out.keep (by simp; omega) (fun k h1 h2 => (setRow_other _ _ _ _ (by omega)).trans (hby.block k (by omega))), (setRow_other _ _ _ _ (by omega)).trans ((hby.block _ (by omega)).trans HT.out), (setRow_other _ _ _ _ (by omega)).trans ((hby.block _ (by omega)).trans HR.out), ?_, below_setRow hbx (by omega) _, by simp; omega⟩⟩
            rw [HC.out]; exact setRow_heap _ _ _ _ _ _ ((Below.heap_alloc w2 _ _ (by omega)).trans HN2.out)
          case measure => simp [intOf]; omega
        · skip
          go_wp2_with (first
              | (refine wpList_load_row rfl 61 (.tmp 2) rfl w.heap.size rfl 61 tab (0, 0) _ HT.out Try.underlying61 rfl (by rw [size_tab]; exact info64) ?_)
              | (go_at_call 68; (refine (hAT.out _ j hlt HD.out).mono ?_); rintro e w2 ⟨rfl, hb2⟩; rw [HS.out, HN.out]; have HS2 := hb2.size; have HN2 := Lib.hid ((hb2.block (w.heap.size + 2) (by omega)).trans HNW.out); have fg : (w2.alloc (.cells #[.int .u64 (sg : Int), .int .i64 sa, .int .i64 sh, .int .i64 sb, .int .i64 sp] 82)).cell? ⟨w.heap.size + 2, 0, none⟩ = some (.int .u64 (tg : Int)) := cell_of_row _ _ _ _ _ _ ((Below.heap_alloc w2 _ _ (by omega)).trans HN2.out))
              | (refine wpList_store_row rfl 82 (.tmp 8) (.tmp 18) rfl w2.heap.size #[.int .u64 (sg : Int), .int .i64 sa, .int .i64 sh, .int .i64 sb, .int .i64 sp] rfl rfl 82 Try.zeroCells82 (heap_alloc_new _ _) (by kernel_rfl) (by kernel_rfl) (by kernel_rfl) ?_; rw [World.setRow_alloc_new])
              | (refine wpList_load_row rfl 82 (.tmp 8) rfl w2.heap.size rfl 82 #[.int .u64 (sg : Int), .int .i64 sa, .int .i64 sh, .int .i64 sb, .int .i64 sp] (0, 0) _ (heap_alloc_new _ _) Try.underlying82 rfl infoSup ?_)
              | (refine wpList_store_row rfl 82 (.tmp 6) (.tmp 33) rfl (w.heap.size + 2) #[.int .u64 (sg : Int), .int .i64 sa, .int .i64 sh, .int .i64 sb, .int .i64 sp] rfl rfl 82 #[.int .u64 (tg : Int), .int .i64 ta, .int .i64 th, .int .i64 tb, .int .i64 tp] ((Below.heap_alloc w2 _ _ (by omega)).trans HN2.out) infoSup rfl (by simp [Value.oneCell']) ?_))
          go_roundw
          case rel =>
            have hbx : Below w.heap.size w (w2.alloc (.cells #[.int .u64 (sg : Int), .int .i64 sa, .int .i64 sh, .int .i64 sb, .int .i64 sp] 82)) := (HB.out.trans (hb2.mono HB.out.size)).alloc (by omega) _
            have hby : Below wr.heap.size wr (w2.alloc (.cells #[.int .u64 (sg : Int), .int .i64 sa, .int .i64 sh, .int .i64 sb, .int .i64 sp] 82)) := hb2.alloc hb2.size _
            refine ⟨j + 1, by omega, by go_num, Lib.hid ⟨HD.out.keep (by simp; omega) (fun k h1 h2 => (setRow_other _ _ _ _ (by omega)).trans (hby.block k (by omega))), (setRow_other _ _ _ _ (by omega)).trans ((hby.block _ (by omega)).trans HT.out), (setRow_other _ _ _ _ (by omega)).trans ((hby.block _ (by omega)).trans HR.out), ?_, below_setRow hbx (by omega) _, by simp; omega⟩⟩
            rw [HC.out]; exact setRow_heap _ _ _ _ _ _ ((Below.heap_alloc w2 _ _ (by omega)).trans HN2.out)
          case measure => simp [intOf]; omega
      · have d1 : decide ((tg : Int) < (sg : Int)) = false := by simpa using hgt
        have d2 : decide (tg < sg) = false := decide_eq_false hgt
        have HC : Hid (newAt L nw (j + 1) = ⟨tg, ta, th, tb, tp⟩) := Lib.hid (by rw [HSU.out]; exact if_neg hgt)
        clear hgt
        rcases hnn with rfl | rfl
        · skip
          go_wp2_with (first
              | (refine wpList_load_row rfl 61 (.tmp 2) rfl w.heap.size rfl 61 tab (0, 0) _ HT.out Try.underlying61 rfl (by rw [size_tab]; exact info64) ?_)
              | (go_at_call 68; (refine (hAT.out _ j hlt HD.out).mono ?_); rintro e w2 ⟨rfl, hb2⟩; rw [HS.out, HN.out]; have HS2 := hb2.size; have HN2 := Lib.hid ((hb2.block (w.heap.size + 2) (by omega)).trans HNW.out); have fg : (w2.alloc (.cells #[.int .u64 (sg : Int), .int .i64 sa, .int .i64 sh, .int .i64 sb, .int .i64 sp] 82)).cell? ⟨w.heap.size + 2, 0, none⟩ = some (.int .u64 (tg : Int)) := cell_of_row _ _ _ _ _ _ ((Below.heap_alloc w2 _ _ (by omega)).trans HN2.out))
              | (refine wpList_store_row rfl 82 (.tmp 8) (.tmp 18) rfl w2.heap.size #[.int .u64 (sg : Int), .int .i64 sa, .int .i64 sh, .int .i64 sb, .int .i64 sp] rfl rfl 82 Try.zeroCells82 (heap_alloc_new _ _) (by kernel_rfl) (by kernel_rfl) (by kernel_rfl) ?_; rw [World.setRow_alloc_new]))
          go_roundw
          case rel =>
            have hbx : Below w.heap.size w (w2.alloc (.cells #[.int .u64 (sg : Int), .int .i64 sa, .int .i64 sh, .int .i64 sb, .int .i64 sp] 82)) := (HB.out.trans (hb2.mono HB.out.size)).alloc (by omega) _
            have hby : Below wr.heap.size wr (w2.alloc (.cells #[.int .u64 (sg : Int), .int .i64 sa, .int .i64 sh, .int .i64 sb, .int .i64 sp] 82)) := hb2.alloc hb2.size _
            refine ⟨j + 1, by omega, by go_num, Lib.hid ⟨HD.out.below hby, (hby.block _ (by omega)).trans HT.out, (hby.block _ (by omega)).trans HR.out, ?_, hbx, ?_⟩⟩
            · rw [HC.out]; exact (Below.heap_alloc w2 _ _ (by omega)).trans HN2.out
            · simp; omega
          case measure => simp [intOf]; omega
        · skip
          go_wp2_with (first
              | (refine wpList_load_row rfl 61 (.tmp 2) rfl w.heap.size rfl 61 tab (0, 0) _ HT.out Try.underlying61 rfl (by rw [size_tab]; exact info64) ?_)
              | (go_at_call 68; (refine (hAT.out _ j hlt HD.out).mono ?_); rintro e w2 ⟨rfl, hb2⟩; rw [HS.out, HN.out]; have HS2 := hb2.size; have HN2 := Lib.hid ((hb2.block (w.heap.size + 2) (by omega)).trans HNW.out); have fg : (w2.alloc (.cells #[.int .u64 (sg : Int), .int .i64 sa, .int .i64 sh, .int .i64 sb, .int .i64 sp] 82)).cell? ⟨w.heap.size + 2, 0, none⟩ = some (.int .u64 (tg : Int)) := cell_of_row _ _ _ _ _ _ ((Below.heap_alloc w2 _ _ (by omega)).trans HN2.out))
              | (refine wpList_store_row rfl 82 (.tmp 8) (.tmp 18) rfl w2.heap.size #[.int .u64 (sg : Int), .int .i64 sa, .int .i64 sh, .int .i64 sb, .int .i64 sp] rfl rfl 82 Try.zeroCells82 (heap_alloc_new _ _) (by kernel_rfl) (by kernel_rfl) (by kernel_rfl) ?_; rw [World.setRow_alloc_new]))
          go_roundw
          case rel =>
            have hbx : Below w.heap.size w (w2.alloc (.cells #[.int .u64 (sg : Int), .int .i64 sa, .int .i64 sh, .int .i64 sb, .int .i64 sp] 82)) := (HB.out.trans (hb2.mono HB.out.size)).alloc (by omega) _
            have hby : Below wr.heap.size wr (w2.alloc (.cells #[.int .u64 (sg : Int), .int .i64 sa, .int .i64 sh, .int .i64 sb, .int .i64 sp] 82)) := hb2.alloc hb2.size _
            refine ⟨j + 1, by omega, by go_num, Lib.hid ⟨HD.out.below hby, (hby.block _ (by omega)).trans HT.out, (hby.block _ (by omega)).trans HR.out, ?_, hbx, ?_⟩⟩
            · rw [HC.out]; exact (Below.heap_alloc w2 _ _ (by omega)).trans HN2.out
            · simp; omega
          case measure => simp [intOf]; omega
    · obtain rfl : j = 2 := by omega
      obtain ⟨hD, hT, hR, hNW, hB, hsz⟩ := hr.out
      clear hr hAT
      obtain ⟨T, hTT⟩ : ∃ T, T = newAt L nw 2 := ⟨_, rfl⟩
      have hz : T.gen = 0 → T = zeroS := by rw [hTT]; exact newAt_zero L nw 2
      rw [← hTT] at hNW
      have hRN : RN = if T.gen = 0 then 3 else 0 := by rw [HRN.out, hTT]; rfl
      have hRC : RC = supC T := by rw [HRC.out, hTT]
      clear hTT
      by_cases ht : T.gen = 0
      · have hT0 := hz ht
        rw [if_pos ht] at hRN
        subst hT0
        have fg : wr.cell? ⟨w.heap.size + 2, 0, none⟩ = some (.int .u64 0) := cell_of_row _ _ _ _ _ _ hNW
        have HNW := Lib.hid hNW
        have HR := Lib.hid hR
        have HF : Hid (RC = supC zeroS ∧ RN = 3) := Lib.hid ⟨hRC, hRN⟩
        clear hNW hR hT hRC hRN hD hz ht
        go_wp2_with (refine wpList_store_row rfl 82 (.tmp 4) (.tmp 38) rfl (w.heap.size + 1) (supC zeroS) rfl rfl 82 (supC zeroS) HR.out infoSup0 rfl (by simp [supC, zeroS, Value.oneCell']) ?_)
        refine bodyPost_ret (v := .tuple #[.agg (supC zeroS), .int .i64 3]) (results_cell_tmp (p := 4) (u := 5) (ty := 82) rfl _ _ (w.heap.size + 1) 82 (supC zeroS) (0, 0) _ rfl (setRow_heap _ _ (supC zeroS) _ _ _ HR.out) Try.underlying82 rfl infoSup0) rfl
          ⟨?_, below_setRow hB (by omega) _⟩
        rw [HF.out.1, HF.out.2]
        rfl
      · rw [if_neg ht] at hRN
        clear hz
        obtain ⟨tg, ta, th, tb, tp⟩ := T
        have fg : wr.cell? ⟨w.heap.size + 2, 0, none⟩ = some (.int .u64 (tg : Int)) := cell_of_row _ _ _ _ _ _ hNW
        have d1 : ((tg : Int) == 0) = false := by simpa using ht
        have HNW : Hid (wr.heap[w.heap.size + 2]? = some (.cells #[.int .u64 (tg : Int), .int .i64 ta, .int .i64 th, .int .i64 tb, .int .i64 tp] 82 (0, 0))) := Lib.hid hNW
        have HR := Lib.hid hR
        have HF : Hid (RC = #[.int .u64 (tg : Int), .int .i64 ta, .int .i64 th, .int .i64 tb, .int .i64 tp] ∧ RN = 0) := Lib.hid ⟨hRC, hRN⟩
        clear hNW hR hT hRC hRN hD ht
        go_wp2_with (first
          | (refine wpList_load_row rfl 82 (.tmp 6) rfl (w.heap.size + 2) rfl 82 #[.int .u64 (tg : Int), .int .i64 ta, .int .i64 th, .int .i64 tb, .int .i64 tp] (0, 0) _ HNW.out Try.underlying82 rfl infoSup ?_)
          | (refine wpList_store_row rfl 82 (.tmp 4) (.tmp 39) rfl (w.heap.size + 1) #[.int .u64 (tg : Int), .int .i64 ta, .int .i64 th, .int .i64 tb, .int .i64 tp] rfl rfl 82 (supC zeroS) HR.out infoSup rfl (by simp [Value.oneCell']) ?_))
        refine bodyPost_ret (v := .tuple #[.agg #[.int .u64 (tg : Int), .int .i64 ta, .int .i64 th, .int .i64 tb, .int .i64 tp], .int .i64 0]) (results_cell_tmp (p := 4) (u := 5) (ty := 82) rfl _ _ (w.heap.size + 1) 82 #[.int .u64 (tg : Int), .int .i64 ta, .int .i64 th, .int .i64 tb, .int .i64 tp] (0, 0) _ rfl (setRow_heap _ _ (supC zeroS) _ _ _ HR.out) Try.underlying82 rfl infoSup) rfl
          ⟨?_, below_setRow hB (by omega) _⟩
        rw [HF.out.1, HF.out.2]
        rfl
end
end Go.Proofs.Ytmmkmpjhmbocfaa
