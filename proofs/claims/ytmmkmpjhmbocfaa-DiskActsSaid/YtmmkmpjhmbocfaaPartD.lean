/- Several texts in one: Package page's WriteRaw on a disk whose power may go, with all that waits told. Page's and super's Write on a disk whose power may go. A disk's Flush and Crash with their frames block by block. append of so many noughts to a row of one's own. No program is named here. SuperTurns: its walk. -/
import Derived.Test.YtmmkmpjhmbocfaaPgW
import Derived.Test.YtmmkmpjhmbocfaaDkX
import Derived.Test.YtmmkmpjhmbocfaaPartB
import Derived.Test.YtmmkmpjhmbocfaaPartF
import Derived.Test.YtmmkmpjhmbocfaaDkWs
import Derived.Test.YtmmkmpjhmbocfaaOwnS
import Derived.Lib.AppendZeros
import Derived.Test.YtmmkmpjhmbocfaaPartC
namespace Go.Proofs.Ytmmkmpjhmbocfaa
open Go.RowKit
set_option linter.unusedVariables false

/-- The first k sectors of W, as they wait to be written from page a on. -/
def secs (a : Nat) (W : List UInt8) (k : Nat) : List (Nat × List UInt8) := (List.range k).map fun i => (4 * a + i, (W.drop (64 * i)).take 64)
theorem length_secs (a : Nat) (W : List UInt8) (k : Nat) : (secs a W k).length = k := by simp [secs]
theorem secs_succ (a : Nat) (W : List UInt8) (k : Nat) : secs a W k ++ [(4 * a + k, (W.drop (64 * k)).take 64)] = secs a W (k + 1) := by
  simp [secs, List.range_succ]
/-- What is left of so many steps behind k of them. -/
def aft (left : Int) (k : Nat) : Int := if left = -1 then -1 else left - (k : Int)
theorem aft_zero (left : Int) : aft left 0 = left := by unfold aft; split <;> omega
theorem aft_never (k : Nat) : aft (-1) k = -1 := rfl
theorem aft_ge {left : Int} {k : Nat} (h : -1 ≤ left) (hk : left = -1 ∨ (k : Int) ≤ left) : -1 ≤ aft left k := by unfold aft; split <;> omega
theorem aft_le {left : Int} {k : Nat} (h : left ≤ 1000000) (hk : k ≤ 1000000) : aft left k ≤ 9223372036854775807 := by unfold aft; split <;> omega
theorem aft_step {left : Int} {k : Nat} (hk : left = -1 ∨ (k : Int) ≤ left) (hz : aft left k ≠ 0) : stepped (aft left k) = aft left (k + 1) := by
  unfold stepped aft at *
  split at hz <;> split <;> omega

/-- What a WriteRaw leaves: of n sectors k are written, and wait; fewer than n where power went. -/
def WroteX (w w' : World) (B g gs gn : Nat) (rw : Value) (L cs cn : Nat) (st nw : List UInt8) (ws : List (Nat × List UInt8)) (left : Int) (a : Nat) (W : List UInt8) (n : Nat) (e : Ending) : Prop :=
  ∃ k rw', k ≤ n ∧ ((k = n ∧ (left = -1 ∨ (n : Int) ≤ left) ∧ e = .returned (.int .i64 0)) ∨ (k < n ∧ left = (k : Int) ∧ e = .returned (.int .i64 2))) ∧
    Dk w' B w'.heap.size g gs gn rw' L cs cn st (rawN nw (256 * a) W k) (ws ++ secs a W k) (decide (k = n)) (aft left k) ∧ Moved w rw.ownBlock rw'.ownBlock ∧ OuterX (DkX g gn rw) w w'

section
variable {w w' : World} {B N g gs gn L cs cn : Nat} {rw : Value} {st nw : List UInt8} {ws : List (Nat × List UInt8)} {on : Bool} {left : Int}

set_option maxHeartbeats 1000000 in
set_option maxRecDepth 100000 in
theorem writeRaw_x (h : Dk w B N g gs gn rw L cs cn st nw ws true left) (hl1 : -1 ≤ left) (hlm : left ≤ 1000000) (hws : ws.length ≤ 500) (za : Int) (a n : Nat) (hza : za = (a : Int)) (hin : n = 0 ∨ 256 * a + n ≤ L ∧ 256 * a < L) (han : a ≤ 1000) (hnn : n ≤ 100000) (hn0 : 0 ≤ n) (A : Option Addr) (c : Nat) (bs : List UInt8) (hx : BytesAt w A bs) (hbl : bs.length = n) (p : Nat) (hp : p = (n + 255) / 256) (hpl : p ≤ 100) :
    Calls Try.prog 35 #[.pointer (some ⟨g, 0, none⟩), .int .i64 za, .slice A n c] w fun e w' => WroteX w w' B g gs gn rw L cs cn st nw ws left a (bs ++ List.replicate (256 * p - n) 0) (4 * p) e := by
  subst hza
  have hpg := h.pg
  obtain ⟨iu, hiu, hz0, hz1, hz2⟩ := info_parts infoU8
  obtain ⟨M, hM⟩ : ∃ M, M = p * 256 := ⟨_, rfl⟩
  have hz3 : iu.bytes * M ≤ 281474976710656 := by rw [hz2]; omega
  have hpi : ((n : Int) + 256 - 1) / 256 = (p : Int) := by omega
  have hMi : (p : Int) * 256 = (M : Int) := by omega
  have hnM : n ≤ M := by omega
  have HPI := Lib.hid hpi
  have HMI := Lib.hid hMi
  have HM := Lib.hid hM
  have HP := Lib.hid hp
  have H := Lib.hid h
  have HIN := Lib.hid hin
  have HX := Lib.hid hx
  have HBL := Lib.hid hbl
  clear hpi hMi hM hp h hin hx hbl
  go_enter Try.func35, Try.ntmps35
  go_upto_region 7 with (first
    | (go_at_call 60; refine (ready_on H.out).mono ?_; rintro e w1 ⟨rfl, rfl⟩)
    | (go_at_call 63; refine (within_yes H.out _ _ a n rfl rfl HIN.out).mono ?_; rintro e w1 ⟨rfl, rfl⟩))
  rw [HPI.out]
  have m3 : (Try.prog.info? 5).map (·.size) = some 1 := by kernel_rfl
  have hfit : n ≤ (List.replicate M (0 : UInt8)).length := by simp; omega
  have M3 := Lib.hid m3
  have HFIT := Lib.hid hfit
  have H0 : Hid (0 = ([] : List UInt8).length) := Lib.hid rfl
  clear m3 hfit
  go_upto_region 9 with (first
    | (at_make; refine wpList_make_full _ rfl (.tmp 30) (.tmp 30) 27 rfl w.heap.size 5 iu (.int .u8 0) 1 Try.underlying27 hiu hz0 hz1 .i64 .i64 ((p : Int) * 256) ((p : Int) * 256) M rfl rfl HMI.out HMI.out hz3 (by unfold maxLen; have := HM.out; omega) (Nat.le_refl _) ?_; intro w1 ho1 hg1; have ho2 := made8 ho1; obtain ⟨q, hq, hob, _⟩ := ho2.ownB2; injection hq with hq; injection hq with hq; have HQE := Lib.hid hq; have HOB : Hid (OwnB w1 w.heap.size w.heap.size M 5 ([] ++ List.replicate M 0)) := Lib.hid (by rw [hq, List.nil_append]; rw [hq] at hob; exact hob); have hb1 : Below w.heap.size w w1 := (Below.refl _ _).grown hg1 (Nat.le_refl _) (fun k hk => by cases hk); have HX1 := Lib.hid (HX.out.below hb1); clear ho1 ho2 hob hq)
    | ((with_reducible refine wpList_copy_bytes rfl (.tmp 32) (.tmp 33) 27 27 rfl 5 Try.underlying27 M3.out w.heap.size w.heap.size M 0 M M A n c [] (List.replicate M 0) bs rfl rfl H0.out HOB.out HX1.out HBL.out hnM HFIT.out ?_); intro w2 ho3 hg3))
  have hW : (bs ++ (List.replicate M (0 : UInt8)).drop n).length = M := by simp only [List.length_append, List.length_drop, List.length_replicate, HBL.out]; omega
  have hWe : bs ++ (List.replicate M (0 : UInt8)).drop n = bs ++ List.replicate (256 * p - n) 0 := by rw [List.drop_replicate, show M - n = 256 * p - n by have := HM.out; omega]
  rw [List.nil_append] at ho3
  have HWE := Lib.hid hWe
  clear hWe
  generalize bs ++ (List.replicate M (0 : UInt8)).drop n = W at *
  have HWL := Lib.hid hW
  have hb2 : Below w.heap.size w w2 := hb1.trans ⟨hg3.os, hg3.tape, hg3.output, hg3.size, fun k hk => hg3.block k (by have := hb1.size; omega) (fun e => by injection e with e; omega)⟩
  have D2 := Lib.hid (H.out.below hb2)
  have hql := ho3.lt
  have HO3 := Lib.hid ho3
  have hNw := H.out.NN
  have hgN := H.out.gN
  have hnN := H.out.nN
  have hXq : ∀ rwk : Value, Moved w2 rw.ownBlock rwk.ownBlock → ¬ DkX g gn rwk w.heap.size := by
    rintro rwk hm (e | e | e)
    · omega
    · omega
    · rcases hm with e2 | ⟨q', e2, hq'⟩
      · rw [e2] at e
        have := H.out.wN _ e
        omega
      · rw [e2] at e
        injection e with e
        omega
  have HXQ := Lib.hid hXq
  clear hW ho3 hg3 hb1 HX1 HOB HQE hg1 hXq
  go_wp2_with fail
  go_loopw [37] (fun i wr => ∃ k : Nat, k ≤ 4 * p ∧ i = .int .i64 k ∧ Hid (∃ N' rwk wsk, Dk wr B N' g gs gn rwk L cs cn st (rawN nw (256 * a) W k) wsk true (aft left k) ∧ wsk = ws ++ secs a W k ∧ (left = -1 ∨ (k : Int) ≤ left) ∧ Moved w2 rw.ownBlock rwk.ownBlock) ∧ Hid (OuterX (DkX g gn rw) w2 wr)) (fun i _ => 4 * p - (intOf i).toNat)
  case atStart => exact ⟨0, by omega, rfl, Lib.hid ⟨_, rw, ws, by rw [rawN_zero, aft_zero]; exact D2.out, by simp [secs], by omega, .inl rfl⟩, Lib.hid (OuterX.refl _ _)⟩
  case round =>
    obtain ⟨k, hk, rfl, hd, hO⟩ := hrel
    obtain ⟨N', rwk, wsk, hdk, hwl, hlf, hmv⟩ := hd.out
    have D3 := Lib.hid hdk
    have HWS := Lib.hid hwl
    have HMV := Lib.hid hmv
    have hwk : wsk.length ≤ 1000 := by rw [hwl, List.length_append, length_secs]; omega
    have HLF := Lib.hid hlf
    clear hdk hwl hmv hd hlf
    by_cases hlt : k < 4 * p
    · obtain ⟨j, hj⟩ : ∃ j, j = 4 * a + k := ⟨_, rfl⟩
      have hji : ((a : Int) * 4 + (k : Int)) = (j : Int) := by omega
      have hpM : M = 256 * p := by have := HM.out; omega
      have hfi : 64 * j + 64 ≤ L := by have := HIN.out; have := HP.out; omega
      have HJ := Lib.hid hj
      have HJI := Lib.hid hji
      have HFI := Lib.hid hfi
      have HPM := Lib.hid hpM
      have hne : ¬ M = k * 64 := by omega
      have hch : ((W.drop (64 * k)).take 64).length = 64 := by rw [List.length_take, List.length_drop, HWL.out]; omega
      have HCH := Lib.hid hch
      have hxk : BytesAt wr (some ⟨w.heap.size, 64 * k, none⟩) ((W.drop (64 * k)).take 64) := bytes_outerX (BytesAt.mid HO3.out.bytes (64 * k) 64) hO.out (fun a ha => by injection ha with ha; subst ha; exact HXQ.out rw (.inl rfl))
      have hxk2 : BytesAt wr (some ⟨w.heap.size, k * 64, none⟩) ((W.drop (64 * k)).take 64) := by rw [Nat.mul_comm k 64]; exact hxk
      have HXK := Lib.hid hxk2
      have hkM : (k + 1) * 64 ≤ M := by omega
      have h64 : (k + 1) * 64 - k * 64 = 64 := by omega
      have H64 := Lib.hid h64
      have hAq : ∀ a', some (⟨w.heap.size, k * 64, none⟩ : Addr) = some a' → ¬ DkX g gn rwk a'.block := fun a' ha => by injection ha with ha; subst ha; exact HXQ.out rwk HMV.out
      have HAQ := Lib.hid hAq
      have hst := rawN_step (nw := nw) (W := W) (a := a) (k := k) (by rw [H.out.lnw]; omega) (by rw [HWL.out]; omega)
      rw [← hj] at hst
      have HST := Lib.hid hst
      clear hj hji hfi hpM hch hxk hxk2 h64 hAq hst
      by_cases hz0' : aft left k = 0
      · have hlk : left = (k : Int) := by have := HLF.out; unfold aft at hz0'; split at hz0' <;> omega
        have HLK := Lib.hid hlk
        have D4 : Hid (Dk wr B N' g gs gn rwk L cs cn st (rawN nw (256 * a) W k) wsk true 0) := Lib.hid (by have := D3.out; rw [hz0'] at this; exact this)
        have HZ := Lib.hid hz0'
        clear hlk hz0' D3
        go_wp2_with (go_at_call 14; rw [HJI.out, H64.out]; (refine (write_stop D4.out _ j rfl HFI.out (some ⟨w.heap.size, k * 64, none⟩) (M - k * 64)).mono ?_); rintro e w4 ⟨rfl, d4, hg4⟩)
        go_ret
        have hO4 : OuterX (DkX g gn rw) w2 w4 := hO.out.grown hg4 (fun k hk => .inl (.inl (by injection hk with hk; exact hk.symm)))
        refine ⟨k, rwk, by omega, .inr ⟨hlt, HLK.out, rfl⟩, ?_, ?_, ((OuterX.refl (DkX g gn rw) w).then hb2 (Nat.le_refl _)).chain (.inl rfl) hO4⟩
        · rw [← HWE.out, HZ.out, ← HWS.out, show decide (k = 4 * p) = false from decide_eq_false (by omega)]
          exact d4.wider d4.NN (Nat.le_refl _)
        · rcases HMV.out with e | ⟨q', e, hq'⟩
          · exact .inl e
          · exact .inr ⟨q', e, by have := hb2.size; omega⟩
      · have HNZ := Lib.hid hz0'
        have HAF : Hid (stepped (aft left k) = aft left (k + 1)) := Lib.hid (aft_step HLF.out hz0')
        clear hz0'
        go_wp2_with (go_at_call 14; rw [HJI.out, H64.out]; (refine (write_any D3.out HNZ.out (aft_ge hl1 HLF.out) (aft_le hlm (by omega)) j HFI.out (some ⟨w.heap.size, k * 64, none⟩) (M - k * 64) _ HXK.out HCH.out HAQ.out _ HAF.out hwk).mono ?_); rintro e w4 ⟨rfl, ⟨rw4, d4, mv4⟩, o4⟩; rw [HST.out] at d4; have D4 := Lib.hid d4; clear d4)
        go_roundw
        case rel => exact ⟨k + 1, by omega, by go_num, Lib.hid ⟨_, rw4, _, D4.out, by rw [HWS.out, HJ.out, List.append_assoc, secs_succ], by have := HLF.out; have := HNZ.out; unfold aft at this; split at this <;> omega, HMV.out.trans hO.out.size mv4⟩, Lib.hid (hO.out.chain HMV.out o4)⟩
        case measure => simp [intOf]; omega
    · obtain rfl : k = 4 * p := by omega
      go_wp2_with fail
      go_ret
      refine ⟨4 * p, rwk, Nat.le_refl _, .inl ⟨rfl, HLF.out, rfl⟩, ?_, ?_, ((OuterX.refl (DkX g gn rw) w).then hb2 (Nat.le_refl _)).chain (.inl rfl) hO.out⟩
      · rw [← HWE.out, ← HWS.out, show decide (4 * p = 4 * p) = true from decide_eq_true rfl]
        exact D3.out.wider D3.out.NN (Nat.le_refl _)
      · rcases HMV.out with e | ⟨q', e, hq'⟩
        · exact .inl e
        · exact .inr ⟨q', e, by have := hb2.size; omega⟩
end
end Go.Proofs.Ytmmkmpjhmbocfaa

namespace Go.Proofs.Ytmmkmpjhmbocfaa
open Go.RowKit CrcM PageM SupM
set_option linter.unusedVariables false
section
variable {w w' : World} {B N g gs gn L cs cn : Nat} {rw : Value} {st nw : List UInt8} {ws : List (Nat × List UInt8)} {on : Bool} {left : Int}

theorem WroteX.num {a n : Nat} {W : List UInt8} {e : Ending} (h : WroteX w w' B g gs gn rw L cs cn st nw ws left a W n e) : ∃ z : Int, e = .returned (.int .i64 z) := by
  obtain ⟨k, rw', _, h2, _⟩ := h
  rcases h2 with ⟨_, _, e⟩ | ⟨_, _, e⟩
  · exact ⟨0, e⟩
  · exact ⟨2, e⟩
theorem WroteX.of_below {w1 : World} {a n : Nat} {W : List UInt8} {e : Ending} (hb : Below w.heap.size w w1) (h : WroteX w1 w' B g gs gn rw L cs cn st nw ws left a W n e) : WroteX w w' B g gs gn rw L cs cn st nw ws left a W n e := by
  obtain ⟨k, rw', h1, h2, h3, h4, h5⟩ := h
  refine ⟨k, rw', h1, h2, h3, ?_, h5.of_moved hb⟩
  rcases h4 with e | ⟨q', e, hq'⟩
  · exact .inl e
  · exact .inr ⟨q', e, Nat.le_trans hb.size hq'⟩
theorem writeRaw_page_x (h : Dk w B N g gs gn rw L cs cn st nw ws true left) (hl1 : -1 ≤ left) (hlm : left ≤ 1000000) (hws : ws.length ≤ 500) (za : Int) (a : Nat) (hza : za = (a : Int)) (hin : 256 * a + 256 ≤ L) (A : Option Addr) (c : Nat) (bs : List UInt8) (hx : BytesAt w A bs) (hbl : bs.length = 256) :
    Calls Try.prog 35 #[.pointer (some ⟨g, 0, none⟩), .int .i64 za, .slice A 256 c] w fun e w' => WroteX w w' B g gs gn rw L cs cn st nw ws left a bs 4 e := by
  have hh := h.hi
  refine (writeRaw_x h hl1 hlm hws za a 256 hza (.inr ⟨hin, by omega⟩) (by omega) (by omega) (by omega) A c bs hx hbl 1 rfl (by omega)).mono fun e w' h0 => ?_
  simpa using h0

set_option maxHeartbeats 1000000 in
set_option maxRecDepth 100000 in
theorem pwrite_x (h : Dk w B N g gs gn rw L cs cn st nw ws true left) (hl1 : -1 ≤ left) (hlm : left ≤ 1000000) (hws : ws.length ≤ 500) (k : UInt8) (m gg : Nat) (b : List UInt8) (hk : isK k = true) (hm : m < 512) (hg : gg < 18446744073709551616) (hb : b.length ≤ 238) (hmL : 256 * m + 256 ≤ L) (A : Option Addr) (c : Nat) (hx : BytesAt w A b) (hbc : b.length ≤ c) (C : Array Value) (eC : C = cellsC ⟨k, (m : Int), gg, b⟩ A c) :
    Calls Try.prog 31 #[.agg tab, .pointer (some ⟨g, 0, none⟩), .agg C] w fun e w' => WroteX w w' B g gs gn rw L cs cn st nw ws left m (putP ⟨k, (m : Int), gg, b⟩) 4 e := by
  obtain ⟨PP, eP⟩ : ∃ PP, PP = putP ⟨k, (m : Int), gg, b⟩ := ⟨_, rfl⟩
  have HK := Lib.hid hk
  have HPL : Hid (PP.length = 256) := Lib.hid (by rw [eP]; exact length_putP _ hb)
  have hC1 : C.all (·.oneCell') = true := by rw [eC]; simp [cellsC, Value.oneCell']
  have hC4 : C.size = 4 := by rw [eC]; rfl
  have hCm : C[1]? = some (.int .i64 (m : Int)) := by rw [eC]; rfl
  have h1 := Lib.hid hC1
  have h4 := Lib.hid hC4
  have HM := Lib.hid hCm
  rw [← eP]
  have EP := Lib.hid eP
  have EC := Lib.hid eC
  have HX := Lib.hid hx
  have H := Lib.hid h
  have HML := Lib.hid hmL
  have hb1 : Below w.heap.size w ((w.alloc (.cells tab 61)).alloc (.cells C 66)) := ((Below.refl _ _).alloc (Nat.le_refl _) _).alloc (by simp) _
  have D1 := Lib.hid (h.below hb1)
  have ht0 : ((w.alloc (.cells tab 61)).alloc (.cells C 66)).heap[w.heap.size]? = some (.cells tab 61 (0, 0)) := heap_alloc2_old _ _ _
  have hr0 : ((w.alloc (.cells tab 61)).alloc (.cells C 66)).heap[w.heap.size + 1]? = some (.cells C 66 (0, 0)) := heap_alloc2_new _ _ _
  have hsz : ((w.alloc (.cells tab 61)).alloc (.cells C 66)).heap.size = w.heap.size + 2 := by simp
  have HX1 := Lib.hid (hx.below hb1)
  have HB1 := Lib.hid hb1
  have HT0 := Lib.hid ht0
  have HR0 := Lib.hid hr0
  have HSZ := Lib.hid hsz
  clear hk eC eP hC1 hC4 hCm hx h hmL hb1 ht0 hr0 hsz
  go_enter Try.func31, Try.ntmps31
  go_wp2_with (first
    | (go_at_call 60; (refine (ready_on D1.out).mono ?_); rintro e w1 ⟨rfl, rfl⟩)
    | (refine wpList_load_row rfl 61 (.tmp 3) rfl w.heap.size rfl 61 tab (0, 0) _ HT0.out Try.underlying61 rfl (by rw [size_tab]; exact info64) ?_)
    | (refine wpList_load_row rfl 66 (.tmp 5) rfl (w.heap.size + 1) rfl 66 C (0, 0) _ HR0.out Try.underlying66 rfl (by rw [h4.out]; exact size_page) ?_)
    | (go_at_call 61; (refine (put_okB k m gg b PP EP.out HK.out hm hg hb A c _ HX1.out hbc C EC.out).mono ?_); rintro e w2 ⟨q, rfl, hq, hb2⟩; have HQ := Lib.hid hq; clear hq; have D2 := Lib.hid (D1.out.below hb2); have hr2 := (hb2.block (w.heap.size + 1) (by rw [HSZ.out]; omega)).trans HR0.out; have k1 := (cell_of_row w2 (w.heap.size + 1) 1 _ _ _ hr2).trans HM.out; clear hr2)
    | (go_at_call 35; (refine (writeRaw_page_x D2.out hl1 hlm hws _ m rfl HML.out _ _ PP HQ.out HPL.out).mono ?_); rintro e w3 hw3; have HW3 := Lib.hid hw3; obtain ⟨z3, hz3⟩ := hw3.num; have HZ3 := Lib.hid hz3; rw [hz3]; clear hw3 hz3))
  go_ret
  have hbw : Below w.heap.size w w2 := HB1.out.trans (hb2.mono (by rw [HSZ.out]; omega))
  have h3 := HW3.out.of_below hbw
  rw [HZ3.out] at h3
  exact h3

set_option maxHeartbeats 2000000 in
set_option maxRecDepth 100000 in
theorem swrite_x (h : Dk w B N g gs gn rw L cs cn st nw ws true left) (hl1 : -1 ≤ left) (hlm : left ≤ 1000000) (hws : ws.length ≤ 500) (s : Sup) (hs : okS s) (hgen : s.gen < 18446744073709551616) (C : Array Value) (eC : C = supC s) :
    Calls Try.prog 46 #[.agg tab, .pointer (some ⟨g, 0, none⟩), .agg C] w fun e w' => WroteX w w' B g gs gn rw L cs cn st nw ws left (s.gen % 2) (putP ⟨83, ((s.gen % 2 : Nat) : Int), s.gen, supB s⟩) 4 e := by
  obtain ⟨m, hm⟩ : ∃ m, m = s.gen % 2 := ⟨_, rfl⟩
  have hm2 : m < 2 := by omega
  have hlo := h.lo
  have hmL : 256 * m + 256 ≤ L := by omega
  have HML := Lib.hid hmL
  obtain ⟨PP, eP⟩ : ∃ PP, PP = putP ⟨83, (m : Int), s.gen, supB s⟩ := ⟨_, rfl⟩
  rw [← hm, ← eP]
  have h5 : Hid (some 5 = some C.size) := Lib.hid (by rw [eC]; rfl)
  have HPT : Hid (∀ W, Calls Try.prog 39 #[.agg C] W fun e w' => ∃ q, e = .returned (.tuple #[.slice (some ⟨q, 0, none⟩) 15 15, .int .i64 0]) ∧ OwnB w' W.heap.size q 15 5 (supB s) ∧ Below W.heap.size W w') := Lib.hid (fun W => sput_ok s hs hgen W C eC)
  have HPL : Hid (∀ W, Calls Try.prog 67 #[.int .u64 (s.gen : Int)] W fun e w' => e = .returned (.int .i64 (m : Int)) ∧ Below W.heap.size W w') := Lib.hid (fun W => by rw [hm]; exact place_suB s.gen W)
  have hC0 : C[0]? = some (.int .u64 (s.gen : Int)) := by rw [eC]; rfl
  have HC0 := Lib.hid hC0
  have EP := Lib.hid eP
  have HM := Lib.hid hm
  have hb1 : Below w.heap.size w ((w.alloc (.cells tab 61)).alloc (.cells C 82)) := ((Below.refl _ _).alloc (Nat.le_refl _) _).alloc (by simp) _
  have D1 := Lib.hid (h.below hb1)
  have HT0 : Hid (((w.alloc (.cells tab 61)).alloc (.cells C 82)).heap[w.heap.size]? = some (.cells tab 61 (0, 0))) := Lib.hid (heap_alloc2_old _ _ _)
  have HR0 : Hid (((w.alloc (.cells tab 61)).alloc (.cells C 82)).heap[w.heap.size + 1]? = some (.cells C 82 (0, 0))) := Lib.hid (heap_alloc2_new _ _ _)
  have HSZ : Hid (((w.alloc (.cells tab 61)).alloc (.cells C 82)).heap.size = w.heap.size + 2) := Lib.hid (by simp)
  have HB1 := Lib.hid hb1
  have H := Lib.hid h
  clear h eC eP hm hs hC0 hb1
  go_enter Try.func46, Try.ntmps46
  go_upto_region 6 with (first
    | (go_at_call 16; (refine (on_any D1.out).mono ?_); rintro e w1 ⟨rfl, rfl⟩)
    | (refine wpList_load_row rfl 82 (.tmp 5) rfl (w.heap.size + 1) rfl 82 C (0, 0) _ HR0.out Try.underlying82 rfl (infoSup.trans h5.out) ?_)
    | (go_at_call 39; (refine (HPT.out _).mono ?_); rintro e w2 ⟨q, rfl, ho2, hb2⟩; have HO2 := Lib.hid ho2; clear ho2))
  have hs2 := hb2.size
  rw [HSZ.out] at hs2
  have HT2 := (hb2.block w.heap.size (by rw [HSZ.out]; omega)).trans HT0.out
  have HR2 := (hb2.block (w.heap.size + 1) (by rw [HSZ.out]; omega)).trans HR0.out
  have D2 := Lib.hid (D1.out.below hb2)
  have hbw : Below w.heap.size w w2 := HB1.out.trans (hb2.mono (by rw [HSZ.out]; omega))
  have f0 : Hid (∀ y : SubW w2.heap.size w2, y.at_.heap[w.heap.size]? = some (.cells tab 61 (0, 0))) := fun y => (y.ok_.block _ (by omega)).trans HT2
  have f1 : ∀ y : SubW w2.heap.size w2, y.at_.cell? ⟨w.heap.size + 1, 0, none⟩ = some (.int .u64 (s.gen : Int)) := fun y => (cell_of_row _ _ 0 _ _ _ ((y.ok_.block _ (by omega)).trans HR2)).trans HC0.out
  clear HT2 HR2 hb2 HT0 HR0 HB1 D1
  refine region_below_tail 9 w2.heap.size w2 (Below.refl _ _) (by kernel_rfl) (by kernel_rfl) ?_
  simp only [List.take_succ_cons, List.take_zero, List.drop_succ_cons, List.drop_zero]
  repeat (first
    | (go_big_quiet_want; refine quiet_load_row 61 (.tmp 3) rfl w.heap.size rfl 61 tab (0, 0) _ f0.out Try.underlying61 rfl (by rw [size_tab]; exact info64) ?_; simp only [Act.put, List.setIfInBounds_toArray, List.set_cons_zero, List.set_cons_succ]; go_big_quiet_on)
    | go_big_quiet_step ((go_at_call 67; exact calls_sub (Nat.le_refl _) (HPL.out _))))
  refine wpQuiet_nil ?_
  rintro w' ⟨y, rfl⟩
  have D3 := Lib.hid (D2.out.below y.ok_)
  have HX3 : Hid (BytesAt y.at_ (some ⟨q, 0, none⟩) (supB s)) := Lib.hid (HO2.out.bytes.below y.ok_)
  have hby : Below w.heap.size w y.at_ := hbw.trans (y.ok_.mono hbw.size)
  clear f0 f1
  go_wp2_with (go_at_call 31; (refine (pwrite_x D3.out hl1 hlm hws 83 m s.gen (supB s) rfl (by omega) hgen (by rw [length_supB]; omega) HML.out (some ⟨q, 0, none⟩) 15 HX3.out (by rw [length_supB]; omega) _ (by unfold cellsC; rw [length_supB]; rfl)).mono ?_); rintro e w5 hw5; have HW5 := Lib.hid hw5; obtain ⟨z5, hz5⟩ := hw5.num; have HZ5 := Lib.hid hz5; rw [hz5]; clear hw5 hz5)
  go_ret
  have h3 := HW5.out.of_below hby
  rw [HZ5.out, ← EP.out] at h3
  exact h3
end
end Go.Proofs.Ytmmkmpjhmbocfaa

namespace Go.Proofs.Ytmmkmpjhmbocfaa
open Go.RowKit
set_option linter.unusedVariables false

def FlX (g gs : Nat) (k : Nat) : Prop := k = g ∨ k = gs
def CrX (g gs gn : Nat) (k : Nat) : Prop := k = g ∨ k = gs ∨ k = gn
theorem cell_outerX {X : Nat → Prop} {w w' : World} {b i : Nat} {v : Value} (h : w.cell? ⟨b, i, none⟩ = some v) (ho : OuterX X w w') (hb : ¬ X b) : w'.cell? ⟨b, i, none⟩ = some v :=
  (World.cell?_of_block (a := ⟨b, i, none⟩) (ho.block b (World.block_lt_of_cell? _ _ h) hb)).trans h

section
variable {w w' : World} {B N g gs gn L cs cn : Nat} {rw : Value} {st nw : List UInt8} {ws : List (Nat × List UInt8)} {on : Bool} {left : Int}

set_option maxHeartbeats 2000000 in
set_option maxRecDepth 100000 in
theorem flush_x (h : Dk w B N g gs gn rw L cs cn st nw ws true left) (hne : left ≠ 0) (hl1 : -1 ≤ left) (hlm : left ≤ 9223372036854775807) (l' : Int) (hl' : stepped left = l') (hws : ws.length ≤ 1000) :
    Calls Try.prog 15 #[.pointer (some ⟨g, 0, none⟩)] w fun e w' => e = .returned (.int .i64 0) ∧
      Dk w' B w'.heap.size g gs gn (.slice none 0 0) L cs cn (flushN st ws ws.length) nw [] true l' ∧ OuterX (FlX g gs) w w' := by
  obtain ⟨Aw, cw, hrw⟩ := h.rows
  have H := Lib.hid h
  have HL := Lib.hid hl'
  have HRW := Lib.hid hrw
  clear h hrw hl'
  obtain ⟨n, hn⟩ : ∃ n, n = ws.length := ⟨_, rfl⟩
  rw [← hn] at hws
  have HN := Lib.hid hn
  clear hn
  go_enter Try.func15, Try.ntmps15
  go_wp2_with (first
    | (go_at_call 49; refine (refused_on H.out).mono ?_; rintro e w1 ⟨rfl, rfl⟩)
    | (go_at_call 55; refine (step_yes H.out hne hl1 hlm l' HL.out).mono ?_; rintro e w1 ⟨rfl, h1, hg1, hz1⟩; have H1 := Lib.hid h1; have HG1 := Lib.hid hg1; have c2 := blk_cell h1.head 2 _ rfl; rw [HRW.out, ← HN.out] at c2; clear h1 hz1 hg1))
  have O1 : Hid (OuterX (FlX g gs) w w1) := Lib.hid ((OuterX.refl _ w).grown HG1.out (fun k hk => .inl (.inl (by injection hk with hk; exact hk.symm))))
  go_loopw [19] (fun i wr => ∃ k : Nat, k ≤ n ∧ i = .int .i64 k ∧ Hid (Dk wr B N g gs gn rw L cs cn (flushN st ws k) nw ws true l') ∧ Hid (OuterX (FlX g gs) w wr)) (fun i _ => n - (intOf i).toNat)
  case atStart => exact ⟨0, by omega, rfl, H1, O1⟩
  case round =>
    obtain ⟨k, hk, rfl, hr, hO⟩ := hrel
    by_cases hlt : k < n
    · obtain ⟨p, hp⟩ : ∃ p, ws[k]? = some p := ⟨_, List.getElem?_eq_getElem (by have := HN.out; omega)⟩
      obtain ⟨gw, cw', hv, hnc2, hcm2, hgw, hrange⟩ := hr.out.wr k p hp
      have hv2 := HRW.out
      rw [hv] at hv2
      injection hv2 with hv2 _ hv3
      subst hv2 hv3
      have hfit := hr.out.fit p (List.mem_of_getElem? hp)
      have h65 : (wrC p).length = 65 := by simp [wrC, hfit.1]
      unfold maxLen at hcm2
      have hncw : n ≤ cw' := by have := HN.out; omega
      have HP := Lib.hid hp
      have HFIT := Lib.hid hfit
      have hone := wrC_one p
      obtain ⟨C, hC⟩ : ∃ C, C = wrC p := ⟨_, rfl⟩
      rw [← hC] at hrange h65 hone
      have HC := Lib.hid hC
      have HR := Lib.hid hrange
      have s1 : Hid ((Try.prog.info? 106).map (·.size) = some C.length) := Lib.hid (by rw [h65]; kernel_rfl)
      have s2 : Hid ((Try.prog.info? 106).map (·.size) = some C.toArray.size) := Lib.hid (by rw [List.size_toArray, h65]; kernel_rfl)
      have s3 : Hid (Try.zeroCells106.size = C.toArray.size) := Lib.hid (by rw [show C.toArray.size = 65 by rw [List.size_toArray]; exact h65]; kernel_rfl)
      have s4 : Hid (C.toArray.all (·.oneCell') = true) := Lib.hid (by simpa using hone)
      clear hp hfit hC hrange h65 hone hv
      go_upto_region 9 with (first
        | (with_reducible refine wpList_load_mid rfl 106 _ rfl gw (k * 65) rfl C _ HR.out Try.underlying106 rfl s1.out ?_)
        | (refine wpList_store_row rfl 106 (.tmp 5) (.tmp 22) rfl wr.heap.size C.toArray rfl rfl 106 Try.zeroCells106 (heap_alloc_new _ _) s2.out s3.out s4.out ?_; rw [World.setRow_alloc_new]))
      have D1 := Lib.hid (hr.out.below ((Below.refl wr.heap.size wr).alloc (Nat.le_refl _) (.cells C.toArray 106)))
      have O2 := Lib.hid (hO.out.alloc (.cells C.toArray 106))
      have hq : (wr.alloc (.cells C.toArray 106)).heap[wr.heap.size]? = some (.cells C.toArray 106 (0, 0)) := heap_alloc_new _ _
      have hNq : N ≤ wr.heap.size := hr.out.NN
      generalize wr.alloc (.cells C.toArray 106) = W1 at *
      generalize wr.heap.size = q at *
      have HQ := Lib.hid hq
      clear hq c2 s1 s2 s3 s4 HR
      have e0 := blk_cell D1.out.head 0 _ rfl
      have e3 : W1.cell? ⟨q, 0, none⟩ = some (.int .i64 (p.1 : Int)) := blk_cell HQ.out 0 _ (by rw [HC.out]; rfl)
      have l0 := World.block_lt_of_cell? _ _ e0
      have l3 := World.block_lt_of_cell? _ _ e3
      have g0 : ∀ y : SubW W1.heap.size W1, y.at_.cell? ⟨g, 0, none⟩ = some _ := fun y => (World.cell?_of_block (a := ⟨g, 0, none⟩) (y.ok_.block _ l0)).trans e0
      have g3 : ∀ y : SubW W1.heap.size W1, y.at_.cell? ⟨q, 0, none⟩ = some _ := fun y => (World.cell?_of_block (a := ⟨q, 0, none⟩) (y.ok_.block _ l3)).trans e3
      obtain ⟨hBs, hcs, hcsm, _⟩ := D1.out.stay.parts
      rw [D1.out.lst] at hcs
      have hLh := D1.out.hi
      have hfi : 64 * p.1 + 64 ≤ L := HFIT.out.2
      refine region_below_tail 9 W1.heap.size W1 (Below.refl _ _) (by kernel_rfl) (by kernel_rfl) ?_
      simp only [List.take_succ_cons, List.take_zero, List.drop_succ_cons, List.drop_zero, Act.put]
      repeat (go_big_quiet_step ((go_at_call 51; exact calls_sub (Nat.le_refl _) ((sector_any gs cs p.1 hfi hLh hcs hcsm _ rfl).mono fun e w' ⟨h1, h2⟩ => ⟨h1, h2 ▸ Below.refl _ _⟩))))
      refine wpQuiet_nil ?_
      rintro w' ⟨y, rfl⟩
      clear g0 g3
      have hS : (flushN st ws k).length = L := D1.out.lst
      have hoy : OwnB y.at_ B gs cs 5 ((flushN st ws k).take (64 * p.1) ++ (flushN st ws k).drop (64 * p.1)) := by
        rw [List.take_append_drop]
        exact D1.out.stay.keep (y.ok_.block gs D1.out.stay.lt)
      have hpre : 64 * p.1 = ((flushN st ws k).take (64 * p.1)).length := by rw [List.length_take, hS]; omega
      have hft : 64 ≤ ((flushN st ws k).drop (64 * p.1)).length := by rw [List.length_drop, hS]; omega
      have hqy : y.at_.heap[q]? = some (.cells C.toArray 106 (0, 0)) := (y.ok_.block q l3).trans HQ.out
      have hxq : BytesAt y.at_ (some ⟨q, 1, none⟩) p.2 := fun _ => ⟨q, 1, rfl, fun j hj => by
        refine blk_cell hqy (1 + j) _ ?_
        rw [HC.out, Nat.add_comm 1 j]
        simp [wrC, hj, bv]⟩
      have K1 := Lib.hid hoy
      have K2 := Lib.hid hpre
      have K3 := Lib.hid hft
      have K4 := Lib.hid hxq
      have K5 := Lib.hid hS
      have K6 : Hid ((Try.prog.info? 5).map (·.size) = some 1) := Lib.hid (by kernel_rfl)
      have K7 := Lib.hid HFIT.out.1
      clear hoy hpre hft hxq hS hqy
      go_wp2_with ((with_reducible refine wpList_copy_bytes rfl (.tmp 29) (.tmp 31) 27 27 rfl 5 Try.underlying27 K6.out B gs cs (64 * p.1) 64 (cs - 64 * p.1) (some ⟨q, 1, none⟩) 64 64 ((flushN st ws k).take (64 * p.1)) ((flushN st ws k).drop (64 * p.1)) p.2 rfl rfl K2.out K1.out K4.out K7.out (Nat.le_refl _) K3.out ?_); intro w6 ho6 hg6)
      go_roundw
      case rel =>
        refine ⟨k + 1, by omega, by go_num, Lib.hid ?_, Lib.hid ?_⟩
        · rw [flushN_succ HP.out]
          refine (D1.out.below y.ok_).setStay hg6 ho6 ?_
          rw [length_putAt (by rw [K5.out]; exact hfi) K7.out, K5.out]
        · exact (O2.out.then y.ok_ O2.out.size).grown hg6 (fun k hk => .inl (.inr (by injection hk with hk; exact hk.symm)))
      case measure => simp [intOf]; omega
    · obtain rfl : k = n := by omega
      have k2 := blk_cell hr.out.head 2 _ rfl
      have z2 : wr.frozen? ⟨g, 2, none⟩ = false := by simp [World.frozen?, hr.out.head]
      go_wp2_with fail
      go_ret
      have hr2 := hr.out.noWait
      refine ⟨rfl, ?_, hO.out.grown (grown_setC (World.grownBy.refl wr (some g)) 2 _) (fun k hk => .inl (.inl (by injection hk with hk; exact hk.symm)))⟩
      rw [← HN.out]
      exact hr2.wider hr2.NN (Nat.le_refl _)

set_option maxHeartbeats 2000000 in
set_option maxRecDepth 100000 in
theorem crash_x (h : Dk w B N g gs gn rw L cs cn st nw ws on left) (hws : ws.length ≤ 1000) (A : Option Addr) (nf c : Nat) (fs : List (Bool × Nat)) (hnf : fs.length = nf) (hnfm : nf ≤ 1000) (hnc : nf ≤ c) (hcm : c ≤ maxLen)
    (hf : ∀ (j : Nat) (p : Bool × Nat), fs[j]? = some p → ∃ b off, A = some ⟨b, off, none⟩ ∧ w.cell? ⟨b, off + j * 2, none⟩ = some (.bool p.1) ∧ w.cell? ⟨b, off + j * 2 + 1, none⟩ = some (.int .u8 (p.2 : Int)) ∧ p.2 < 256)
    (hA : ∀ a, A = some a → ¬ CrX g gs gn a.block) :
    Calls Try.prog 11 #[.pointer (some ⟨g, 0, none⟩), .slice A nf c] w fun e w' => e = .returned (.tuple #[]) ∧
      Dk w' B w'.heap.size g gs gn (.slice none 0 0) L cs cn (crashN st ws fs ws.length) (crashN st ws fs ws.length) [] true (-1) ∧ OuterX (CrX g gs gn) w w' := by
  obtain ⟨Aw, cw, hrw⟩ := h.rows
  unfold maxLen at hcm
  have H := Lib.hid h
  have HF := Lib.hid hf
  have HNF := Lib.hid hnf
  have c2 := blk_cell h.head 2 _ rfl
  rw [hrw] at c2
  have HRW := Lib.hid hrw
  clear h hf hnf hrw
  obtain ⟨n, hn⟩ : ∃ n, n = ws.length := ⟨_, rfl⟩
  rw [← hn] at c2 hws
  have HN := Lib.hid hn
  clear hn
  go_enter Try.func11, Try.ntmps11
  go_wp2_with fail
  go_loopw [13] (fun i wr => ∃ k : Nat, k ≤ n ∧ i = .int .i64 k ∧ Hid (Dk wr B N g gs gn rw L cs cn (crashN st ws fs k) nw ws on left) ∧ Hid (OuterX (CrX g gs gn) w wr)) (fun i _ => n - (intOf i).toNat)
  case atStart => exact ⟨0, by omega, rfl, H, Lib.hid (OuterX.refl _ w)⟩
  case round =>
    obtain ⟨k, hk, rfl, hr, hO⟩ := hrel
    by_cases hlt : k < n
    · obtain ⟨p, hp⟩ : ∃ p, ws[k]? = some p := ⟨_, List.getElem?_eq_getElem (by have := HN.out; omega)⟩
      obtain ⟨gw, cw', hv, hnc2, hcm2, hgw, hrange⟩ := hr.out.wr k p hp
      have hv2 := HRW.out
      rw [hv] at hv2
      injection hv2 with hv2 _ hv3
      subst hv2 hv3
      have hfit := hr.out.fit p (List.mem_of_getElem? hp)
      have h65 : (wrC p).length = 65 := by simp [wrC, hfit.1]
      unfold maxLen at hcm2
      have hncw : n ≤ cw' := by have := HN.out; omega
      have HP := Lib.hid hp
      have HFIT := Lib.hid hfit
      have hone := wrC_one p
      obtain ⟨C, hC⟩ : ∃ C, C = wrC p := ⟨_, rfl⟩
      rw [← hC] at hrange h65 hone
      have HC := Lib.hid hC
      have HR := Lib.hid hrange
      have s1 : Hid ((Try.prog.info? 106).map (·.size) = some C.length) := Lib.hid (by rw [h65]; kernel_rfl)
      have s2 : Hid ((Try.prog.info? 106).map (·.size) = some C.toArray.size) := Lib.hid (by rw [List.size_toArray, h65]; kernel_rfl)
      have s3 : Hid (Try.zeroCells106.size = C.toArray.size) := Lib.hid (by rw [show C.toArray.size = 65 by rw [List.size_toArray]; exact h65]; kernel_rfl)
      have s4 : Hid (C.toArray.all (·.oneCell') = true) := Lib.hid (by simpa using hone)
      clear hp hfit hC hrange h65 hone hv
      go_upto_region 4 with (first
        | (with_reducible refine wpList_load_mid rfl 106 _ rfl gw (k * 65) rfl C _ HR.out Try.underlying106 rfl s1.out ?_)
        | (refine wpList_store_row rfl 106 (.tmp 5) (.tmp 17) rfl wr.heap.size C.toArray rfl rfl 106 Try.zeroCells106 (heap_alloc_new _ _) s2.out s3.out s4.out ?_; rw [World.setRow_alloc_new]))
      have H1 := Lib.hid (hr.out.below ((Below.refl wr.heap.size wr).alloc (Nat.le_refl _) (.cells C.toArray 106)))
      have O1 := Lib.hid (hO.out.alloc (.cells C.toArray 106))
      have hq : (wr.alloc (.cells C.toArray 106)).heap[wr.heap.size]? = some (.cells C.toArray 106 (0, 0)) := heap_alloc_new _ _
      have hNq : N ≤ wr.heap.size := hr.out.NN
      generalize wr.alloc (.cells C.toArray 106) = W1 at *
      generalize wr.heap.size = q at *
      have HQ := Lib.hid hq
      clear hq c2 s1 s2 s3 s4 HR
      cases hfk : fs[k]? with
      | none =>
        have hkn : nf ≤ k := by have := List.getElem?_eq_none_iff.1 hfk; have := HNF.out; omega
        have hcr : crashN st ws fs (k + 1) = crashN st ws fs k := by rw [crashN_succ HP.out, hfk]; rfl
        have HCR := Lib.hid hcr
        clear hfk hcr
        go_wp2_with fail
        go_roundw
        case rel => exact ⟨k + 1, by omega, by go_num, by rw [HCR.out]; exact H1, O1⟩
        case measure => simp [intOf]; omega
      | some f =>
        obtain ⟨bb, a⟩ := f
        obtain ⟨b, off, rfl, f1, f2, ha⟩ := HF.out k (bb, a) hfk
        have hkn : k < nf := by have := (List.getElem?_eq_some_iff.1 hfk).1; have := HNF.out; omega
        have hbo := hA _ rfl
        have e1 := cell_outerX f1 O1.out hbo
        have e2 := cell_outerX f2 O1.out hbo
        cases bb with
        | false =>
          have hcr : crashN st ws fs (k + 1) = crashN st ws fs k := by rw [crashN_succ HP.out, hfk]; rfl
          have HCR := Lib.hid hcr
          clear hfk hcr f1 f2
          go_wp2_with fail
          go_roundw
          case rel => exact ⟨k + 1, by omega, by go_num, by rw [HCR.out]; exact H1, O1⟩
          case measure => simp [intOf]; omega
        | true =>
          have hcr : crashN st ws fs (k + 1) = (crashN st ws fs k).take (64 * p.1) ++ keepN a (((crashN st ws fs k).drop (64 * p.1)).take 64) p.2 8 ++ ((crashN st ws fs k).drop (64 * p.1)).drop 64 := by rw [crashN_succ HP.out, hfk]; rfl
          have HCR := Lib.hid hcr
          clear hfk hcr f1 f2
          go_upto_region 5 with fail
          have e0 := blk_cell H1.out.head 0 _ rfl
          have e3 : W1.cell? ⟨q, 0, none⟩ = some (.int .i64 (p.1 : Int)) := blk_cell HQ.out 0 _ (by rw [HC.out]; rfl)
          have l0 := World.block_lt_of_cell? _ _ e0
          have l2 := World.block_lt_of_cell? _ _ e2
          have l3 := World.block_lt_of_cell? _ _ e3
          have g0 : ∀ y : SubW W1.heap.size W1, y.at_.cell? ⟨g, 0, none⟩ = some _ := fun y => (World.cell?_of_block (a := ⟨g, 0, none⟩) (y.ok_.block _ l0)).trans e0
          have g2 : ∀ y : SubW W1.heap.size W1, y.at_.cell? ⟨b, off + k * 2 + 1, none⟩ = some _ := fun y => (World.cell?_of_block (a := ⟨b, off + k * 2 + 1, none⟩) (y.ok_.block _ l2)).trans e2
          have g3 : ∀ y : SubW W1.heap.size W1, y.at_.cell? ⟨q, 0, none⟩ = some _ := fun y => (World.cell?_of_block (a := ⟨q, 0, none⟩) (y.ok_.block _ l3)).trans e3
          obtain ⟨hBs, hcs, hcsm, _⟩ := H1.out.stay.parts
          rw [H1.out.lst] at hcs
          have hLh := H1.out.hi
          have hfi : 64 * p.1 + 64 ≤ L := HFIT.out.2
          refine region_below_tail 14 W1.heap.size W1 (Below.refl _ _) (by kernel_rfl) (by kernel_rfl) ?_
          simp only [List.take_succ_cons, List.take_zero, List.drop_succ_cons, List.drop_zero]
          repeat (go_big_quiet_step ((go_at_call 51; exact calls_sub (Nat.le_refl _) ((sector_any gs cs p.1 hfi hLh hcs hcsm _ rfl).mono fun e w' ⟨h1, h2⟩ => ⟨h1, h2 ▸ Below.refl _ _⟩))))
          refine wpQuiet_nil ?_
          rintro w' ⟨y, rfl⟩
          clear g0 g2 g3
          have hS : (crashN st ws fs k).length = L := H1.out.lst
          have hoy : OwnB y.at_ B gs cs 5 ((crashN st ws fs k).take (64 * p.1) ++ ((crashN st ws fs k).drop (64 * p.1)).take 64 ++ ((crashN st ws fs k).drop (64 * p.1)).drop 64) := by
            rw [List.append_assoc, List.take_append_drop, List.take_append_drop]
            exact H1.out.stay.keep (y.ok_.block gs H1.out.stay.lt)
          have hpre : 64 * p.1 = ((crashN st ws fs k).take (64 * p.1)).length := by rw [List.length_take, hS]; omega
          have hmid : (((crashN st ws fs k).drop (64 * p.1)).take 64).length = 64 := by rw [List.length_take, List.length_drop, hS]; omega
          have hqy : y.at_.heap[q]? = some (.cells C.toArray 106 (0, 0)) := (y.ok_.block q l3).trans HQ.out
          have hxq : BytesAt y.at_ (some ⟨q, 1, none⟩) p.2 := fun _ => ⟨q, 1, rfl, fun j hj => by
            refine blk_cell hqy (1 + j) _ ?_
            rw [HC.out, Nat.add_comm 1 j]
            simp [wrC, hj, bv]⟩
          have hqg : q ≠ gs := by have := H1.out.sN; omega
          have m1 : 64 ≤ cs - 64 * p.1 := by omega
          have m2 : cs - 64 * p.1 ≤ maxLen := by omega
          have K1 := Lib.hid hoy
          have K2 := Lib.hid hpre
          have K3 := Lib.hid hmid
          have K4 := Lib.hid hxq
          have K5 := Lib.hid hS
          clear hoy hpre hmid hxq hS hqy
          go_wp2_with (go_at_call 50; (with_reducible refine (keep_any B gs cs (cs - 64 * p.1) (64 * p.1) _ _ _ p.2 q 0 a ha y.at_ K2.out K1.out K3.out HFIT.out.1 K4.out hqg m1 m2).mono ?_); rintro e w6 ⟨rfl, ho6, hg6⟩)
          go_roundw
          case rel =>
            refine ⟨k + 1, by omega, by go_num, Lib.hid ?_, Lib.hid ?_⟩
            · rw [HCR.out]
              refine (H1.out.below y.ok_).setStay hg6 ho6 ?_
              simp only [List.length_append, List.length_take, List.length_drop, K5.out]
              rw [length_keepN _ _ _ K3.out HFIT.out.1 8 (by omega)]
              omega
            · exact (O1.out.then y.ok_ O1.out.size).grown hg6 (fun k hk => .inl (.inr (.inl (by injection hk with hk; exact hk.symm))))
          case measure => simp [intOf]; omega
    · obtain rfl : k = n := by omega
      have hloopend := hlt
      go_upto_region 7 with fail
      have e0 := blk_cell hr.out.head 0 _ rfl
      have e1 := blk_cell hr.out.head 1 _ rfl
      have l0 := World.block_lt_of_cell? _ _ e0
      have g0 : ∀ y : SubW wr.heap.size wr, y.at_.cell? ⟨g, 0, none⟩ = some _ := fun y => (World.cell?_of_block (a := ⟨g, 0, none⟩) (y.ok_.block _ l0)).trans e0
      have g1 : ∀ y : SubW wr.heap.size wr, y.at_.cell? ⟨g, 1, none⟩ = some _ := fun y => (World.cell?_of_block (a := ⟨g, 1, none⟩) (y.ok_.block _ l0)).trans e1
      refine region_below_tail 8 wr.heap.size wr (Below.refl _ _) (by kernel_rfl) (by kernel_rfl) ?_
      simp only [List.take_succ_cons, List.take_zero, List.drop_succ_cons, List.drop_zero]
      repeat (go_big_quiet_step (fail))
      refine wpQuiet_nil ?_
      rintro w' ⟨y, rfl⟩
      clear g0 g1
      have D1 := Lib.hid (hr.out.below y.ok_)
      have O1 := Lib.hid (hO.out.then y.ok_ hO.out.size)
      have K1 : Hid (OwnB y.at_ B gn cn 5 ([] ++ nw)) := Lib.hid D1.out.now
      have K2 : Hid (BytesAt y.at_ (some ⟨gs, 0, none⟩) (crashN st ws fs k)) := Lib.hid D1.out.stay.bytes
      have K3 : Hid ((crashN st ws fs k).length = L) := Lib.hid D1.out.lst
      have K4 : Hid (L ≤ nw.length) := Lib.hid (by rw [D1.out.lnw]; exact Nat.le_refl _)
      have K5 : Hid (0 = ([] : List UInt8).length) := Lib.hid rfl
      have K6 : Hid ((Try.prog.info? 5).map (·.size) = some 1) := Lib.hid (by kernel_rfl)
      go_upto_region 8 with ((with_reducible refine wpList_copy_bytes rfl (.tmp 48) (.tmp 52) 27 27 rfl 5 Try.underlying27 K6.out B gn cn 0 L cn (some ⟨gs, 0, none⟩) L cs [] nw (crashN st ws fs k) rfl rfl K5.out K1.out K2.out K3.out (Nat.le_refl _) K4.out ?_); intro w6 ho6 hg6)
      have hnil : nw.drop L = [] := List.drop_eq_nil_of_le (by rw [D1.out.lnw]; exact Nat.le_refl _)
      rw [hnil, List.nil_append, List.append_nil] at ho6
      have D6 := Lib.hid (D1.out.setNow hg6 ho6 K3.out)
      have O6 := Lib.hid (O1.out.grown hg6 (fun k hk => .inl (.inr (.inr (by injection hk with hk; exact hk.symm)))))
      have k2 := blk_cell D6.out.head 2 _ rfl
      have k3 := blk_cell D6.out.head 3 _ rfl
      have k4 := blk_cell D6.out.head 4 _ rfl
      have z2 : w6.frozen? ⟨g, 2, none⟩ = false := by simp [World.frozen?, D6.out.head]
      have z3 : w6.frozen? ⟨g, 3, none⟩ = false := by simp [World.frozen?, D6.out.head]
      have z4 : w6.frozen? ⟨g, 4, none⟩ = false := by simp [World.frozen?, D6.out.head]
      clear ho6 hg6 c2 e0 e1
      go_wp2_with fail
      have hr := D6.out.reset
      have hOo : OuterX (CrX g gs gn) w (((w6.setCell ⟨g, 2, none⟩ (.slice none 0 0)).setCell ⟨g, 3, none⟩ (.bool true)).setCell ⟨g, 4, none⟩ (.int .i64 (-1))) :=
        O6.out.grown (grown_setC (grown_setC (grown_setC (World.grownBy.refl w6 (some g)) 2 _) 3 _) 4 _) (fun k hk => .inl (.inl (by injection hk with hk; exact hk.symm)))
      refine bodyPost_end (results_none rfl _ _ _) rfl ⟨rfl, ?_, hOo⟩
      rw [← HN.out]
      exact hr.wider hr.NN (Nat.le_refl _)
end
end Go.Proofs.Ytmmkmpjhmbocfaa

namespace Go.Proofs.Ytmmkmpjhmbocfaa
open Go.RowKit
set_option linter.unusedVariables false
section
variable {P : Program} {w : World} {base g cap : Nat} {E : TypeId} {xs : List UInt8}

theorem zeroCells_u8 (m : Nat) : Builtin.zeroCells #[Value.int .u8 0] m = ((List.replicate m (0 : UInt8)).map bv).toArray := by
  apply Array.ext
  · simp [Builtin.zeroCells]
  · intro i h1 h2
    have hi : i % 1 = 0 := Nat.mod_one i
    simp [Builtin.zeroCells, bv, hi]

theorem run_append_zeros (t tn ty : TypeId) (ht : P.underlying t = some (.slice E)) (k kn : IntKind) (htn : P.underlying tn = some (.int kn)) (hi : (P.info? E).map (fun i => (i.zero, i.size, i.bytes)) = some (some (.int .u8 0), 1, 1))
    (hown : OwnB w base g cap E xs) (m : Nat) (h0 : 0 < m) (hl : xs.length + m ≤ 140737488355328) (hbase : base ≤ w.heap.size) :
    ∃ g' cap' w', (Builtin.append_ #[t, tn] ty #[.slice (some ⟨g, 0, none⟩) xs.length cap, .int k m]).run P w = .ok (.slice (some ⟨g', 0, none⟩) (xs ++ List.replicate m 0).length cap') w' ∧
      OwnB w' base g' cap' E (xs ++ List.replicate m 0) ∧ w.grownBy w' (some g) := by
  obtain ⟨i, hi0, hz, hs, hb⟩ := info_parts hi
  obtain ⟨hbg, hnc, hcm, cur, hg, hcs, htake⟩ := hown.parts
  have hw : IntKind.i64.wrap (m : Int) = m := by rw [IntKind.wrap_i64]; omega
  have hneg : ¬ ((m : Int) < 0) := by omega
  have hbig : ¬ ((281474976710656 : Int) < (m : Int)) := by omega
  have hm0 : ¬ m = 0 := by omega
  by_cases hroom : xs.length + m ≤ cap
  · refine ⟨g, cap, w.setRow g (cur.toList.take xs.length ++ (List.replicate m (0 : UInt8)).map bv ++ cur.toList.drop (xs.length + m)).toArray, ?_, ?_, ⟨rfl, rfl, rfl, by simp, fun k _ hk => setRow_other w g k _ (fun e => hk (by rw [e]))⟩⟩
    · have hst := run_storeCells_at P g xs.length E ((List.replicate m (0 : UInt8)).map bv) 0 cur w hg (by simp; omega) (bv_one _)
      simp only [Nat.add_zero, List.length_map, List.length_replicate] at hst
      simp [Builtin.append_, run_underlying ht, run_underlying htn, sizeOf, typeInfo, zeroValue, hi0, hz, hs, hb, asInt, asIntOf, hw, hneg, hbig, hm0, hroom, Addr.add_lit, zeroCells_u8, Value.cells]
      rw [List.map_replicate] at hst
      rw [hst]
      simp
    · unfold OwnB
      refine ⟨by simp, .inr ⟨g, cap, _, by simp, hbg, setRow_heap w g cur _ E _ hg, by simp; omega, hcm, ?_, ?_⟩⟩
      · simp; omega
      · rw [htake]
        simp
        rw [← List.append_assoc]
        exact List.take_left' (by simp)
  · have hx : xs.map bv = (xs.map bv) := rfl
    have holds : ∀ j u, (xs.map bv)[j]? = some u → w.cell? ((⟨g, 0, none⟩ : Addr).add j) = some u := World.ownsRow.cells (g := g) hown rfl
    have hn : ¬ (xs.length + m ≤ cap) := hroom
    have h63' : ¬ (9223372036854775807 < ((xs.length : Int) + (m : Int))) := by omega
    have h48' : ¬ (281474976710656 < Builtin.nextslicecap (xs.length + m) cap) := by
      have := growslice_fits (need := xs.length + m) (old := cap) (bytes := 1) (by omega) (by omega)
      omega
    have hfo := run_firstCells_some (P := P) w.drew 1 xs.length ⟨g, 0, none⟩ xs.length cap (xs.map bv) (by simp) (by simpa using holds)
    have hge := grownCap_ge w (xs.length + m) cap E
    have hcm2 : grownCap w (xs.length + m) cap E ≤ maxLen := grownCap_le_maxLen w (xs.length + m) cap E (by unfold maxLen; omega)
    refine ⟨w.heap.size, grownCap w (xs.length + m) cap E, w.drew.alloc (.cells ((xs.map bv).toArray ++ ((List.replicate m (0 : UInt8)).map bv).toArray ++ Builtin.zeroCells #[Value.int .u8 0] (grownCap w (xs.length + m) cap E - (xs.length + m))) E), ?_, ?_, ⟨rfl, rfl, rfl, by simp, fun k hk _ => heap_alloc_old w.drew _ hk⟩⟩
    · simp [Builtin.append_, run_underlying ht, run_underlying htn, sizeOf, typeInfo, zeroValue, hi0, hz, hs, hb, asInt, asIntOf, hw, hneg, hbig, hm0, hn, h63', h48', Question.forced, hfo, newRow, grownCap, zeroCells_u8, Value.cells]
    · unfold OwnB
      refine ⟨by simp, .inr ⟨w.heap.size, _, _, by simp, hbase, heap_alloc_new w.drew _, by simpa using hge, hcm2, ?_, ?_⟩⟩
      · simp only [Array.size_append, List.size_toArray, size_zeroCells, List.length_map, List.length_replicate]
        simp
        omega
      · simp only [Array.toList_append, List.append_assoc]
        rw [← List.append_assoc]
        simp
        rw [← List.append_assoc]
        exact List.take_left' (by simp)
end
end Go.Proofs.Ytmmkmpjhmbocfaa

namespace Go.Proofs.Ytmmkmpjhmbocfaa
open Go.ChangeShapes Go.WideShapes Go.ChangeAt Go.RowKit CrcM PageM SupM
set_option linter.unusedVariables false

theorem flushN_left (S : List UInt8) (ws vs : List (Nat × List UInt8)) : ∀ k, k ≤ ws.length → flushN S (ws ++ vs) k = flushN S ws k
  | 0, _ => rfl
  | k + 1, h => by
    have ih := flushN_left S ws vs k (by omega)
    have e1 : (ws ++ vs)[k]? = some (ws[k]'(by omega)) := by rw [List.getElem?_append_left (by omega)]; exact List.getElem?_eq_getElem (by omega)
    have e2 : ws[k]? = some (ws[k]'(by omega)) := List.getElem?_eq_getElem (by omega)
    rw [flushN_succ e1, flushN_succ e2, ih]
theorem flushN_app (S : List UInt8) (ws vs : List (Nat × List UInt8)) : ∀ j, j ≤ vs.length → flushN S (ws ++ vs) (ws.length + j) = flushN (flushN S ws ws.length) vs j
  | 0, _ => flushN_left S ws vs _ (Nat.le_refl _)
  | j + 1, h => by
    have ih := flushN_app S ws vs j (by omega)
    have e1 : (ws ++ vs)[ws.length + j]? = some (vs[j]'(by omega)) := by rw [List.getElem?_append_right (by omega), Nat.add_sub_cancel_left]; exact List.getElem?_eq_getElem (by omega)
    have e2 : vs[j]? = some (vs[j]'(by omega)) := List.getElem?_eq_getElem (by omega)
    rw [← Nat.add_assoc, flushN_succ e1, flushN_succ e2, ih]
theorem secs_get (a : Nat) (W : List UInt8) (n k : Nat) (h : k < n) : (secs a W n)[k]? = some (4 * a + k, (W.drop (64 * k)).take 64) := by
  simp [secs, h]
theorem flush_secs (nw W : List UInt8) (a n : Nat) (h1 : 256 * a + 64 * n ≤ nw.length) (h2 : 64 * n ≤ W.length) : ∀ k, k ≤ n → flushN nw (secs a W n) k = rawN nw (256 * a) W k
  | 0, _ => (rawN_zero _ _ _).symm
  | k + 1, h => by
    rw [flushN_succ (secs_get a W n k (by omega)), flush_secs nw W a n h1 h2 k (by omega)]
    exact rawN_step (by omega) (by omega)
/-- All that waits, written to what is there to stay, is what is read. -/
def synced (st nw : List UInt8) (ws : List (Nat × List UInt8)) : Prop := flushN st ws ws.length = nw
theorem synced.wrote {st nw W : List UInt8} {ws : List (Nat × List UInt8)} (h : synced st nw ws) (a n : Nat) (h1 : 256 * a + 64 * n ≤ nw.length) (h2 : 64 * n ≤ W.length) : synced st (rawN nw (256 * a) W n) (ws ++ secs a W n) := by
  unfold synced at *
  rw [List.length_append, length_secs, flushN_app _ _ _ _ (by rw [length_secs]; exact Nat.le_refl _), h, flush_secs _ _ _ _ h1 h2 _ (Nat.le_refl _)]

section
variable {w w' : World} {B N g gs gn L cs cn : Nat} {rw : Value} {st nw : List UInt8} {ws : List (Nat × List UInt8)} {left : Int}
/-- A WriteRaw where power stays. -/
theorem WroteX.full {a n : Nat} {W : List UInt8} {e : Ending} (h : WroteX w w' B g gs gn rw L cs cn st nw ws (-1) a W n e) :
    e = .returned (.int .i64 0) ∧ ∃ rw', Dk w' B w'.heap.size g gs gn rw' L cs cn st (rawN nw (256 * a) W n) (ws ++ secs a W n) true (-1) ∧ Moved w rw.ownBlock rw'.ownBlock ∧ OuterX (DkX g gn rw) w w' := by
  obtain ⟨k, rw', h1, h2, h3, h4, h5⟩ := h
  rcases h2 with ⟨rfl, _, e⟩ | ⟨_, e, _⟩
  · rw [decide_eq_true rfl] at h3
    exact ⟨e, rw', h3, h4, h5⟩
  · omega
theorem OuterX.keep {k : Nat} (h : OuterX (DkX g gn rw) w w') (hk : k < w.heap.size) (h1 : k ≠ g) (h2 : k ≠ gn) (h3 : rw.ownBlock ≠ some k) : w'.heap[k]? = w.heap[k]? :=
  h.block k hk (fun hx => by
    rcases hx with e | e | e
    · exact h1 e
    · exact h2 e
    · exact h3 e)
theorem Moved.ne {r0 r : Option Nat} {T : Nat} (h : Moved w r0 r) (h0 : r0 ≠ some T) (hT : T < w.heap.size) : r ≠ some T := by
  rcases h with e | ⟨q, e, hq⟩
  · rw [e]; exact h0
  · rw [e]; intro h; injection h with h; omega
end

/-- The generations that SuperTurns writes. -/
def tuS (G i : Nat) : Sup := ⟨G + i, 0, 0, ((2 + i % 10 : Nat) : Int), 16⟩
theorem tuS_ok (G i : Nat) (h : 1 ≤ G) : okS (tuS G i) := by
  unfold okS tuS rootOk
  dsimp only
  omega
def tuP (nw : List UInt8) (G j a : Nat) : Prop := pageOf nw a = List.replicate 256 0 ∨ ∃ i, i < j ∧ (G + i) % 2 = a ∧ pageOf nw a = putP ⟨83, (a : Int), (tuS G i).gen, supB (tuS G i)⟩
theorem tuP_gen {nw : List UInt8} {G j a : Nat} (hG : 1 ≤ G) (hb : G + j < 18446744073709551616) (h : tuP nw G j a) : (stoodS 4096 a (pageOf nw a)).gen < G + j := by
  rcases h with e | ⟨i, h1, h2, e⟩
  · rw [e, stood_zeros]; show 0 < _; omega
  · rw [stood_put 4096 a (tuS G i) (tuS_ok G i hG) (by show G + i < _; omega) h2 rfl _ e]; show G + i < _; omega
theorem tuP_other {nw : List UInt8} {G j a : Nat} (hG : 1 ≤ G) (hb : G + j < 18446744073709551616) (ha : a < 2) (h : tuP nw G j a) : stoodS 4352 a (pageOf nw a) = zeroS := by
  rcases h with e | ⟨i, h1, h2, e⟩
  · rw [e, stood_zeros]
  · exact stood_other 4352 a (tuS G i) (tuS_ok G i hG) (by show G + i < _; omega) (by omega) (by show (16 : Int) ≠ _; decide) _ e

theorem length_PPt (a : Nat) (s : Sup) : (putP ⟨83, (a : Int), s.gen, supB s⟩).length = 256 := length_putP _ (by show (supB s).length ≤ 238; rw [length_supB]; omega)
theorem tuP_wrote {nw : List UInt8} {G j : Nat} (hl : nw.length = 4096) (h : ∀ a, a < 2 → tuP nw G j a) : ∀ a, a < 2 → tuP (rawN nw (256 * ((G + j) % 2)) (putP ⟨83, (((G + j) % 2 : Nat) : Int), (tuS G j).gen, supB (tuS G j)⟩) 4) G (j + 1) a := by
  intro a ha
  by_cases hc : a = (G + j) % 2
  · subst hc
    exact .inr ⟨j, by omega, rfl, page_same (by omega) (length_PPt _ _)⟩
  · unfold tuP
    rw [page_other (by omega) (length_PPt _ _) hc]
    rcases h a ha with e | ⟨i, h1, h2, e⟩
    · exact .inl e
    · exact .inr ⟨i, by omega, h2, e⟩
theorem tu_newest {nw : List UInt8} {G j : Nat} (hG : 1 ≤ G) (hb : G + j < 18446744073709551616) (hl : nw.length = 4096) (h : ∀ a, a < 2 → tuP nw G j a) : newAt 4096 (rawN nw (256 * ((G + j) % 2)) (putP ⟨83, (((G + j) % 2 : Nat) : Int), (tuS G j).gen, supB (tuS G j)⟩) 4) 2 = tuS G j := by
  refine newest_of ((G + j) % 2) (by omega) _ (stood_put 4096 _ (tuS G j) (tuS_ok G j hG) hb rfl rfl _ (page_same (by omega) (length_PPt _ _))) ?_
  rw [page_other (by omega) (length_PPt _ _) (by omega)]
  exact tuP_gen hG hb (h _ (by omega))

theorem page_left {nw z : List UInt8} {a : Nat} (h : 256 * a + 256 ≤ nw.length) : pageOf (nw ++ z) a = pageOf nw a := by
  unfold pageOf
  rw [List.drop_append_of_le_length (by omega), List.take_append_of_le_length (by rw [List.length_drop]; omega)]

structure TuInv (wr : World) (w0 : Nat) (w : World) (B g gs gn cs cn T G j : Nat) (rw : Value) (nw : List UInt8) (ws : List (Nat × List UInt8)) : Prop where
  dk : ∃ N, Dk wr B N g gs gn rw 4096 cs cn (List.replicate 4096 0) nw ws true (-1)
  len : ws.length = 4 * j
  syn : synced (List.replicate 4096 0) nw ws
  own : rw.ownBlock ≠ some T
  tbl : wr.heap[T]? = some (.cells tab 61 (0, 0))
  bel : Below w0 w wr
  pages : ∀ a, a < 2 → tuP nw G j a

set_option maxHeartbeats 4000000 in
set_option maxRecDepth 100000 in
theorem superTurns_walk (z : Int) (wz : (Lit.int .i64 z).wf = true) (y : Int) (wy : (Lit.int .u64 y).wf = true) {w : World} :
    Calls Try.prog 8 #[.int .i64 z, .int .u64 y] w fun e w' => e = .returned (.bool true) ∧ Below w.heap.size w w' := by
  obtain ⟨m, hm, hme⟩ := modN z 20 (by omega) (by omega)
  have HME : Hid (wrap64 ((IntKind.u64.wrap z).tmod 20) = (m : Int)) := Lib.hid hme
  have by_ := bounds_u64 wy
  obtain ⟨f, rfl⟩ := Int.eq_ofNat_of_zero_le by_.1
  clear hme
  go_enter Try.func8, Try.ntmps8
  go_upto_region 3 with (first
    | (go_at_call 20; (refine (new_ok 16 (by omega) (by omega) _).mono ?_); rintro e w1 ⟨g, gs, gn, cs, cn, rfl, d1, hb1⟩; have D1 := Lib.hid d1; clear d1)
    | (go_at_call 29; refine (new_any _).mono ?_; rintro e w2 ⟨rfl, hb2⟩)
    | (refine wpList_store_row rfl 61 (.tmp 7) (.tmp 22) rfl w2.heap.size tab rfl rfl 61 Try.zeroCells61 (heap_alloc_new _ _) (by rw [size_tab]; exact info64) (by rw [size_tab, zero64, size_tabC]) (tab_one _) ?_; rw [World.setRow_alloc_new]))
  obtain ⟨T, hT⟩ : ∃ T, T = w2.heap.size := ⟨_, rfl⟩
  rw [← hT]
  have hs2 := hb2.size
  have hbW : Below w1.heap.size w1 (w2.alloc (.cells tab 61)) := hb2.alloc hb2.size _
  have hd3 := D1.out.below hbW
  have hbw : Below w.heap.size w (w2.alloc (.cells tab 61)) := hb1.trans (hbW.mono hb1.size)
  have ht3 : (w2.alloc (.cells tab 61)).heap[T]? = some (.cells tab 61 (0, 0)) := by rw [hT]; exact heap_alloc_new _ _
  have hsz : (w2.alloc (.cells tab 61)).heap.size = T + 1 := by rw [hT]; simp
  have hgT : g ≠ T ∧ gn ≠ T ∧ gs ≠ T ∧ w.heap.size ≤ T := by
    have h1 := D1.out.gN
    have h2 := D1.out.nN
    have h4 := D1.out.sN
    have h3 := hb1.size
    omega
  obtain ⟨W3, eW⟩ : ∃ W3, W3 = w2.alloc (.cells tab 61) := ⟨_, rfl⟩
  rw [← eW] at hd3 hbw ht3 hsz ⊢
  obtain ⟨B, hB⟩ : ∃ B, B = w.heap.size := ⟨_, rfl⟩
  rw [← hB] at hd3
  have INV0 : Hid (TuInv W3 w.heap.size w B g gs gn cs cn T (f % 1000000 + 1) 0 (.slice none 0 0) (List.replicate 4096 0) []) := Lib.hid
    ⟨⟨_, hd3⟩, rfl, rfl, by simp [Value.ownBlock], ht3, hbw, fun a ha => .inl (page_zeros (by omega))⟩
  clear hd3 ht3 hbw eW hbW hb1 hb2 D1 hs2 hT
  obtain ⟨hgT1, hgT2, hgT4, hgT3⟩ := hgT
  go_upto_region 5 with fail
  rw [HME.out]
  obtain ⟨K, hK⟩ : ∃ K, K = m + 1 := ⟨_, rfl⟩
  have hKw : wrap64 (1 + (m : Int)) = (K : Int) := by unfold wrap64; omega
  rw [hKw]
  obtain ⟨G, hG⟩ : ∃ G, G = f % 1000000 + 1 := ⟨_, rfl⟩
  rw [← hG] at INV0
  have hGi : (f : Int) % 1000000 + 1 = (G : Int) := by omega
  rw [hGi]
  have hG1 : 1 ≤ G := by omega
  have hG2 : G ≤ 1000000 := by omega
  have hK2 : K ≤ 20 := by omega
  clear hKw hGi hG hK HME by_ hm wz wy
  go_wp2_with fail
  go_loopw [10] (fun i wr => ∃ j : Nat, j ≤ K ∧ i = .int .i64 j ∧ Hid (∃ rw nw ws, TuInv wr w.heap.size w B g gs gn cs cn T G j rw nw ws)) (fun i _ => K - (intOf i).toNat)
  case atStart => exact ⟨0, by omega, rfl, Lib.hid ⟨_, _, _, INV0.out⟩⟩
  case round =>
    obtain ⟨j, hj, rfl, hr⟩ := hrel
    obtain ⟨rw, nw, ws, hi⟩ := hr.out
    obtain ⟨N, hd⟩ := hi.dk
    have D := Lib.hid hd
    have HT := Lib.hid hi.tbl
    have HI := Lib.hid hi
    clear hr hi hd INV0
    by_cases hlt : j < K
    · have HGJ : Hid (G + j < 18446744073709551616) := Lib.hid (by omega)
      have HWS : Hid (ws.length ≤ 500) := Lib.hid (by rw [HI.out.len]; omega)
      go_upto_region 9 with (first
        | (refine wpList_load_row rfl 61 (.tmp 7) rfl T rfl 61 tab (0, 0) _ HT.out Try.underlying61 rfl (by rw [size_tab]; exact info64) ?_)
        | (go_at_call 46; (refine (swrite_x D.out (by decide) (by decide) HWS.out (tuS G j) (tuS_ok G j hG1) HGJ.out _ (by unfold supC tuS; simp)).mono ?_); rintro e w4 h4; have H4 := Lib.hid h4.full; clear h4; rw [H4.out.1]))
      obtain ⟨rw4, d4, m4, o4⟩ := H4.out.2
      have hTw : T < wr.heap.size := (Array.getElem?_eq_some_iff.1 HT.out).1
      have ht4 := (o4.keep hTw hgT1.symm hgT2.symm HI.out.own).trans HT.out
      have hl4 : nw.length = 4096 := D.out.lnw
      have hg4 : (tuS G j).gen = G + j := rfl
      rw [hg4] at d4
      obtain ⟨nw4, enw4⟩ : ∃ nw4, nw4 = rawN nw (256 * ((G + j) % 2)) (putP ⟨83, (((G + j) % 2 : Nat) : Int), (tuS G j).gen, supB (tuS G j)⟩) 4 := ⟨_, rfl⟩
      have hnew := tu_newest hG1 HGJ.out hl4 HI.out.pages
      have hpg := tuP_wrote hl4 HI.out.pages
      have hsy : synced (List.replicate 4096 0) nw4 (ws ++ secs ((G + j) % 2) (putP ⟨83, (((G + j) % 2 : Nat) : Int), (tuS G j).gen, supB (tuS G j)⟩) 4) := by rw [enw4]; exact HI.out.syn.wrote _ _ (by omega) (by rw [length_PPt]; omega)
      have d4' : Dk w4 B w4.heap.size g gs gn rw4 4096 cs cn (List.replicate 4096 0) nw4 (ws ++ secs ((G + j) % 2) (putP ⟨83, (((G + j) % 2 : Nat) : Int), (tuS G j).gen, supB (tuS G j)⟩) 4) true (-1) := by rw [enw4]; exact d4
      rw [← enw4] at hnew hpg
      have hbel4 : Below w.heap.size w w4 := HI.out.bel.trans ((D.out.outer_below o4).mono (by rw [hB]; exact Nat.le_refl _))
      have D4 := Lib.hid d4'
      have HT4 := Lib.hid ht4
      have HNEW := Lib.hid hnew
      have HPG := Lib.hid hpg
      have HSY := Lib.hid hsy
      have HOW4 := Lib.hid (m4.ne HI.out.own hTw)
      have HL4 : Hid ((ws ++ secs ((G + j) % 2) (putP ⟨83, (((G + j) % 2 : Nat) : Int), (tuS G j).gen, supB (tuS G j)⟩) 4).length = 4 * (j + 1)) := Lib.hid (by rw [List.length_append, length_secs, HI.out.len]; omega)
      have HB4 := Lib.hid hbel4
      obtain ⟨ws4, ews4⟩ : ∃ ws4, ws4 = ws ++ secs ((G + j) % 2) (putP ⟨83, (((G + j) % 2 : Nat) : Int), (tuS G j).gen, supB (tuS G j)⟩) 4 := ⟨_, rfl⟩
      rw [← ews4] at D4 HSY HL4
      clear H4 D HT HI d4 m4 o4 ht4 hl4 hg4 enw4 hnew hpg hsy d4' hbel4 ews4 hTw
      go_wp2_with (first
        | (refine wpList_load_row rfl 61 (.tmp 7) rfl T rfl 61 tab (0, 0) _ HT4.out Try.underlying61 rfl (by rw [size_tab]; exact info64) ?_)
        | (go_at_call 48; (refine (newest_yes D4.out (tuS G j) HNEW.out (by show 1 ≤ G + j; omega) #[.int .u64 ((G : Int) + (j : Int)), .int .i64 0, .int .i64 0, .int .i64 (2 + (j : Int) % 10), .int .i64 16] (by unfold supC tuS; simp)).mono ?_); rintro e w5 ⟨rfl, hb5⟩)
        | (refine wpList_store_row rfl 82 (.tmp 12) (.tmp 51) rfl w5.heap.size #[.int .u64 ((G : Int) + (j : Int)), .int .i64 0, .int .i64 0, .int .i64 (2 + (j : Int) % 10), .int .i64 16] rfl rfl 82 Try.zeroCells82 (heap_alloc_new _ _) infoSup (by kernel_rfl) (by simp [Value.oneCell']) ?_; rw [World.setRow_alloc_new]))
      go_roundw
      case rel =>
        have hb6 : Below w4.heap.size w4 (w5.alloc (.cells #[.int .u64 ((G : Int) + (j : Int)), .int .i64 0, .int .i64 0, .int .i64 (2 + (j : Int) % 10), .int .i64 16] 82)) := hb5.alloc hb5.size _
        have hT4 : T < w4.heap.size := (Array.getElem?_eq_some_iff.1 HT4.out).1
        exact ⟨j + 1, by omega, by go_num, Lib.hid ⟨rw4, nw4, ws4, ⟨⟨_, D4.out.below hb6⟩, HL4.out, HSY.out, HOW4.out, (hb6.block T hT4).trans HT4.out, HB4.out.trans (hb6.mono HB4.out.size), HPG.out⟩⟩⟩
      case measure => simp [intOf]; omega
    · obtain rfl : j = K := by omega
      have HWS : Hid (ws.length ≤ 1000) := Lib.hid (by rw [HI.out.len]; omega)
      have hTw : T < wr.heap.size := (Array.getElem?_eq_some_iff.1 HT.out).1
      go_upto_region 14 with (go_at_call 15; (refine (flush_x D.out (by decide) (by decide) (by decide) (-1) (by decide) HWS.out).mono ?_); rintro e w4 ⟨rfl, d4, o4⟩)
      have hs : flushN (List.replicate 4096 0) ws ws.length = nw := HI.out.syn
      rw [hs] at d4
      have ht4 := (o4.block T hTw (fun h => h.elim (fun e => hgT1 e.symm) (fun e => hgT4 e.symm))).trans HT.out
      have hbel4 : Below w.heap.size w w4 := HI.out.bel.trans ⟨o4.os, o4.tape, o4.output, o4.size, fun k hk => o4.block k (by have := HI.out.bel.size; omega) (by
        have h1 := D.out.gB
        have h2 := D.out.stay.parts.1
        rintro (e | e) <;> omega)⟩
      have hnone : newAt 4352 (nw ++ List.replicate 256 0) 2 = zeroS ∧ newN 4352 (nw ++ List.replicate 256 0) = 3 := by
        have hln := D.out.lnw
        refine newest_none ?_ ?_
        · rw [page_left (by omega)]; exact tuP_other hG1 (by omega) (by omega) (HI.out.pages 0 (by omega))
        · rw [page_left (by omega)]; exact tuP_other hG1 (by omega) (by omega) (HI.out.pages 1 (by omega))
      have D4 := Lib.hid d4
      have HT4 := Lib.hid ht4
      have HB4 := Lib.hid hbel4
      have HNONE := Lib.hid hnone
      have HLN := Lib.hid d4.lnw
      clear d4 o4 ht4 hbel4 hnone hs D HT HI HWS
      have HI8 : Hid ((Try.prog.info? 5).map (fun i => (i.zero, i.size, i.bytes)) = some (some (.int .u8 0), 1, 1)) := Lib.hid infoU8
      go_upto_region 15 with (first
        | (go_at_call 19; (refine (image_any D4.out).mono ?_); rintro e w5 ⟨A5, c5, rfl, ho5, hb5⟩; obtain ⟨q5, rfl, hob5, hl5⟩ := ho5.ownB (by decide); obtain ⟨g6, c6, w6, hr6, ho6, hg6⟩ := run_append_zeros (P := Try.prog) 27 3 27 Try.underlying27 .i64 .i64 Try.underlying3 HI8.out hob5 256 (by decide) (by omega) hb5.size; rw [hl5] at hr6; rw [List.length_append, hl5, List.length_replicate] at hr6; have HR6 := Lib.hid hr6; have HO6 := Lib.hid ho6; clear hr6 ho6 ho5)
        | (at_builtin; refine Lib.wpList_append_run _ rfl (.tmp 81) (.const (.int .i64 256)) 27 3 rfl _ _ rfl rfl _ _ HR6.out ?_)
        | (go_at_call 28; (refine (load_ok (some ⟨g6, 0, none⟩) 4352 c6 _ _ HO6.out.bytes (by rw [List.length_append, hl5, List.length_replicate]) (by decide) (by decide) (by decide) (fun h => by cases h)).mono ?_); rintro e w7 ⟨lg, lgs, lgn, lcs, lcn, rfl, d7, hb7⟩; have D7 := Lib.hid d7; clear d7))
      have hq5 : w4.heap.size ≤ q5 := hob5.parts.1
      have hT4 : T < w4.heap.size := (Array.getElem?_eq_some_iff.1 HT4.out).1
      have hs5 := hb5.size
      have hs6 := hg6.size
      have hb46 : Below w4.heap.size w4 w6 := hb5.grown hg6 hs5 (fun k hk => by injection hk with hk; omega)
      have hb47 : Below w4.heap.size w4 w7 := hb46.trans (hb7.mono hb46.size)
      have HT7 := Lib.hid ((hb47.block T hT4).trans HT4.out)
      have HB7 : Hid (Below w.heap.size w w7) := Lib.hid (HB4.out.trans (hb47.mono HB4.out.size))
      clear hb46 hb47 hb5 hg6 hb7 hob5 HT4 HB4 D4
      go_wp2_with (first
        | (refine wpList_load_row rfl 61 (.tmp 7) rfl T rfl 61 tab (0, 0) _ HT7.out Try.underlying61 rfl (by rw [size_tab]; exact info64) ?_)
        | (go_at_call 48; (refine (newest_no D7.out HNONE.out #[.int .u64 0, .int .i64 0, .int .i64 0, .int .i64 0, .int .i64 0] rfl).mono ?_); rintro e w8 ⟨rfl, hb8⟩)
        | (refine wpList_store_row rfl 82 (.tmp 16) (.tmp 90) rfl w8.heap.size #[.int .u64 0, .int .i64 0, .int .i64 0, .int .i64 0, .int .i64 0] rfl rfl 82 Try.zeroCells82 (heap_alloc_new _ _) infoSup (by kernel_rfl) (by simp [Value.oneCell']) ?_; rw [World.setRow_alloc_new])
        | (go_at_call 41; (refine (counts_any _).mono ?_); rintro e w9 ⟨rfl, hb9⟩))
      go_ret
      have h78 : Below w7.heap.size w7 (w8.alloc (.cells #[.int .u64 0, .int .i64 0, .int .i64 0, .int .i64 0, .int .i64 0] 82)) := hb8.alloc hb8.size _
      have h79 := h78.trans (hb9.mono h78.size)
      exact ⟨rfl, HB7.out.trans (h79.mono HB7.out.size)⟩
end Go.Proofs.Ytmmkmpjhmbocfaa
