/- Package page's WriteRaw on a disk. -/
import Derived.Test.YtmmkmpjhmbocfaaPgD
import Derived.Test.YtmmkmpjhmbocfaaDkWs
namespace Go.Proofs.Ytmmkmpjhmbocfaa
open Go.RowKit
set_option linter.unusedVariables false

/-- Behind k sectors of W, from byte o on. -/
def rawN (nw : List UInt8) (o : Nat) (W : List UInt8) (k : Nat) : List UInt8 := nw.take o ++ W.take (64 * k) ++ nw.drop (o + 64 * k)
theorem rawN_zero (nw : List UInt8) (o : Nat) (W : List UInt8) : rawN nw o W 0 = nw := by simp [rawN]
theorem rawN_step {nw W : List UInt8} {a k : Nat} (h1 : 256 * a + 64 * k + 64 ≤ nw.length) (h2 : 64 * k + 64 ≤ W.length) : putAt (rawN nw (256 * a) W k) (4 * a + k) ((W.drop (64 * k)).take 64) = rawN nw (256 * a) W (k + 1) := by
  unfold putAt rawN
  have hl : (nw.take (256 * a) ++ W.take (64 * k)).length = 64 * (4 * a + k) := by simp only [List.length_append, List.length_take]; omega
  rw [List.take_left' hl, List.drop_left' hl, List.drop_drop]
  rw [show 64 * (k + 1) = 64 * k + 64 by omega, List.take_add, show 256 * a + 64 * k + 64 = 256 * a + (64 * k + 64) by omega]
  simp only [List.append_assoc]

section
variable {w w' : World} {B N g gs gn L cs cn : Nat} {rw : Value} {st nw : List UInt8} {ws : List (Nat × List UInt8)} {on : Bool} {left : Int}

theorem OuterX.chain {w w1 w2 : World} {rw rw1 : Value} (h : OuterX (DkX g gn rw) w w1) (hm : Moved w rw.ownBlock rw1.ownBlock) (h2 : OuterX (DkX g gn rw1) w1 w2) : OuterX (DkX g gn rw) w w2 := by
  refine ⟨h2.os.trans h.os, h2.tape.trans h.tape, h2.output.trans h.output, Nat.le_trans h.size h2.size, fun k hk hx => ?_⟩
  refine (h2.block k (Nat.lt_of_lt_of_le hk h.size) ?_).trans (h.block k hk hx)
  rintro (e | e | e)
  · exact hx (.inl e)
  · exact hx (.inr (.inl e))
  · rcases hm with e2 | ⟨q, e2, hq⟩
    · exact hx (.inr (.inr (by rw [← e2]; exact e)))
    · rw [e2] at e
      injection e with e
      omega

theorem OwnS.ownB2 {w : World} {base n c : Nat} {a : Addr} {E : TypeId} {xs : List UInt8} (h : OwnS w base (.slice (some a) n c) E xs) : ∃ g, some a = some ⟨g, 0, none⟩ ∧ OwnB w base g c E xs ∧ xs.length = n := by
  rcases h.cases with ⟨h1, _⟩ | ⟨g, cap, hv, hob⟩
  · cases h1
  · injection hv with hv1 hv2 hv3
    subst hv3
    exact ⟨g, hv1, hob, hv2.symm⟩

set_option maxHeartbeats 1000000 in
set_option maxRecDepth 100000 in
theorem writeRaw_ok (h : Dk w B N g gs gn rw L cs cn st nw ws true (-1)) (hws : ws.length ≤ 500) (za : Int) (a n : Nat) (hza : za = (a : Int)) (hin : n = 0 ∨ 256 * a + n ≤ L ∧ 256 * a < L) (han : a ≤ 1000) (hnn : n ≤ 100000) (hn0 : 0 ≤ n) (A : Option Addr) (c : Nat) (bs : List UInt8) (hx : BytesAt w A bs) (hbl : bs.length = n) (p : Nat) (hp : p = (n + 255) / 256) (hpl : p ≤ 100) :
    Calls Try.prog 35 #[.pointer (some ⟨g, 0, none⟩), .int .i64 za, .slice A n c] w fun e w' => e = .returned (.int .i64 0) ∧
      (∃ rw' ws', Dk w' B w'.heap.size g gs gn rw' L cs cn st (rawN nw (256 * a) (bs ++ List.replicate (256 * p - n) 0) (4 * p)) ws' true (-1) ∧ ws'.length = ws.length + 4 * p ∧ Moved w rw.ownBlock rw'.ownBlock) ∧ OuterX (DkX g gn rw) w w' := by
  subst hza
  have hpg := h.pg
  obtain ⟨iu, hiu, hz0, hz1, hz2⟩ := info_parts infoU8
  obtain ⟨M, hM⟩ : ∃ M, M = p * 256 := ⟨_, rfl⟩
  have hz3 : iu.bytes * M ≤ 281474976710656 := by rw [hz2]; omega
  have hpi : ((n : Int) + 256 - 1) / 256 = (p : Int) := by omega
  have hMi : (p : Int) * 256 = (M : Int) := by omega
  have hnM : n ≤ M := by omega
  have HPI := Lib.hid hpi
  have HMI := Lib.hid hMi
  have HM := Lib.hid hM
  have HP := Lib.hid hp
  have H := Lib.hid h
  have HIN := Lib.hid hin
  have HX := Lib.hid hx
  have HBL := Lib.hid hbl
  clear hpi hMi hM hp h hin hx hbl
  go_enter Try.func35, Try.ntmps35
  go_upto_region 7 with (first
    | (go_at_call 60; refine (ready_on H.out).mono ?_; rintro e w1 ⟨rfl, rfl⟩)
    | (go_at_call 63; refine (within_yes H.out _ _ a n rfl rfl HIN.out).mono ?_; rintro e w1 ⟨rfl, rfl⟩))
  rw [HPI.out]
  have m3 : (Try.prog.info? 5).map (·.size) = some 1 := by kernel_rfl
  have hfit : n ≤ (List.replicate M (0 : UInt8)).length := by simp; omega
  have M3 := Lib.hid m3
  have HFIT := Lib.hid hfit
  have H0 : Hid (0 = ([] : List UInt8).length) := Lib.hid rfl
  clear m3 hfit
  go_upto_region 9 with (first
    | (at_make; refine wpList_make_full _ rfl (.tmp 30) (.tmp 30) 27 rfl w.heap.size 5 iu (.int .u8 0) 1 Try.underlying27 hiu hz0 hz1 .i64 .i64 ((p : Int) * 256) ((p : Int) * 256) M rfl rfl HMI.out HMI.out hz3 (by unfold maxLen; have := HM.out; omega) (Nat.le_refl _) ?_; intro w1 ho1 hg1; have ho2 := made8 ho1; obtain ⟨q, hq, hob, _⟩ := ho2.ownB2; injection hq with hq; injection hq with hq; have HQE := Lib.hid hq; have HOB : Hid (OwnB w1 w.heap.size w.heap.size M 5 ([] ++ List.replicate M 0)) := Lib.hid (by rw [hq, List.nil_append]; rw [hq] at hob; exact hob); have hb1 : Below w.heap.size w w1 := (Below.refl _ _).grown hg1 (Nat.le_refl _) (fun k hk => by cases hk); have HX1 := Lib.hid (HX.out.below hb1); clear ho1 ho2 hob hq)
    | ((with_reducible refine wpList_copy_bytes rfl (.tmp 32) (.tmp 33) 27 27 rfl 5 Try.underlying27 M3.out w.heap.size w.heap.size M 0 M M A n c [] (List.replicate M 0) bs rfl rfl H0.out HOB.out HX1.out HBL.out hnM HFIT.out ?_); intro w2 ho3 hg3))
  have hW : (bs ++ (List.replicate M (0 : UInt8)).drop n).length = M := by simp only [List.length_append, List.length_drop, List.length_replicate, HBL.out]; omega
  have hWe : bs ++ (List.replicate M (0 : UInt8)).drop n = bs ++ List.replicate (256 * p - n) 0 := by rw [List.drop_replicate, show M - n = 256 * p - n by have := HM.out; omega]
  rw [List.nil_append] at ho3
  have HWE := Lib.hid hWe
  clear hWe
  generalize bs ++ (List.replicate M (0 : UInt8)).drop n = W at *
  have HWL := Lib.hid hW
  have hb2 : Below w.heap.size w w2 := hb1.trans ⟨hg3.os, hg3.tape, hg3.output, hg3.size, fun k hk => hg3.block k (by have := hb1.size; omega) (fun e => by injection e with e; omega)⟩
  have D2 := Lib.hid (H.out.below hb2)
  have hql := ho3.lt
  have HO3 := Lib.hid ho3
  have hNw := H.out.NN
  have hgN := H.out.gN
  have hnN := H.out.nN
  have hXq : ∀ rwk : Value, Moved w2 rw.ownBlock rwk.ownBlock → ¬ DkX g gn rwk w.heap.size := by
    rintro rwk hm (e | e | e)
    · omega
    · omega
    · rcases hm with e2 | ⟨q', e2, hq'⟩
      · rw [e2] at e
        have := H.out.wN _ e
        omega
      · rw [e2] at e
        injection e with e
        omega
  have HXQ := Lib.hid hXq
  clear hW ho3 hg3 hb1 HX1 HOB HQE hg1 hXq
  go_wp2_with fail
  go_loopw [37] (fun i wr => ∃ k : Nat, k ≤ 4 * p ∧ i = .int .i64 k ∧ Hid (∃ N' rwk wsk, Dk wr B N' g gs gn rwk L cs cn st (rawN nw (256 * a) W k) wsk true (-1) ∧ wsk.length = ws.length + k ∧ Moved w2 rw.ownBlock rwk.ownBlock) ∧ Hid (OuterX (DkX g gn rw) w2 wr)) (fun i _ => 4 * p - (intOf i).toNat)
  case atStart => exact ⟨0, by omega, rfl, Lib.hid ⟨_, rw, ws, by rw [rawN_zero]; exact D2.out, rfl, .inl rfl⟩, Lib.hid (OuterX.refl _ _)⟩
  case round =>
    obtain ⟨k, hk, rfl, hd, hO⟩ := hrel
    obtain ⟨N', rwk, wsk, hdk, hwl, hmv⟩ := hd.out
    have D3 := Lib.hid hdk
    have HWS := Lib.hid hwl
    have HMV := Lib.hid hmv
    have hwk : wsk.length ≤ 1000 := by omega
    clear hdk hwl hmv hd
    by_cases hlt : k < 4 * p
    · obtain ⟨j, hj⟩ : ∃ j, j = 4 * a + k := ⟨_, rfl⟩
      have hji : ((a : Int) * 4 + (k : Int)) = (j : Int) := by omega
      have hpM : M = 256 * p := by have := HM.out; omega
      have hfi : 64 * j + 64 ≤ L := by have := HIN.out; have := HP.out; omega
      have HJ := Lib.hid hj
      have HJI := Lib.hid hji
      have HFI := Lib.hid hfi
      have HPM := Lib.hid hpM
      have hne : ¬ M = k * 64 := by omega
      have hch : ((W.drop (64 * k)).take 64).length = 64 := by rw [List.length_take, List.length_drop, HWL.out]; omega
      have HCH := Lib.hid hch
      have hxk : BytesAt wr (some ⟨w.heap.size, 64 * k, none⟩) ((W.drop (64 * k)).take 64) := bytes_outerX (BytesAt.mid HO3.out.bytes (64 * k) 64) hO.out (fun a ha => by injection ha with ha; subst ha; exact HXQ.out rw (.inl rfl))
      have hxk2 : BytesAt wr (some ⟨w.heap.size, k * 64, none⟩) ((W.drop (64 * k)).take 64) := by rw [Nat.mul_comm k 64]; exact hxk
      have HXK := Lib.hid hxk2
      have hkM : (k + 1) * 64 ≤ M := by omega
      have h64 : (k + 1) * 64 - k * 64 = 64 := by omega
      have H64 := Lib.hid h64
      have hAq : ∀ a', some (⟨w.heap.size, k * 64, none⟩ : Addr) = some a' → ¬ DkX g gn rwk a'.block := fun a' ha => by injection ha with ha; subst ha; exact HXQ.out rwk HMV.out
      have HAQ := Lib.hid hAq
      have hst := rawN_step (nw := nw) (W := W) (a := a) (k := k) (by rw [H.out.lnw]; omega) (by rw [HWL.out]; omega)
      rw [← hj] at hst
      have HST := Lib.hid hst
      clear hj hji hfi hpM hch hxk hxk2 h64 hAq hst
      go_wp2_with (go_at_call 14; rw [HJI.out, H64.out]; (refine (write_any D3.out (by decide) (by decide) (by decide) j HFI.out (some ⟨w.heap.size, k * 64, none⟩) (M - k * 64) _ HXK.out HCH.out HAQ.out (-1) (by decide) hwk).mono ?_); rintro e w4 ⟨rfl, ⟨rw4, d4, mv4⟩, o4⟩; rw [HST.out] at d4; have D4 := Lib.hid d4; clear d4)
      go_roundw
      case rel => exact ⟨k + 1, by omega, by go_num, Lib.hid ⟨_, rw4, _, D4.out, by have := HWS.out; simp; omega, HMV.out.trans hO.out.size mv4⟩, Lib.hid (hO.out.chain HMV.out o4)⟩
      case measure => simp [intOf]; omega
    · obtain rfl : k = 4 * p := by omega
      go_wp2_with fail
      go_ret
      refine ⟨rfl, ⟨rwk, wsk, ?_, HWS.out, ?_⟩, ((OuterX.refl (DkX g gn rw) w).then hb2 (Nat.le_refl _)).chain (.inl rfl) hO.out⟩
      · rw [← HWE.out]
        exact D3.out.wider D3.out.NN (Nat.le_refl _)
      · rcases HMV.out with e | ⟨q', e, hq'⟩
        · exact .inl e
        · exact .inr ⟨q', e, by have := hb2.size; omega⟩
end
end Go.Proofs.Ytmmkmpjhmbocfaa
