/- The walk of BitsTakes. -/
import Derived.Test.YtnpomochhbkefaaBitTk
import Derived.Test.YtnpomochhbkefaaRowKit
import Derived.Deep.DeepCutAuto
namespace Go.Proofs.Ytnpomochhbkefaa
open Go.RowKit BitM
set_option linter.unusedVariables false

theorem mid_behind (B T p L k : Nat) (hL : L = T - p) : mid B T p (p + k) = mid B L 0 k := by
  subst hL
  unfold mid
  rw [show T - (p + k) = T - p - k by omega, Nat.add_sub_cancel_left, Nat.sub_zero]

set_option maxHeartbeats 1000000 in
set_option maxRecDepth 100000 in
theorem bitsTakes_walk (A0 : Option Addr) (cap0 : Nat) (xs0 : List UInt8) {w : World} (hx0 : BytesAt w A0 xs0) (hlc0 : xs0.length ≤ cap0) (hcm0 : cap0 ≤ maxLen)
    (A1 : Option Addr) (cap1 : Nat) (zs : List Int) (nr1 : NumRow .i64 w A1 zs) (hlc1 : zs.length ≤ cap1) (hcm1 : cap1 ≤ maxLen) :
    Calls Try.prog 4 #[.slice A0 xs0.length cap0, .slice A1 zs.length cap1] w fun e w' => e = .returned (.bool true) ∧ Below w.heap.size w w' := by
  obtain ⟨xs, hxs⟩ : ∃ xs, xs = xs0.take 60 := ⟨_, rfl⟩
  obtain ⟨n, hn⟩ : ∃ n, n = xs.length := ⟨_, rfl⟩
  have hyl : n = min xs0.length 60 := by rw [hn, hxs, List.length_take, Nat.min_comm]
  have hmin : min (xs0.length : Int) 60 = (n : Int) := by omega
  have hn60 : n ≤ 60 := by omega
  have hnx : n ≤ xs0.length := by omega
  have hxn : BytesAt w A0 xs := by rw [hxs]; exact hx0.take 60
  unfold maxLen at hcm0 hcm1
  have HX := Lib.hid hn.symm
  have HR := Lib.hid nr1
  clear hxs hyl hx0 nr1 hn
  obtain ⟨B, hB⟩ : ∃ B, B = valB xs := ⟨_, rfl⟩
  have HB := Lib.hid hB
  clear hB
  have hl1 : (([] : List UInt8).length + n) ≤ 140737488355328 := by simp; omega
  have hb0 : Below w.heap.size w (w.alloc (.cells #[] 5)) := (Below.refl _ _).alloc (Nat.le_refl _) _
  have ho0 := OwnS.new w 5 [] w.heap.size (Nat.le_refl _) (by simp)
  go_enter Try.func4, Try.ntmps4
  go_wp2_with (first
    | (at_builtin; refine wpList_append_z rfl (.tmp 13) (.tmp 18) 30 rfl Try.underlying30 infoU8 rfl ho0 _ _ n xs xs rfl HX.out (hxn.below hb0) (List.nil_append _) hl1 (by simp) ?_; rw [HX.out]; intro A2 c2 w2 ho2 hg2; have hb2 := ho0.belowGrown (Nat.le_refl _) (by simp) hb0 hg2; have hx2 : BytesAt w2 A2 xs := ho2.bytes; have t2 := text_n A2 n c2 xs HX.out hx2)
    | (go_at_call 24; with_reducible refine (new_any A2 n c2 _).mono ?_; rintro e w3 ⟨rfl, hr3, hl3, hb3⟩; have hx3 := hx2.below hb3)
    | (go_at_call 25; with_reducible refine (refBits_any A2 n c2 xs _ HX.out hx3 (by omega)).mono ?_; rintro e w4 ⟨A4, c4, rfl, ho4, hb4⟩))
  have hg2s : w.heap.size ≤ w2.heap.size := hb2.size
  have hcp4 := ho4.caps
  have hx4 := ho4.bytes
  have hr4 := hr3.below hb4
  have hx24 := hx3.below hb4
  have hbw3 := hb2.trans (hb3.mono hb2.size)
  have hbw4 := hbw3.trans (hb4.mono hbw3.size)
  rw [← HB.out] at hx4
  clear ho0 hb0 hg2 ho2 ho4 hl1 hb3 hb4 hr3 hx3 hl3 hx2 hxn t2
  go_loopw [7, 8, 9] (fun l bd i wr => ∃ (k p L : Nat) (bad : Bool) (A' : Option Addr) (c' : Nat), k ≤ zs.length ∧ k ≤ 60 ∧ Hid (L = 8 * n - p) ∧ p ≤ 8 * n ∧ i = .int .i64 k ∧ bd = .bool bad ∧ l = .slice A' L c' ∧ BytesAt wr A' (bl L B) ∧ L ≤ c' ∧ c' ≤ maxLen ∧ (A' = none → L = 0 ∧ c' = 0) ∧ RdAt wr w2.heap.size A2 n c2 p bad ∧ BytesAt wr A2 xs ∧ Below w.heap.size w wr) (fun _ _ i _ => 60 - (intOf i).toNat)
  case atStart => exact ⟨0, 0, 8 * n, false, A4, c4, by omega, by omega, Lib.hid rfl, by omega, rfl, rfl, rfl, hx4, hcp4.2.1, hcp4.2.2.1, hcp4.2.2.2, hr4, hx24, hbw4⟩
  case round =>
    obtain ⟨k, p, L, bad, A', c', hk, hk6, HL, hp, rfl, rfl, rfl, hby, hlc, hcm, hnn, hr, hx, hb⟩ := hrel
    have hL480 : L ≤ 480 := by have := HL.out; omega
    by_cases hlt : k < zs.length ∧ k < 60
    · obtain ⟨hlt, hlt6⟩ := hlt
      obtain ⟨b, off, rfl, hc⟩ := HR.out.2 (by intro h; subst h; simp at hlt)
      have hck0 := hc k hlt
      have hblt := World.block_lt_of_cell? w _ hck0
      have hck := (World.cell?_of_block (a := ⟨b, off + k, none⟩) (hb.block _ hblt)).trans hck0
      obtain ⟨z, hz⟩ : ∃ z, z = zs[k] := ⟨_, rfl⟩
      rw [← hz] at hck
      clear hc hck0 hz
      have hblt2 := World.block_lt_of_cell? wr _ hck
      have hLr : ((8 * n - p : Nat) : Int) = (L : Int) := by rw [← HL.out]
      have HLR := Lib.hid hLr
      clear hLr
      by_cases hfew : L < wi z
      · have hfew2 : 8 * n - p < wi z := by rw [← HL.out]; exact hfew
        have HF := Lib.hid hfew
        have HF2 := Lib.hid hfew2
        clear hfew hfew2
        cases bad with
        | true =>
          go_wp2_with (first
            | (go_at_call 26; with_reducible refine (refTake_few A' L c' z _ (by omega) HF.out).mono ?_; rintro e w5 ⟨rfl, rfl⟩)
            | (go_at_call 19; with_reducible refine (take_bad w2.heap.size A2 n c2 p true z _ hr (by omega) hp (Or.inl rfl)).mono ?_; rintro e w6 ⟨rfl, hr6, hg6⟩)
            | (go_at_call 20; with_reducible refine (bad_any w2.heap.size A2 n c2 p true _ hr6).mono ?_; rintro e w7 ⟨rfl, rfl⟩)
            | (go_at_call 21; with_reducible refine (left_lit w2.heap.size A2 n c2 p true L _ HLR.out.symm hr6 (by omega) hp).mono ?_; rintro e w8 ⟨rfl, hb8⟩))
          go_roundw
          case rel =>
            have hb6 := below_some hb.size hg2s hb hg6
            have hby6 := bytes_past hr hby hg6
            have hx6 := bytes_past hr hx hg6
            exact ⟨k + 1, p, L, true, A', c', by omega, by omega, HL, hp, by go_num, rfl, rfl, hby6.below hb8, hlc, hcm, hnn, hr6.below hb8, hx6.below hb8, hb6.trans (hb8.mono hb6.size)⟩
          case measure => simp [intOf]; omega
        | false =>
          go_wp2_with (first
            | (go_at_call 26; with_reducible refine (refTake_few A' L c' z _ (by omega) HF.out).mono ?_; rintro e w5 ⟨rfl, rfl⟩)
            | (go_at_call 19; with_reducible refine (take_bad w2.heap.size A2 n c2 p false z _ hr (by omega) hp (Or.inr HF2.out)).mono ?_; rintro e w6 ⟨rfl, hr6, hg6⟩)
            | (go_at_call 20; with_reducible refine (bad_any w2.heap.size A2 n c2 p true _ hr6).mono ?_; rintro e w7 ⟨rfl, rfl⟩)
            | (go_at_call 21; with_reducible refine (left_lit w2.heap.size A2 n c2 p true L _ HLR.out.symm hr6 (by omega) hp).mono ?_; rintro e w8 ⟨rfl, hb8⟩))
          go_roundw
          case rel =>
            have hb6 := below_some hb.size hg2s hb hg6
            have hby6 := bytes_past hr hby hg6
            have hx6 := bytes_past hr hx hg6
            exact ⟨k + 1, p, L, true, A', c', by omega, by omega, HL, hp, by go_num, rfl, rfl, hby6.below hb8, hlc, hcm, hnn, hr6.below hb8, hx6.below hb8, hb6.trans (hb8.mono hb6.size)⟩
          case measure => simp [intOf]; omega
      · have hok : wi z ≤ L := by omega
        have hpq : p + wi z ≤ 8 * n := by have := HL.out; omega
        have hmid : mid (valB xs) (8 * n) p (p + wi z) = mid B L 0 (wi z) := by rw [← HB.out]; exact mid_behind B (8 * n) p L (wi z) HL.out
        have hL2 : L - wi z = 8 * n - (p + wi z) := by have := HL.out; omega
        obtain ⟨M, hM⟩ : ∃ M, M = mid B L 0 (wi z) := ⟨_, rfl⟩
        rw [← hM] at hmid
        have HM := Lib.hid hM
        have HMID := Lib.hid hmid
        have HOK := Lib.hid hok
        have HPQ := Lib.hid hpq
        have HL2 := Lib.hid hL2
        have hLr2 : ((8 * n - (p + wi z) : Nat) : Int) = ((L - wi z : Nat) : Int) := by rw [← HL2.out]
        have HLR2 := Lib.hid hLr2
        clear hM hmid hok hpq hL2 hLr2 hfew
        cases bad with
        | true =>
          go_wp2_with (first
            | (go_at_call 26; with_reducible refine (refTake_z A' L c' B z _ hby (by omega) hlc hcm hnn HOK.out).mono ?_; rw [← HM.out]; rintro e w5 ⟨A5, rfl, hby5, hb5, hn5⟩; have hck5 := (World.cell?_of_block (a := ⟨b, off + k, none⟩) (hb5.block _ hblt2)).trans hck; have hr5 := hr.below hb5)
            | (go_at_call 19; with_reducible refine (take_bad w2.heap.size A2 n c2 p true z _ hr5 (by omega) hp (Or.inl rfl)).mono ?_; rintro e w6 ⟨rfl, hr6, hg6⟩)
            | (go_at_call 20; with_reducible refine (bad_any w2.heap.size A2 n c2 p true _ hr6).mono ?_; rintro e w7 ⟨rfl, rfl⟩)
            | (go_at_call 21; with_reducible refine (left_lit w2.heap.size A2 n c2 p true L _ HLR.out.symm hr6 (by omega) hp).mono ?_; rintro e w8 ⟨rfl, hb8⟩))
          go_roundw
          case rel =>
            have hb5' := hb.trans (hb5.mono hb.size)
            have hb6 := below_some hb5'.size hg2s hb5' hg6
            have hby6 := bytes_past hr5 (hby.below hb5) hg6
            have hx6 := bytes_past hr5 (hx.below hb5) hg6
            exact ⟨k + 1, p, L, true, A', c', by omega, by omega, HL, hp, by go_num, rfl, rfl, hby6.below hb8, hlc, hcm, hnn, hr6.below hb8, hx6.below hb8, hb6.trans (hb8.mono hb6.size)⟩
          case measure => simp [intOf]; omega
        | false =>
          go_wp2_with (first
            | (go_at_call 26; with_reducible refine (refTake_z A' L c' B z _ hby (by omega) hlc hcm hnn HOK.out).mono ?_; rw [← HM.out]; rintro e w5 ⟨A5, rfl, hby5, hb5, hn5⟩; have hck5 := (World.cell?_of_block (a := ⟨b, off + k, none⟩) (hb5.block _ hblt2)).trans hck; have hr5 := hr.below hb5; have hx5 := hx.below hb5)
            | (go_at_call 19; with_reducible refine (take_okA w2.heap.size A2 n c2 p z xs M _ hr5 hx5 HX.out (by omega) HPQ.out HMID.out).mono ?_; rintro e w6 ⟨rfl, hr6, hg6⟩)
            | (go_at_call 20; with_reducible refine (bad_any w2.heap.size A2 n c2 (p + wi z) false _ hr6).mono ?_; rintro e w7 ⟨rfl, rfl⟩)
            | (go_at_call 21; with_reducible refine (left_lit w2.heap.size A2 n c2 (p + wi z) false (L - wi z : Nat) _ HLR2.out.symm hr6 (by omega) HPQ.out).mono ?_; rintro e w8 ⟨rfl, hb8⟩))
          go_roundw
          case rel =>
            have hb5' := hb.trans (hb5.mono hb.size)
            have hb6 := below_some hb5'.size hg2s hb5' hg6
            have hby6 := bytes_past hr5 hby5 hg6
            have hx6 := bytes_past hr5 hx5 hg6
            exact ⟨k + 1, p + wi z, L - wi z, false, A5, c' - wi z, by omega, by omega, HL2, HPQ.out, by go_num, rfl, rfl, hby6.below hb8, by omega, by omega, hn5, hr6.below hb8, hx6.below hb8, hb6.trans (hb8.mono hb6.size)⟩
          case measure => simp [intOf]; omega
    · have hend : k = zs.length ∨ k < zs.length ∧ k = 60 := by omega
      rcases hend with rfl | ⟨hlt, rfl⟩
      · go_wp2_with (go_at_call 17; refine (bputs_any _).mono ?_; rintro e w6 ⟨rfl, hb6⟩; have t6 := text_n A2 n c2 xs HX.out (hx.below hb6))
        go_ret
        exact ⟨rfl, hb.trans (hb6.mono hb.size)⟩
      · go_wp2_with (go_at_call 17; refine (bputs_any _).mono ?_; rintro e w6 ⟨rfl, hb6⟩; have t6 := text_n A2 n c2 xs HX.out (hx.below hb6))
        go_ret
        exact ⟨rfl, hb.trans (hb6.mono hb.size)⟩
end Go.Proofs.Ytnpomochhbkefaa
