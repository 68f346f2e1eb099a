/- The reference's Put of layer 6: its contract. -/
import Derived.Test.YtanljjpjhihgcaaPkRaw
import Derived.Test.YtanljjpjhihgcaaPi
namespace BitM
theorem lenB_shr (d u : Nat) (h : u < lenB d) : 0 < d / 2 ^ u := by
  have h0 : d ≠ 0 := by
    intro h0
    subst h0
    simp [lenB] at h
  refine Nat.div_pos ?_ (Nat.pow_pos (by omega))
  exact Nat.le_trans (Nat.pow_le_pow_right (by omega) (by omega)) (lenB_ge d h0)
theorem lenB_shr0 (d : Nat) : d / 2 ^ lenB d = 0 := Nat.div_eq_of_lt (lenB_lt d)
theorem pk_parts {l : List Nat} (hne : l ≠ []) (h64 : wid l ≤ 64) : pk l = (beN (lmin l) 8 ++ [UInt8.ofNat (wid l)]) ++ bytesW (tot (pks l)).1 (tot (pks l)).2 := by
  have e : beN (wid l) 1 = [UInt8.ofNat (wid l)] := by simp [beN]
  unfold pk
  rw [if_neg hne, e]
theorem lmin_take1 (l : List Nat) (k : Nat) (h : k < l.length) : lmin (l.take (max (k + 1) 1)) = min (lmin (l.take (max k 1))) l[k] := by
  rcases Nat.eq_zero_or_pos k with rfl | h0
  · cases l with
    | nil => simp at h
    | cons x r => simp [lmin]
  · rw [show max (k + 1) 1 = k + 1 by omega, show max k 1 = k by omega]
    exact lmin_take l k h0 h
theorem lmax_take1 (l : List Nat) (k : Nat) (h : k < l.length) : lmax (l.take (max (k + 1) 1)) = max (lmax (l.take (max k 1))) l[k] := by
  rcases Nat.eq_zero_or_pos k with rfl | h0
  · cases l with
    | nil => simp at h
    | cons x r => simp [lmax]
  · rw [show max (k + 1) 1 = k + 1 by omega, show max k 1 = k by omega]
    exact lmax_take l k h0 h
end BitM
namespace Go.Proofs.Ytanljjpjhihgcaa
open Go.RowKit BitM
set_option linter.unusedVariables false

set_option maxHeartbeats 1000000 in
set_option maxRecDepth 100000 in
theorem refPackPut_any (A : Option Addr) (n c : Nat) (ns : List Nat) (w : World) (hn : ns.length = n) (hx : NatsAt w A ns) (hl : n ≤ 200) (hm : ∀ v ∈ ns, v < 18446744073709551616) :
    Calls Try.prog 14 #[.slice A n c] w fun e w' => ∃ A' c', e = .returned (.slice A' (pk ns).length c') ∧ BytesAt w' A' (pk ns) ∧ Below w.heap.size w w' := by
  by_cases hne : ns = []
  · subst hne
    have hn0 : n = 0 := by simpa using hn.symm
    subst hn0
    go_enter Try.func14, Try.ntmps14
    go_wp2_with fail
    go_ret
    exact ⟨none, 0, rfl, fun h => absurd rfl h, Below.refl _ _⟩
  · have hpos : 0 < n := by
      rcases Nat.eq_zero_or_pos n with h | h
      · rw [h] at hn
        exact absurd (List.eq_nil_of_length_eq_zero hn) hne
      · exact h
    obtain ⟨b, off, rfl⟩ := hx.addr hne
    have hc0 := hx.cell 0 (by omega)
    have e0 : ns[0]'(by omega) = lmin (ns.take 1) := by
      cases ns with
      | nil => exact absurd rfl hne
      | cons x r => rfl
    have e1 : lmin (ns.take 1) = lmax (ns.take 1) := by
      cases ns with
      | nil => exact absurd rfl hne
      | cons x r => rfl
    rw [e0, Nat.add_zero] at hc0
    have HE1 := Lib.hid e1
    have HN := Lib.hid hn
    have HM := Lib.hid hm
    have HX := Lib.hid hx
    clear e0 e1 hn hm hx
    obtain ⟨x0, hx0⟩ : ∃ x0, x0 = lmin (ns.take 1) := ⟨_, rfl⟩
    rw [← hx0] at hc0
    have HX0 := Lib.hid hx0
    clear hx0
    have hnz : ((n : Int) == 0) = false := by rw [beq_eq_false_iff_ne]; omega
    go_enter Try.func14, Try.ntmps14
    go_wp2_with fail
    go_quiet (fail)
    go_wp2_with fail
    go_loopw [3, 4, 5] (fun lo hi i wr => ∃ k mk Mk : Nat, k ≤ n ∧ i = .int .i64 k ∧ lo = .int .u64 mk ∧ hi = .int .u64 Mk ∧ Hid (mk = lmin (ns.take (max k 1))) ∧ Hid (Mk = lmax (ns.take (max k 1))) ∧ Below w.heap.size w wr) (fun _ _ i _ => n - (intOf i).toNat)
    case atStart => exact ⟨0, x0, x0, by omega, rfl, rfl, rfl, Lib.hid HX0.out, Lib.hid (HX0.out.trans HE1.out), below_drewN (Below.refl _ _) _⟩
    case round =>
      obtain ⟨k, mk, Mk, hk, rfl, rfl, rfl, HMK, HMXK, hb⟩ := hrel
      by_cases hlt : k < n
      · have hkl : k < ns.length := by rw [HN.out]; exact hlt
        have hc := (HX.out.below hb).cell k hkl
        have h1 := lmin_take1 ns k hkl
        have h2 := lmax_take1 ns k hkl
        rw [← HMK.out] at h1
        rw [← HMXK.out] at h2
        obtain ⟨v, hv⟩ : ∃ v, v = ns[k] := ⟨_, rfl⟩
        rw [← hv] at hc h1 h2
        have H1 := Lib.hid h1
        have H2 := Lib.hid h2
        have hblt := World.block_lt_of_cell? _ _ hc
        clear h1 h2 hv
        go_wp2_with fail
        have kc : ∀ y : SubW wr.heap.size wr, y.at_.cell? ⟨b, off + k, none⟩ = some (.int .u64 (v : Int)) := fun y => (World.cell?_of_block (a := ⟨b, off + k, none⟩) (y.ok_.block _ hblt)).trans hc
        refine region_over [] [0, 1, 2, 3, 4, 5, 6, 7, 8, 9, 10, 11, 12, 13] (by kernel_rfl) (by kernel_rfl) ?_
        rintro wd hbd
        rw [wpBl_nil]
        simp only [List.map_cons, List.map_nil, opAt, List.getElem?_toArray, List.getElem?_cons_zero, List.getElem?_cons_succ, Option.getD_some]
        repeat (go_big_quiet_step (fail))
        refine wpQuiet_nil ?_
        go_wp2_with fail
        go_roundw
        case rel =>
          refine ⟨k + 1, min mk v, max Mk v, by omega, by go_num, ?_, ?_, Lib.hid H1.out.symm, Lib.hid H2.out.symm, hb.trans (hbd.mono hb.size)⟩
          · go_num
          · go_num
        case measure => simp [intOf]; omega
      · obtain rfl : k = n := by omega
        have hm := HMK.out
        have hM := HMXK.out
        have htk : ns.take (max k 1) = ns := by rw [show max k 1 = ns.length by rw [HN.out]; omega, List.take_length]
        rw [htk] at hm hM
        clear HMK HMXK htk
        have hwl := wid_le ns HM.out
        have hM64 : Mk < 18446744073709551616 := by rw [hM]; exact lmax_lt ns HM.out
        have hmM : mk ≤ Mk := by
          rw [hm, hM]
          have h1 := lmin_le (List.getElem_mem (show 0 < ns.length by rw [HN.out]; exact hpos))
          have h2 := le_lmax (List.getElem_mem (show 0 < ns.length by rw [HN.out]; exact hpos))
          omega
        obtain ⟨W, hW⟩ : ∃ W, W = wid ns := ⟨_, rfl⟩
        obtain ⟨d, hd⟩ : ∃ d, d = Mk - mk := ⟨_, rfl⟩
        have hdi : (Mk : Int) - (mk : Int) = (d : Int) := by omega
        have hWd : W = lenB d := by rw [hW, hd, hM, hm]; rfl
        have hparts := pk_parts hne hwl
        have hs : ∀ j (h : j < ns.length), tot ((pks ns).take (j + 1)) = ((tot ((pks ns).take j)).1 + W, (tot ((pks ns).take j)).2 * 2 ^ W + (ns[j] - mk) % 2 ^ W) := fun j h => by rw [hW, hm]; exact pks_succ ns j h hwl
        have hge : ∀ j (h : j < ns.length), mk ≤ ns[j] := fun j h => by rw [hm]; exact lmin_le (List.getElem_mem h)
        rw [← hm, ← hW] at hparts
        rw [← hW] at hwl
        have HS := Lib.hid hs
        have HGE := Lib.hid hge
        have HP := Lib.hid hparts
        have HWD := Lib.hid hWd
        clear hs hge hparts hWd hm hM hW hd
        go_wp2_with fail
        go_loopw [6] (fun i wr => ∃ u : Nat, u ≤ W ∧ i = .int .i64 u ∧ Below w.heap.size w wr) (fun i _ => W - (intOf i).toNat)
        case atStart => exact ⟨0, by omega, rfl, hb⟩
        case round =>
          obtain ⟨u, hu, rfl, hb⟩ := hrel
          by_cases hlt2 : u < W
          · have hpos2 := lenB_shr d u (by rw [← HWD.out]; exact hlt2)
            obtain ⟨t, ht⟩ : ∃ t, t = d / 2 ^ u := ⟨_, rfl⟩
            rw [← ht] at hpos2
            have hti : (d : Int) / 2 ^ u = (t : Int) := by rw [ht]; simp
            have hu64 : u < 64 := by omega
            clear ht
            go_wp2_with fail
            go_roundw
            case rel => exact ⟨u + 1, by omega, by go_num, hb⟩
            case measure => simp [intOf]; omega
          · obtain rfl : u = W := by omega
            rcases Nat.lt_or_ge u 64 with hu64 | hu64
            · have hti : (d : Int) / 2 ^ u = 0 := by
                have h0 := lenB_shr0 d
                rw [← HWD.out] at h0
                have e : (d : Int) / 2 ^ u = ((d / 2 ^ u : Nat) : Int) := by simp
                rw [e, h0]
                rfl
              go_wp2_with fail
              go_loopw [7, 8] (fun l i wr => ∃ (j L V : Nat) (A' : Option Addr) (c' : Nat), j ≤ k ∧ i = .int .i64 j ∧ Hid (tot ((pks ns).take j) = (L, V)) ∧ l = .slice A' L c' ∧ OwnS wr w.heap.size (.slice A' L c') 5 (bl L V) ∧ Below w.heap.size w wr) (fun _ i _ => k - (intOf i).toNat)
              case atStart => exact ⟨0, 0, 0, none, 0, by omega, rfl, Lib.hid rfl, rfl, OwnS.nil _ _ _, hb⟩
              case round =>
                obtain ⟨j, L, V, A', c', hj, rfl, HT, rfl, ho, hb⟩ := hrel
                have hLs : L ≤ 64 * 200 := by
                  have := tot_le (pks ns) j (by rw [length_pks, HN.out]; exact hj)
                  rw [HT.out] at this
                  simp only at this
                  omega
                by_cases hlt3 : j < k
                · have hjl : j < ns.length := by rw [HN.out]; exact hlt3
                  have hc := (HX.out.below hb).cell j hjl
                  have h1 := HGE.out j hjl
                  have h2 := HS.out j hjl
                  rw [HT.out] at h2
                  have hv64 := HM.out _ (List.getElem_mem hjl)
                  obtain ⟨v, hv⟩ : ∃ v, v = ns[j] := ⟨_, rfl⟩
                  rw [← hv] at hc h1 h2 hv64
                  obtain ⟨q, hq⟩ : ∃ q, q = v - mk := ⟨_, rfl⟩
                  rw [← hq] at h2
                  have hqi : (v : Int) - (mk : Int) = (q : Int) := by omega
                  have hq64 : q < 18446744073709551616 := by omega
                  have hwi : wi (u : Int) = u := by unfold wi; omega
                  have H2 := Lib.hid h2
                  have HWI := Lib.hid hwi
                  clear h2 hv hq hwi
                  go_wp2_with (go_at_call 23; with_reducible refine (refBitPut A' L c' L V q u _ w.heap.size ho hb.size (by omega) hq64).mono ?_; rw [HWI.out]; rintro e w4 ⟨A4, c4, rfl, ho4, hb4⟩)
                  go_roundw
                  case rel => exact ⟨j + 1, _, _, A4, c4, by omega, by go_num, H2, rfl, ho4, hb.trans hb4⟩
                  case measure => simp [intOf]; omega
                · obtain rfl : j = k := by omega
                  have hpk := HP.out
                  have htl : (pks ns).take j = pks ns := by rw [← HN.out, ← length_pks, List.take_length]
                  have hT := HT.out
                  rw [htl] at hT
                  rw [hT] at hpk
                  simp only at hpk
                  have hV : V < 2 ^ L := by
                    have := tot_lt (pks ns) (pks ns).length (Nat.le_refl _)
                    rw [List.take_length, hT] at this
                    exact this
                  obtain ⟨nb, hnb⟩ : ∃ nb, nb = (L + 7) / 8 := ⟨_, rfl⟩
                  have hlb : (bytesW L V).length = nb := by rw [length_bytesW, hnb]
                  have hz : ((u : Int)) % 256 = ((UInt8.ofNat u).toNat : Int) := by rw [UInt8.toNat_ofNat']; omega
                  have hz2 : ((u : Int)) = ((UInt8.ofNat u).toNat : Int) := by rw [UInt8.toNat_ofNat']; omega
                  obtain ⟨X, hX⟩ : ∃ X, X = beN mk 8 ++ [UInt8.ofNat u] := ⟨_, rfl⟩
                  rw [← hX] at hpk
                  have hX9 : X.length = 9 := by rw [hX, List.length_append, length_beN]; rfl
                  have HPK := Lib.hid hpk.symm
                  have HXX := Lib.hid hX.symm
                  have HX9 := Lib.hid hX9
                  have HNB := Lib.hid hnb
                  have HLB := Lib.hid hlb
                  have HZ := Lib.hid hz2
                  have hlen8 : (beN mk 8).length + 1 ≤ 140737488355328 := by rw [length_beN]; omega
                  have hlenX : X.length + nb ≤ 140737488355328 := by rw [hX9, hnb]; omega
                  have hmk64 : mk < 18446744073709551616 := by omega
                  have hx := ho.bytes
                  clear hpk htl hT hnb hlb hz hz2 hX hX9 hc0
                  go_wp2_with (first
                    | (go_at_call 24; with_reducible refine (raw_any mk hmk64 _).mono ?_; rintro e w5 ⟨A5, c5, rfl, ho5, hb5⟩)
                    | (at_builtin; refine wpList_append_z rfl (.tmp 64) (.tmp 67) 22 rfl Try.underlying22 infoU8 rfl (ho5.alloc _) _ _ 1 [UInt8.ofNat u] X rfl rfl (bytesAt_one _ _ _ _ HZ.out) HXX.out hlen8 (by have := hb5.size; simp; omega) ?_; rw [HX9.out]; intro A6 c6 w6 ho6 hg6; have hb6 := (ho5.alloc _).belowGrown (Nat.le_refl _) (by have := hb5.size; simp; omega) (below_alloc (Nat.le_refl _) hb5 _) hg6; have hx6 := hx.below hb6)
                    | (go_at_call 25; with_reducible refine (refBytes_any A' L c' V _ hx6 (by omega) hV).mono ?_; rw [← HNB.out]; rintro e w7 ⟨A7, c7, rfl, ho7, hb7⟩; have hb67 := hb6.trans (hb7.mono hb6.size); have ho67 := ho6.below hb7)
                    | (at_builtin; refine wpList_append_z rfl (.tmp 68) (.tmp 70) 22 rfl Try.underlying22 infoU8 rfl ho67 _ _ nb (bytesW L V) (pk ns) rfl HLB.out ho7.bytes HPK.out hlenX (by exact hb67.size) ?_; intro A9 c9 w9 ho9 hg9; have hb9 := ho67.belowGrown (Nat.le_refl _) hb67.size hb67 hg9))
                  go_ret
                  exact ⟨A9, c9, rfl, ho9.bytes, hb.trans (hb9.mono hb.size)⟩
            · have hnlt : decide ((u : Int) < 64) = false := by rw [decide_eq_false_iff_not]; omega
              go_wp2_with fail
              go_loopw [7, 8] (fun l i wr => ∃ (j L V : Nat) (A' : Option Addr) (c' : Nat), j ≤ k ∧ i = .int .i64 j ∧ Hid (tot ((pks ns).take j) = (L, V)) ∧ l = .slice A' L c' ∧ OwnS wr w.heap.size (.slice A' L c') 5 (bl L V) ∧ Below w.heap.size w wr) (fun _ i _ => k - (intOf i).toNat)
              case atStart => exact ⟨0, 0, 0, none, 0, by omega, rfl, Lib.hid rfl, rfl, OwnS.nil _ _ _, hb⟩
              case round =>
                obtain ⟨j, L, V, A', c', hj, rfl, HT, rfl, ho, hb⟩ := hrel
                have hLs : L ≤ 64 * 200 := by
                  have := tot_le (pks ns) j (by rw [length_pks, HN.out]; exact hj)
                  rw [HT.out] at this
                  simp only at this
                  omega
                by_cases hlt3 : j < k
                · have hjl : j < ns.length := by rw [HN.out]; exact hlt3
                  have hc := (HX.out.below hb).cell j hjl
                  have h1 := HGE.out j hjl
                  have h2 := HS.out j hjl
                  rw [HT.out] at h2
                  have hv64 := HM.out _ (List.getElem_mem hjl)
                  obtain ⟨v, hv⟩ : ∃ v, v = ns[j] := ⟨_, rfl⟩
                  rw [← hv] at hc h1 h2 hv64
                  obtain ⟨q, hq⟩ : ∃ q, q = v - mk := ⟨_, rfl⟩
                  rw [← hq] at h2
                  have hqi : (v : Int) - (mk : Int) = (q : Int) := by omega
                  have hq64 : q < 18446744073709551616 := by omega
                  have hwi : wi (u : Int) = u := by unfold wi; omega
                  have H2 := Lib.hid h2
                  have HWI := Lib.hid hwi
                  clear h2 hv hq hwi
                  go_wp2_with (go_at_call 23; with_reducible refine (refBitPut A' L c' L V q u _ w.heap.size ho hb.size (by omega) hq64).mono ?_; rw [HWI.out]; rintro e w4 ⟨A4, c4, rfl, ho4, hb4⟩)
                  go_roundw
                  case rel => exact ⟨j + 1, _, _, A4, c4, by omega, by go_num, H2, rfl, ho4, hb.trans hb4⟩
                  case measure => simp [intOf]; omega
                · obtain rfl : j = k := by omega
                  have hpk := HP.out
                  have htl : (pks ns).take j = pks ns := by rw [← HN.out, ← length_pks, List.take_length]
                  have hT := HT.out
                  rw [htl] at hT
                  rw [hT] at hpk
                  simp only at hpk
                  have hV : V < 2 ^ L := by
                    have := tot_lt (pks ns) (pks ns).length (Nat.le_refl _)
                    rw [List.take_length, hT] at this
                    exact this
                  obtain ⟨nb, hnb⟩ : ∃ nb, nb = (L + 7) / 8 := ⟨_, rfl⟩
                  have hlb : (bytesW L V).length = nb := by rw [length_bytesW, hnb]
                  have hz : ((u : Int)) % 256 = ((UInt8.ofNat u).toNat : Int) := by rw [UInt8.toNat_ofNat']; omega
                  have hz2 : ((u : Int)) = ((UInt8.ofNat u).toNat : Int) := by rw [UInt8.toNat_ofNat']; omega
                  obtain ⟨X, hX⟩ : ∃ X, X = beN mk 8 ++ [UInt8.ofNat u] := ⟨_, rfl⟩
                  rw [← hX] at hpk
                  have hX9 : X.length = 9 := by rw [hX, List.length_append, length_beN]; rfl
                  have HPK := Lib.hid hpk.symm
                  have HXX := Lib.hid hX.symm
                  have HX9 := Lib.hid hX9
                  have HNB := Lib.hid hnb
                  have HLB := Lib.hid hlb
                  have HZ := Lib.hid hz2
                  have hlen8 : (beN mk 8).length + 1 ≤ 140737488355328 := by rw [length_beN]; omega
                  have hlenX : X.length + nb ≤ 140737488355328 := by rw [hX9, hnb]; omega
                  have hmk64 : mk < 18446744073709551616 := by omega
                  have hx := ho.bytes
                  clear hpk htl hT hnb hlb hz hz2 hX hX9 hc0
                  go_wp2_with (first
                    | (go_at_call 24; with_reducible refine (raw_any mk hmk64 _).mono ?_; rintro e w5 ⟨A5, c5, rfl, ho5, hb5⟩)
                    | (at_builtin; refine wpList_append_z rfl (.tmp 64) (.tmp 67) 22 rfl Try.underlying22 infoU8 rfl (ho5.alloc _) _ _ 1 [UInt8.ofNat u] X rfl rfl (bytesAt_one _ _ _ _ HZ.out) HXX.out hlen8 (by have := hb5.size; simp; omega) ?_; rw [HX9.out]; intro A6 c6 w6 ho6 hg6; have hb6 := (ho5.alloc _).belowGrown (Nat.le_refl _) (by have := hb5.size; simp; omega) (below_alloc (Nat.le_refl _) hb5 _) hg6; have hx6 := hx.below hb6)
                    | (go_at_call 25; with_reducible refine (refBytes_any A' L c' V _ hx6 (by omega) hV).mono ?_; rw [← HNB.out]; rintro e w7 ⟨A7, c7, rfl, ho7, hb7⟩; have hb67 := hb6.trans (hb7.mono hb6.size); have ho67 := ho6.below hb7)
                    | (at_builtin; refine wpList_append_z rfl (.tmp 68) (.tmp 70) 22 rfl Try.underlying22 infoU8 rfl ho67 _ _ nb (bytesW L V) (pk ns) rfl HLB.out ho7.bytes HPK.out hlenX (by exact hb67.size) ?_; intro A9 c9 w9 ho9 hg9; have hb9 := ho67.belowGrown (Nat.le_refl _) hb67.size hb67 hg9))
                  go_ret
                  exact ⟨A9, c9, rfl, ho9.bytes, hb.trans (hb9.mono hb.size)⟩
end Go.Proofs.Ytanljjpjhihgcaa
