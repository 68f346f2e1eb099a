/- pack.Put: its contract. -/
import Derived.Test.YtanljjpjhihgcaaDoorPkMin
namespace BitM
open Go.Proofs.YtanljjpjhihgcaaDoor (wi)
theorem length_pks (l : List Nat) : (pks l).length = l.length := by simp [pks]
theorem lmax_lt (l : List Nat) (h : ∀ v ∈ l, v < 18446744073709551616) : lmax l < 18446744073709551616 := by
  cases l with
  | nil => simp [lmax]
  | cons x r =>
    have : ∀ (r : List Nat) (x : Nat), x < 18446744073709551616 → (∀ y ∈ r, y < 18446744073709551616) → r.foldl max x < 18446744073709551616 := by
      intro r
      induction r with
      | nil => intro x hx _; exact hx
      | cons a r ih => intro x hx hr; exact ih _ (by have := hr a (by simp); omega) (fun y hy => hr y (by simp [hy]))
    exact this r x (h x (by simp)) (fun y hy => h y (by simp [hy]))
theorem wid_le (l : List Nat) (h : ∀ v ∈ l, v < 18446744073709551616) : wid l ≤ 64 := by
  refine lenB_le _ _ ?_
  have := lmax_lt l h
  have e : (2 : Nat) ^ 64 = 18446744073709551616 := by decide
  omega
theorem pk_cons {l : List Nat} (h : l ≠ []) (hm : ∀ v ∈ l, v < 18446744073709551616) : pk l = bytesW (72 + (tot (pks l)).1) ((lmin l * 256 + wid l) * 2 ^ (tot (pks l)).1 + (tot (pks l)).2) := by
  have hV : (tot (pks l)).2 < 2 ^ (tot (pks l)).1 := by
    have := tot_lt (pks l) (pks l).length (Nat.le_refl _)
    rwa [List.take_length] at this
  unfold pk
  rw [if_neg h]
  have e := bytesW_head 9 (lmin l * 256 + wid l) _ _ hV
  rw [show 8 * 9 = 72 from rfl] at e
  have hw := wid_le l hm
  have e2 := beN_cat (lmin l) (wid l) 8 1 (by omega)
  rw [Nat.pow_one, show 8 + 1 = 9 from rfl] at e2
  rw [e, e2]
theorem pks_succ (l : List Nat) (k : Nat) (h : k < l.length) (hw : wid l ≤ 64) :
    tot ((pks l).take (k + 1)) = ((tot ((pks l).take k)).1 + wid l, (tot ((pks l).take k)).2 * 2 ^ wid l + (l[k] - lmin l) % 2 ^ wid l) := by
  have hk : k < (pks l).length := by rw [length_pks]; exact h
  have e := tot_succ (pks l) k hk
  have hq : (pks l)[k] = (l[k] - lmin l, (wid l : Int)) := by simp [pks]
  have hwi : wi (wid l : Int) = wid l := by unfold wi; omega
  rw [hq] at e
  simp only [hwi] at e
  exact e
theorem pks_step (a L V W d : Nat) : (a * 2 ^ L + V) * 2 ^ W + d % 2 ^ W = a * 2 ^ (L + W) + (V * 2 ^ W + d % 2 ^ W) := by
  rw [Nat.add_mul, Nat.mul_assoc, ← Nat.pow_add, Nat.add_assoc]
end BitM
namespace Go.Proofs.YtanljjpjhihgcaaDoor
open Go.RowKit BitM
set_option linter.unusedVariables false

theorem packPut_large (A : Option Addr) (n c : Nat) (w : World) (h : 200 < n) (hl : n ≤ 100000000) :
    Calls Tryd.prog 52 #[.slice A n c] w fun e w' => e = .returned (.tuple #[.slice none 0 0, .int .i64 1]) ∧ w = w' := by
  go_enter Tryd.func52, Tryd.ntmps52
  go_wp2_with fail
  go_ret2
  exact ⟨rfl, rfl⟩

set_option maxHeartbeats 400000 in
set_option maxRecDepth 100000 in
theorem packPut_any (A : Option Addr) (n c : Nat) (ns : List Nat) (w : World) (hn : ns.length = n) (hx : NatsAt w A ns) (hl : n ≤ 200) (hm : ∀ v ∈ ns, v < 18446744073709551616) :
    Calls Tryd.prog 52 #[.slice A n c] w fun e w' => ∃ A' c', e = .returned (.tuple #[.slice A' (pk ns).length c', .int .i64 0]) ∧ BytesAt w' A' (pk ns) ∧ Below w.heap.size w w' ∧ (pk ns).length ≤ c' ∧ c' ≤ maxLen := by
  by_cases hne : ns = []
  · subst hne
    have hn0 : n = 0 := by simpa using hn.symm
    subst hn0
    go_enter Tryd.func52, Tryd.ntmps52
    go_wp2_with fail
    go_ret2
    exact ⟨none, 0, rfl, fun h => absurd rfl h, Below.refl _ _, Nat.le_refl _, by unfold maxLen; omega⟩
  · have hpos : 0 < n := by
      rcases Nat.eq_zero_or_pos n with h | h
      · rw [h] at hn
        exact absurd (List.eq_nil_of_length_eq_zero hn) hne
      · exact h
    have hpk := pk_cons hne hm
    have hwl := wid_le ns hm
    obtain ⟨b, off, rfl⟩ := hx.addr hne
    obtain ⟨m, hmn⟩ : ∃ m, m = lmin ns := ⟨_, rfl⟩
    obtain ⟨M, hmx⟩ : ∃ M, M = lmax ns := ⟨_, rfl⟩
    obtain ⟨W, hW⟩ : ∃ W, W = wid ns := ⟨_, rfl⟩
    have hs : ∀ k (h : k < ns.length), tot ((pks ns).take (k + 1)) = ((tot ((pks ns).take k)).1 + W, (tot ((pks ns).take k)).2 * 2 ^ W + (ns[k] - m) % 2 ^ W) := fun k h => by rw [hW, hmn]; exact pks_succ ns k h hwl
    have hge : ∀ k (h : k < ns.length), m ≤ ns[k] := fun k h => by rw [hmn]; exact lmin_le (List.getElem_mem h)
    have hmM : m ≤ M := by
      have h1 := lmin_le (List.getElem_mem (show 0 < ns.length by omega))
      have h2 := le_lmax (List.getElem_mem (show 0 < ns.length by omega))
      omega
    have hM64 : M < 18446744073709551616 := by rw [hmx]; exact lmax_lt ns hm
    obtain ⟨d, hd⟩ : ∃ d, d = M - m := ⟨_, rfl⟩
    have hdi : (M : Int) - (m : Int) = (d : Int) := by omega
    have hWd : W = lenB d := by rw [hW, hd, hmx, hmn]; rfl
    have hd64 : d < 18446744073709551616 := by omega
    have hm64 : m < 18446744073709551616 := by omega
    rw [← hmn, ← hW] at hpk
    rw [← hW] at hwl
    have HS := Lib.hid hs
    have HGE := Lib.hid hge
    have HPK := Lib.hid hpk
    have HMN := Lib.hid hmn
    have HMX := Lib.hid hmx
    have HWD := Lib.hid hWd
    have hv1 : m = 0 * 2 ^ 64 + m % 2 ^ 64 := by rw [Nat.zero_mul, Nat.zero_add]; exact (Nat.mod_eq_of_lt (by omega)).symm
    have hv2 : m * 256 + W = m * 2 ^ 8 + W % 2 ^ 8 := by rw [Nat.mod_eq_of_lt (by omega)]
    have HV1 := Lib.hid hv1
    have HV2 := Lib.hid hv2
    have hN := Lib.hid hn
    have hmAll := Lib.hid hm
    clear hs hge hpk hmn hmx hW hWd hd hv1 hv2 hm hn
    have hb0 : Below w.heap.size w (w.alloc (.cells #[.pointer none, .int .u64 0, .int .i64 0] 66)) := (Below.refl _ _).alloc (Nat.le_refl _) _
    have hw0 := WSt.new w w.heap.size (Nat.le_refl _)
    go_enter Tryd.func52, Tryd.ntmps52
    go_wp2_with (first
      | (go_at_call 68; with_reducible refine (min_any _ n c ns _ hN.out hx (by omega) hpos).mono ?_; rw [← HMN.out]; rintro e w1 ⟨rfl, rfl⟩)
      | (go_at_call 70; with_reducible refine (max_any _ n c ns _ hN.out hx (by omega) hpos).mono ?_; rw [← HMX.out]; rintro e w1 ⟨rfl, rfl⟩)
      | (go_at_call 69; with_reducible refine (len64_any d hd64 _).mono ?_; rw [← HWD.out]; rintro e w1 ⟨rfl, rfl⟩)
      | (go_at_call 35; with_reducible refine (wput_to w.heap.size w.heap.size 0 0 64 m m 64 m _ hw0 rfl (by omega) 64 (by decide) (by decide) HV1.out).mono ?_; rintro e w1 ⟨rfl, hw1, hg1⟩; have hb1 := below_some (by simp) (Nat.le_refl _) hb0 hg1)
      | (go_at_call 35; with_reducible refine (wput_to w.heap.size w.heap.size 64 m 72 (m * 256 + W) W 8 W _ hw1 rfl (by omega) 8 (by decide) (by decide) HV2.out).mono ?_; rintro e w2 ⟨rfl, hw2, hg2⟩; have hb2 := below_some hb1.size (Nat.le_refl _) hb1 hg2))
    go_loopw [29] (fun i wr => ∃ (k L V : Nat), k ≤ n ∧ Hid (L = 72 + (tot ((pks ns).take k)).1) ∧ Hid (V = (m * 256 + W) * 2 ^ (tot ((pks ns).take k)).1 + (tot ((pks ns).take k)).2) ∧ i = .int .i64 k ∧ WSt wr w.heap.size w.heap.size L V ∧ Below w.heap.size w wr) (fun i _ => n - (intOf i).toNat)
    case atStart => exact ⟨0, 72, m * 256 + W, by omega, Lib.hid rfl, Lib.hid (by simp [tot]), rfl, hw2, hb2⟩
    case round =>
      obtain ⟨k, L, V, hk, HL, HV, rfl, hw, hb⟩ := hrel
      by_cases hlt : k < n
      · have hkl : k < ns.length := by rw [hN.out]; exact hlt
        have hc := (hx.below hb).cell k hkl
        have h1 := HGE.out k hkl
        have h2 := HS.out k hkl
        have hv64 := hmAll.out _ (List.getElem_mem hkl)
        obtain ⟨v, hv⟩ : ∃ v, v = ns[k] := ⟨_, rfl⟩
        rw [← hv] at hc h1 h2 hv64
        obtain ⟨q, hq⟩ : ∃ q, q = v - m := ⟨_, rfl⟩
        rw [← hq] at h2
        have hqi : (v : Int) - (m : Int) = (q : Int) := by omega
        have hq64 : q < 18446744073709551616 := by omega
        have H2 := Lib.hid h2
        have hL2 : L + W = 72 + (tot ((pks ns).take (k + 1))).1 := by have := HL.out; rw [h2]; simp only; omega
        have hV2 : V * 2 ^ W + q % 2 ^ W = (m * 256 + W) * 2 ^ (tot ((pks ns).take (k + 1))).1 + (tot ((pks ns).take (k + 1))).2 := by
          rw [h2, HV.out]
          exact pks_step _ _ _ _ _
        have HL2 := Lib.hid hL2
        have HV2' := Lib.hid hV2
        have hwi : W = wi (W : Int) := by unfold wi; omega
        have HWI := Lib.hid hwi
        clear h2 hv hq hL2 hV2 hwi
        go_wp2_with (go_at_call 35; with_reducible refine (wput_to w.heap.size w.heap.size L V (L + W) (V * 2 ^ W + q % 2 ^ W) q W q _ hw rfl hq64 W HWI.out rfl rfl).mono ?_; rintro e w3 ⟨rfl, hw3, hg3⟩; have hb3 := below_some hb.size (Nat.le_refl _) hb hg3)
        go_roundw
        case rel => exact ⟨k + 1, _, _, by omega, HL2, HV2', by go_num, hw3, hb3⟩
        case measure => simp [intOf]; omega
      · obtain rfl : k = n := by omega
        have hpk := HPK.out
        have htl : (pks ns).take k = pks ns := by rw [← hN.out, ← length_pks, List.take_length]
        have hL := HL.out
        have hV := HV.out
        rw [htl] at hL hV
        rw [← hL, ← hV] at hpk
        have hlen : (pk ns).length = (L + 7) / 8 := by rw [hpk, length_bytesW]
        have hLs : L ≤ 60000000 := by
          have := tot_le (pks ns) (pks ns).length (Nat.le_refl _)
          rw [List.take_length, length_pks, hN.out] at this
          omega
        have HPK2 := Lib.hid hpk
        have HLEN := Lib.hid hlen
        clear hpk htl hL hV hlen
        go_wp2_with (go_at_call 37; with_reducible refine (wbytes_st w.heap.size w.heap.size L V (pk ns).length _ hw hLs HLEN.out).mono ?_; rw [← HPK2.out]; rintro e w5 ⟨A5, c5, rfl, hx5, h5a, h5b, h5c, hb5⟩)
        go_ret2
        exact ⟨A5, c5, rfl, hx5, hb.trans (hb5.mono hb.size), h5a, h5b⟩
end Go.Proofs.YtanljjpjhihgcaaDoor
