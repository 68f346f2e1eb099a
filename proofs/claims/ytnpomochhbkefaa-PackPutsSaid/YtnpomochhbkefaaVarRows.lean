/- The walk of VarintRows. -/
import Derived.Test.YtnpomochhbkefaaVarLaws
import Derived.Test.YtnpomochhbkefaaRowKit
namespace Go.Proofs.Ytnpomochhbkefaa
open Go.RowKit VarM
set_option linter.unusedVariables false

/-- Numbers side by side. -/
def vall (l : List Nat) : List UInt8 := l.flatMap vput
theorem vall_snoc (l : List Nat) (n : Nat) : vall (l ++ [n]) = vall l ++ vput n := by simp [vall]
theorem vall_len (l : List Nat) (h : ∀ n ∈ l, n < 18446744073709551616) : (vall l).length ≤ 10 * l.length := by
  induction l with
  | nil => simp [vall]
  | cons a l ih =>
    have h1 := ih (fun n hn => h n (by simp [hn]))
    have h2 := vput_len10 (h a (by simp))
    simp only [vall, List.flatMap_cons, List.length_append, List.length_cons] at *
    omega

theorem put_more (A : Option Addr) (n c : Nat) (xs : List UInt8) (w : World) (hn : xs.length = n) (hx : BytesAt w A xs) (hl : n ≤ 100000000) (h0 : A = none → n = 0 ∧ c = 0) (v : Nat) (hv : v < 18446744073709551616) :
    Calls Try.prog 27 #[.slice A n c, .int .u64 v] w fun e w' => ∃ A' c', e = .returned (.slice A' (xs ++ vput v).length c') ∧ BytesAt w' A' (xs ++ vput v) ∧ (xs ++ vput v).length ≤ c' ∧ c' ≤ maxLen ∧ (A' = none → (xs ++ vput v).length = 0 ∧ c' = 0) ∧ Below w.heap.size w w' := by
  refine (put_any A n c xs w hn hx hl h0 v hv).mono ?_
  rintro e w' ⟨A', c', rfl, ho, hb⟩
  obtain ⟨A2, c2, he, hby, hl, hm, _⟩ := ho.slice
  injection he with h1 h2 h3
  subst h1
  subst h3
  refine ⟨A', c', rfl, hby, hl, hm, ?_, hb⟩
  rintro rfl
  rcases ho.cases with ⟨h4, h5⟩ | ⟨g, cap, h4, _⟩
  · injection h4 with _ h6 h7
    exact ⟨h6, h7⟩
  · injection h4 with h6
    cases h6

theorem get_more (A : Option Addr) (n c : Nat) (X rest : List UInt8) (w : World) (v : Nat) (q : Nat) (hq : q = (vput v).length) (hX : X = vput v ++ rest) (hn : X.length = n) (hx : BytesAt w A X) (hv : v < 18446744073709551616) :
    Calls Try.prog 30 #[.slice A n c] w fun e w' => e = .returned (.tuple #[.int .u64 (v : Int), .int .i64 (q : Int), .int .i64 0]) ∧ w = w' := by
  subst hq
  have h := get_any A n c X w hn hx
  have e := vget_put rest v 0 0 (by omega) (by simpa using hv) (fun h => absurd h (by omega))
  rw [hX, e] at h
  simpa using h

/-- The first m of the numbers that came in. -/
def natsOf (zs : List Int) (m : Nat) : List Nat := (zs.take m).map Int.toNat
theorem natsOf_succ (zs : List Int) (m : Nat) (h : m < zs.length) : natsOf zs (m + 1) = natsOf zs m ++ [zs[m].toNat] := by
  unfold natsOf
  rw [List.take_succ_eq_append_getElem h, List.map_append]
  rfl

set_option maxHeartbeats 400000 in
set_option maxRecDepth 100000 in
theorem varintRows_walk (A : Option Addr) (cap : Nat) (zs : List Int) {w : World} (hx : NumRow .u64 w A zs) (hlc : zs.length ≤ cap) (hcm : cap ≤ maxLen) :
    Calls Try.prog 8 #[.slice A zs.length cap] w fun e w' => e = .returned (.bool true) ∧ Below w.heap.size w w' := by
  have hz : ∀ n ∈ zs, 0 ≤ n ∧ n < 18446744073709551616 := fun n hn => by have := bounds_u64 (hx.1 n hn); omega
  have hnat : ∀ m, ∀ n ∈ natsOf zs m, n < 18446744073709551616 := fun m n hn => by
    simp only [natsOf, List.mem_map] at hn
    obtain ⟨z, hz1, rfl⟩ := hn
    have := hz z (List.mem_of_mem_take hz1)
    omega
  have hlen : ∀ m, m ≤ 40 → (vall (natsOf zs m)).length ≤ 400 := fun m hm => by
    have := vall_len _ (hnat m)
    have : (natsOf zs m).length ≤ m := by simp [natsOf]; omega
    omega
  have HN := Lib.hid hnat
  have HL := Lib.hid hlen
  have HZ := Lib.hid hz
  have HX := Lib.hid hx
  unfold maxLen at hcm
  clear hnat hlen hz hx
  go_enter Try.func8, Try.ntmps8
  go_wp2_with fail
  go_loopw [3, 4] (fun v i wr => ∃ (k : Nat) (A1 : Option Addr) (c1 : Nat), k ≤ zs.length ∧ k ≤ 40 ∧ i = .int .i64 k ∧ v = .slice A1 (vall (natsOf zs k)).length c1 ∧ BytesAt wr A1 (vall (natsOf zs k)) ∧ (vall (natsOf zs k)).length ≤ c1 ∧ c1 ≤ maxLen ∧ (A1 = none → (vall (natsOf zs k)).length = 0 ∧ c1 = 0) ∧ Below w.heap.size w wr) (fun _ i _ => 40 - (intOf i).toNat)
  case atStart => exact ⟨0, none, 0, by omega, by omega, rfl, rfl, fun h => absurd rfl h, Nat.le_refl _, by unfold maxLen; omega, fun _ => ⟨rfl, rfl⟩, Below.refl _ _⟩
  case round =>
    obtain ⟨k, A1, c1, hk, hk4, rfl, rfl, hby, hl1, hm1, hn1, hb⟩ := hrel
    have HV := Lib.hid (HL.out k hk4)
    by_cases hlt : k < zs.length ∧ k < 40
    · obtain ⟨hlt, hlt4⟩ := hlt
      obtain ⟨b, off, rfl, hc⟩ := HX.out.2 (by intro h; subst h; simp at hlt)
      have hck0 := hc k hlt
      have hblt := World.block_lt_of_cell? w _ hck0
      have hck := (World.cell?_of_block (a := ⟨b, off + k, none⟩) (hb.block _ hblt)).trans hck0
      have hv := HZ.out _ (List.getElem_mem hlt)
      have hsucc := natsOf_succ zs k hlt
      obtain ⟨v, hv2⟩ : ∃ v : Nat, zs[k] = (v : Int) := ⟨zs[k].toNat, by omega⟩
      rw [hv2] at hck hsucc hv
      rw [Int.toNat_natCast] at hsucc
      have hS := congrArg vall hsucc
      rw [vall_snoc] at hS
      generalize hX : vall (natsOf zs k) = X at *
      have hv64 : v < 18446744073709551616 := by omega
      have HS := Lib.hid hS
      have HX' := Lib.hid hX
      clear hc hck0 hv2 hsucc hS hX hv
      go_wp2_with (go_at_call 27; refine (put_more A1 _ c1 X _ rfl hby (by have := HV.out; omega) hn1 v hv64).mono ?_; rintro e w2 ⟨A2, c2, rfl, hby2, hl2, hm2, hn2, hb2⟩)
      go_roundw
      case rel => exact ⟨k + 1, A2, c2, by omega, by omega, by go_num, by rw [HS.out, List.length_append], by rw [HS.out]; exact hby2, by rw [HS.out]; exact hl2, hm2, by rw [HS.out]; exact hn2, hb.trans (hb2.mono hb.size)⟩
      case measure => simp [intOf]; omega
    · have hend : k = zs.length ∨ k < zs.length ∧ k = 40 := by omega
      clear hlt HV
      have hnd : ∀ i (h : i < k) (h2 : i < zs.length), vall ((natsOf zs k).drop i) = vput (zs[i].toNat) ++ vall ((natsOf zs k).drop (i + 1)) := by
        intro i h h2
        have hl : i < (natsOf zs k).length := by simp [natsOf]; omega
        rw [List.drop_eq_getElem_cons hl]
        have : (natsOf zs k)[i] = zs[i].toNat := by simp [natsOf]
        rw [this]
        rfl
      have hall : vall ((natsOf zs k).drop k) = [] := by
        rw [List.drop_of_length_le (by simp [natsOf]; omega)]
        rfl
      have hfirst : vall (natsOf zs k) = vall ((natsOf zs k).drop 0) := rfl
      rw [hfirst] at hby hl1
      generalize hN : natsOf zs k = N at *
      have HND := Lib.hid hnd
      have HALL := Lib.hid hall
      clear hnd hall hfirst hN hn1
      have hdd : zs.length ≤ k ∨ k < zs.length ∧ 40 ≤ k := by omega
      clear hend
      rcases hdd with hd1 | ⟨hd1, hd2⟩
      all_goals
        go_wp2_with fail
        all_goals skip
        go_loop [3, 5] (fun v i => ∃ (j : Nat) (A2 : Option Addr) (n2 c2 : Nat), j ≤ k ∧ i = .int .i64 j ∧ v = .slice A2 n2 c2 ∧ n2 = (vall (N.drop j)).length ∧ BytesAt wr A2 (vall (N.drop j)) ∧ n2 ≤ c2 ∧ c2 ≤ maxLen) (fun _ i => 40 - (intOf i).toNat)
        case atStart => exact ⟨0, A1, _, c1, by omega, rfl, rfl, rfl, hby, hl1, hm1⟩
        case round =>
          obtain ⟨j, A2, n2, c2, hj, rfl, rfl, hn2, hby2, hl2, hm2⟩ := hrel
          unfold maxLen at hm2
          by_cases hlt : j < k
          · have hjz : j < zs.length := by omega
            have hd := HND.out j hlt hjz
            obtain ⟨b, off, rfl, hc⟩ := HX.out.2 (by intro h; subst h; simp at hjz)
            have hck0 := hc j hjz
            have hblt := World.block_lt_of_cell? w _ hck0
            have hck := (World.cell?_of_block (a := ⟨b, off + j, none⟩) (hb.block _ hblt)).trans hck0
            have hv := HZ.out _ (List.getElem_mem hjz)
            obtain ⟨v, hv2⟩ : ∃ v : Nat, zs[j] = (v : Int) := ⟨zs[j].toNat, by omega⟩
            rw [hv2] at hck hd hv
            rw [Int.toNat_natCast] at hd
            have hv64 : v < 18446744073709551616 := by omega
            have hp := vput_len_pos v
            generalize hX : vall (N.drop j) = X at *
            generalize hR : vall (N.drop (j + 1)) = R at *
            obtain ⟨A3, o3, rfl, hc3⟩ := hby2 (by rw [hd]; intro h; simp at h; have := h.1; rw [this] at hp; simp at hp)
            have hby2 : BytesAt wr (some ⟨A3, o3, none⟩) X := fun _ => ⟨A3, o3, rfl, hc3⟩
            have hXl : n2 = (vput v).length + R.length := by rw [hn2, hd, List.length_append]
            have hdr : X.drop (vput v).length = R := by rw [hd, List.drop_left']; rfl
            obtain ⟨q, hq⟩ : ∃ q, q = (vput v).length := ⟨_, rfl⟩
            have HQ := Lib.hid hq
            rw [← hq] at hp hXl hdr
            have HD := Lib.hid hd
            have HR := Lib.hid hR
            have HXL := Lib.hid hn2.symm
            have HDR := Lib.hid hdr
            have q1 : decide ((q : Int) < 1) = false := by simp; omega
            have q3 : q ≤ n2 := by omega
            have HNL := Lib.hid hXl
            clear hXl
            have q2 : decide ((n2 : Int) < (q : Int)) = false := by simp; omega
            clear hc hck0 hv2 hX hR hd hdr hq hc3 hn2
            go_wp2_with (go_at_call 30; with_reducible refine (get_more (some ⟨A3, o3, none⟩) n2 c2 X R _ v q HQ.out HD.out HXL.out hby2 hv64).mono ?_; rintro e w2 ⟨rfl, rfl⟩)
            all_goals
              go_round
              case rel =>
                refine ⟨j + 1, _, n2 - q, c2 - q, by omega, by go_num, rfl, by rw [HR.out]; have := HNL.out; omega, ?_, by omega, by unfold maxLen; omega⟩
                rw [HR.out, ← HDR.out]
                refine hby2.cut q _ (fun hlt2 => ?_)
                have := HXL.out
                rw [if_neg (by omega), Option.map_some, Addr.add_lit]
              case measure => simp [intOf]; omega
          · obtain rfl : j = k := by omega
            rw [HALL.out] at hn2
            subst hn2
            go_wp2_with (go_at_call 29; refine (vputs_any _).mono ?_; rintro e w1 ⟨rfl, hb1⟩)
            go_ret
            exact ⟨rfl, hb.trans (hb1.mono hb.size)⟩
end Go.Proofs.Ytnpomochhbkefaa
