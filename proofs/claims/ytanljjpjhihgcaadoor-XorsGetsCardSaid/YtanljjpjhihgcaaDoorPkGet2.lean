/- pack.Get: its contract, in all ways. -/
import Derived.Test.YtanljjpjhihgcaaDoorPkLaws
namespace BitM
theorem mid_byte0 (X : List UInt8) (i : Nat) (h : i < X.length) : mid (valB X) (8 * X.length) (8 * i) (8 * i + 8) = X[i].toNat := by
  have hq : 8 * i / 8 = i := by omega
  have h1 := mid_byte X (8 * i) 8 (by omega) (by omega)
  rw [h1]
  have : (X[8 * i / 8]'(by omega)).toNat = X[i].toNat := by simp only [hq]
  rw [this, show 8 - 8 * i % 8 - 8 = 0 by omega, Nat.pow_zero, Nat.div_one]
  exact Nat.mod_eq_of_lt (X[i].toNat_lt)
/-- The number k of those that are laid in so many bits behind the header. -/
def numAt (X : List UInt8) (m W k : Nat) : Nat := (m + mid (valB X) (8 * X.length) (72 + k * W) (72 + k * W + W)) % 18446744073709551616
def numsAt (X : List UInt8) (m W n : Nat) : List Nat := (List.range n).map (numAt X m W)
theorem numsAt_length (X : List UInt8) (m W n : Nat) : (numsAt X m W n).length = n := by simp [numsAt]
theorem numsAt_get (X : List UInt8) (m W n k : Nat) (h : k < (numsAt X m W n).length) : (numsAt X m W n)[k] = numAt X m W k := by simp [numsAt]
theorem numsAt_lt (X : List UInt8) (m W n : Nat) : ∀ v ∈ numsAt X m W n, v < 18446744073709551616 := by
  intro v hv
  simp only [numsAt, List.mem_map, List.mem_range] at hv
  obtain ⟨k, _, rfl⟩ := hv
  exact Nat.mod_lt _ (by omega)
/-- The error, the numbers and the size that n numbers of bytes come to. -/
def unpk (X : List UInt8) (n : Nat) : List Nat × Nat × Nat :=
  if n = 0 then ([], 0, 0) else
  if X.length < 9 then ([], 0, 4) else
  let m := mid (valB X) (8 * X.length) 0 64
  let W := mid (valB X) (8 * X.length) 64 72
  if 64 < W then ([], 0, 3) else
  if X.length < 9 + (n * W + 7) / 8 then ([], 0, 4) else
  if pk (numsAt X m W n) = X.take (9 + (n * W + 7) / 8) then (numsAt X m W n, 9 + (n * W + 7) / 8, 0) else ([], 0, 3)
end BitM
namespace Go.Proofs.YtanljjpjhihgcaaDoor
open Go.RowKit BitM RunM
set_option linter.unusedVariables false

theorem equal_ne (A B : Option Addr) (c d n m : Nat) (xs ys : List UInt8) (w : World) (hn : xs.length = n) (hm : ys.length = m) (hx : BytesAt w A xs) (hy : BytesAt w B ys) (he : xs ≠ ys) :
    Calls Tryd.prog 34 #[.slice A n c, .slice B m d] w fun e w' => e = .returned (.bool false) ∧ w = w' := by
  have e1 := text_n A n c xs hn hx
  have e2 := text_n B m d ys hm hy
  have hs : (xs == ys) = false := by rw [beq_eq_false_iff_ne]; exact he
  go_enter Tryd.func34, Tryd.ntmps34
  go_wp2_with fail
  try rw [hs]
  go_ret
  exact ⟨rfl, rfl⟩

set_option maxHeartbeats 800000 in
set_option maxRecDepth 100000 in
theorem packGet_bad (A : Option Addr) (len c n : Nat) (X : List UInt8) (ns : List Nat) (m W sz : Nat) (w : World) (hX : BytesAt w A X) (hlen : X.length = len) (hl : len ≤ 1000000) (hc : len ≤ c) (hcm : c ≤ maxLen) (hpos : 0 < n) (hn2 : n ≤ 200)
    (h0 : mid (valB X) (8 * len) 0 64 = m) (h1 : mid (valB X) (8 * len) 64 72 = W) (hW : W ≤ 64) (hsz : sz = 9 + (n * W + 7) / 8) (hszl : sz ≤ len) (hns : ns.length = n) (hm64 : ∀ v ∈ ns, v < 18446744073709551616)
    (hk : ∀ k (h : k < ns.length), (m + mid (valB X) (8 * len) (72 + k * W) (72 + k * W + W)) % 18446744073709551616 = ns[k]) (hneq : pk ns ≠ X.take sz) :
    Calls Tryd.prog 75 #[.slice A len c, .int .i64 (n : Int)] w fun e w' => e = .returned (.tuple #[.slice none 0 0, .int .i64 0, .int .i64 3]) ∧ Below w.heap.size w w' := by
  have hlen9 : 9 ≤ len := by omega
  have hnw : n * W ≤ 200 * 64 := Nat.mul_le_mul hn2 hW
  obtain ⟨s, hs⟩ : ∃ s, s = n * W := ⟨_, rfl⟩
  have hsi : (n : Int) * (W : Int) = (s : Int) := by rw [hs]; push_cast; rfl
  rw [← hs] at hsz hnw
  have hszi : (9 : Int) + ((s : Int) + 7) / 8 = (sz : Int) := by omega
  have hwi : W = wi (W : Int) := by unfold wi; omega
  obtain ⟨iu, hiu, hz0, hz1, hz2⟩ := info_parts infoU64
  have hz3 : iu.bytes * n ≤ 281474976710656 := by rw [hz2]; omega
  have hxt : BytesAt w A (X.take sz) := hX.take sz
  have hxtl : (X.take sz).length = sz := by rw [List.length_take, hlen]; omega
  have HX := Lib.hid hlen
  have H0 := Lib.hid h0
  have H1 := Lib.hid h1
  have HK := Lib.hid hk
  have HNEQ := Lib.hid hneq
  have HNS := Lib.hid hns
  have HM64 := Lib.hid hm64
  have HWI := Lib.hid hwi
  have HS := Lib.hid hs
  have HSZ := Lib.hid hsz
  have HXT := Lib.hid hxt
  have HXTL := Lib.hid hxtl
  unfold maxLen at hcm
  clear hlen h0 h1 hk hneq hns hm64 hwi hs hsz hxt hxtl hz2
  go_enter Tryd.func75, Tryd.ntmps75
  go_wp2_with (first
    | (go_at_call 40; with_reducible refine (new_any A len c _).mono ?_; rintro e w1 ⟨rfl, hr1, hl1, hb1⟩; have hx1 := hX.below hb1)
    | (go_at_call 41; with_reducible refine (take_q w.heap.size A len c 0 64 64 X m _ hr1 hx1 HX.out (by omega) (by decide) (by omega) H0.out).mono ?_; rintro e w2 ⟨rfl, hr2, hg2⟩; have hx2 := bytes_past hr1 hx1 hg2; have hb2 := below_some hb1.size (Nat.le_refl _) hb1 hg2)
    | (go_at_call 41; with_reducible refine (take_q w.heap.size A len c 64 72 8 X W _ hr2 hx2 HX.out (by omega) (by decide) (by omega) H1.out).mono ?_; rintro e w3 ⟨rfl, hr3, hg3⟩; have hx3 := bytes_past hr2 hx2 hg3; have hb3 := below_some hb2.size (Nat.le_refl _) hb2 hg3)
    | (at_make; refine wpList_make_full _ rfl (.tmp 45) (.tmp 45) 34 rfl w.heap.size 22 iu (.int .u64 0) 1 Tryd.underlying34 hiu hz0 hz1 .i64 .i64 n n n rfl rfl rfl rfl hz3 (by unfold maxLen; omega) (by exact hb3.size) ?_; intro w4 ho4 hg4))
  have hb4 := below_grown (Nat.le_refl _) hb3 hg4
  have ho4' := own_made ho4
  have hbel := grown_below hg4
  have hr4 := hr3.below hbel
  have hg0 := hr3.cells.2.2.2.2.2.2
  have hne : w.heap.size ≠ w3.heap.size := by omega
  have hne2 : w3.heap.size ≠ w.heap.size := fun h => hne h.symm
  have hw3 : w.heap.size ≤ w3.heap.size := hb3.size
  obtain ⟨f, hf⟩ : ∃ f : Nat → Nat, f = fun j => ns.getD j 0 := ⟨_, rfl⟩
  have hpa : part f n n = ns := by rw [hf, ← HNS.out]; exact part_of ns
  have HPA := Lib.hid hpa
  have HF := Lib.hid hf
  rw [← part_zero f] at ho4'
  clear hpa hf
  clear hg4 ho4 hbel hr3 hx3 hb3 hg3 hr2 hx2 hb2 hg2 hr1 hx1 hb1 hl1
  generalize w3.heap.size = ga at *
  go_loopw [49] (fun i wr => ∃ k P : Nat, k ≤ n ∧ i = .int .i64 k ∧ Hid (P = 72 + k * W) ∧ RdAt wr w.heap.size A len c P false ∧ OwnN wr w.heap.size (.slice (some ⟨ga, 0, none⟩) n n) (part f n k) ∧ Below w.heap.size w wr) (fun i _ => n - (intOf i).toNat)
  case atStart => exact ⟨0, 72, by omega, rfl, Lib.hid (by omega), hr4, ho4', hb4⟩
  case round =>
    obtain ⟨k, P, hkn, rfl, HP, hr, ho, hb⟩ := hrel
    by_cases hlt : k < n
    · have hkl : k < ns.length := by rw [HNS.out]; exact hlt
      have h2 := HK.out k hkl
      rw [← HP.out] at h2
      obtain ⟨M, hM⟩ : ∃ M, M = mid (valB X) (8 * len) P (P + W) := ⟨_, rfl⟩
      rw [← hM] at h2
      obtain ⟨v, hv⟩ : ∃ v, v = ns[k] := ⟨_, rfl⟩
      rw [← hv] at h2
      have hgd : f k = v := by rw [HF.out]; simp [List.getElem?_eq_getElem hkl, hv]
      have hadd : IntKind.u64.wrap ((m : Int) + (M : Int)) = (v : Int) := by rw [IntKind.wrap_u64]; omega
      have HGD := Lib.hid hgd
      have hkW : (k + 1) * W ≤ n * W := Nat.mul_le_mul_right W (by omega)
      have hkW2 : (k + 1) * W = k * W + W := by rw [Nat.add_mul, Nat.one_mul]
      have hPb : P + W ≤ 8 * len := by have := HP.out; have := HSZ.out; have := HS.out; omega
      have HPB := Lib.hid hPb
      have hP2 : P + W = 72 + (k + 1) * W := by have := HP.out; omega
      have HP2 := Lib.hid hP2
      have HM := Lib.hid hM.symm
      have hq : P + W = P + wi (W : Int) := by rw [← HWI.out]
      have HQ := Lib.hid hq
      clear h2 hM hv hgd hkW hkW2 hPb hP2 hq
      go_wp2_with fail
      go_loud (with_reducible refine (take_q w.heap.size A len c P (P + W) W X M _ hr (hX.below hb) HX.out (by omega) HQ.out HPB.out HM.out).mono ?_)
      rintro e w7 ⟨rfl, hr7, hg7⟩
      have hb7 := below_some hb.size (Nat.le_refl _) hb hg7
      have ho7 : OwnN w7 w.heap.size (.slice (some ⟨ga, 0, none⟩) n n) (part f n k) := OwnV.keep ho (fun g hg => by simp [Value.ownBlock] at hg; subst hg; exact hg7.block ga ((OwnV.block ho _ rfl).2) (by simp; omega))
      obtain ⟨ra1, ra2, ra3, ra4, ra5, ra6, ra7⟩ := OwnV.row ho7
      have ca := ra6 k (by rw [ra2]; exact hlt)
      have fa := ra7 k
      clear ra6 ra7
      go_wp2_with fail
      go_roundw
      case rel =>
        have e := OwnV.stored ho7 k (uv (f k))
        rw [part_set f n k hlt, HGD.out] at e
        refine ⟨k + 1, P + W, by omega, by go_num, HP2, ?_, e, hb7.setCell ra1 _⟩
        unfold RdAt
        rw [heap_setCell_other _ _ _ _ hne]
        exact hr7
      case measure => simp [intOf]; omega
    · obtain rfl : k = n := by omega
      rw [HPA.out] at ho
      have hnats := OwnN.nats ho
      clear hr
      go_wp2_with (first
        | (go_at_call 52; with_reducible refine (packPut_any (some ⟨ga, 0, none⟩) k k ns _ HNS.out hnats hn2 HM64.out).mono ?_; rintro e w8 ⟨A8, c8, rfl, hx8, hb8, _, _⟩; have hxt8 := (HXT.out.below hb).below hb8)
        | (go_at_call 34; with_reducible refine (equal_ne A8 A c8 c _ sz (pk ns) (X.take sz) _ rfl HXTL.out hx8 hxt8 HNEQ.out).mono ?_; rintro e w9 ⟨rfl, rfl⟩))
      go_ret3
      exact ⟨rfl, hb.trans (hb8.mono hb.size)⟩

theorem packGet_zero (A : Option Addr) (len c : Nat) (w : World) :
    Calls Tryd.prog 75 #[.slice A len c, .int .i64 0] w fun e w' => e = .returned (.tuple #[.slice none 0 0, .int .i64 0, .int .i64 0]) ∧ w = w' := by
  go_enter Tryd.func75, Tryd.ntmps75
  go_wp2_with fail
  go_ret3
  exact ⟨rfl, rfl⟩
theorem packGet_arg (A : Option Addr) (len c : Nat) (z : Int) (w : World) (hz : z < 0 ∨ 200 < z) :
    Calls Tryd.prog 75 #[.slice A len c, .int .i64 z] w fun e w' => e = .returned (.tuple #[.slice none 0 0, .int .i64 0, .int .i64 1]) ∧ w = w' := by
  rcases hz with h | h
  · go_enter Tryd.func75, Tryd.ntmps75
    go_wp2_with fail
    go_ret3
    exact ⟨rfl, rfl⟩
  · have h0 : decide (z < 0) = false := by rw [decide_eq_false_iff_not]; omega
    go_enter Tryd.func75, Tryd.ntmps75
    go_wp2_with fail
    go_ret3
    exact ⟨rfl, rfl⟩

theorem packGet_few (A : Option Addr) (len c n : Nat) (w : World) (hpos : 0 < n) (hn2 : n ≤ 200) (hl : len < 9) :
    Calls Tryd.prog 75 #[.slice A len c, .int .i64 (n : Int)] w fun e w' => e = .returned (.tuple #[.slice none 0 0, .int .i64 0, .int .i64 4]) ∧ w = w' := by
  go_enter Tryd.func75, Tryd.ntmps75
  go_wp2_with fail
  go_ret3
  exact ⟨rfl, rfl⟩

set_option maxRecDepth 100000 in
theorem packGet_wide (A : Option Addr) (len c n : Nat) (X : List UInt8) (m W : Nat) (w : World) (hX : BytesAt w A X) (hlen : X.length = len) (hl : len ≤ 1000000) (hl9 : 9 ≤ len) (hpos : 0 < n) (hn2 : n ≤ 200)
    (h0 : mid (valB X) (8 * len) 0 64 = m) (h1 : mid (valB X) (8 * len) 64 72 = W) (hW : 64 < W) (hW2 : W < 256) :
    Calls Tryd.prog 75 #[.slice A len c, .int .i64 (n : Int)] w fun e w' => e = .returned (.tuple #[.slice none 0 0, .int .i64 0, .int .i64 3]) ∧ Below w.heap.size w w' := by
  have HX := Lib.hid hlen
  have H0 := Lib.hid h0
  have H1 := Lib.hid h1
  clear hlen h0 h1
  go_enter Tryd.func75, Tryd.ntmps75
  go_wp2_with (first
    | (go_at_call 40; with_reducible refine (new_any A len c _).mono ?_; rintro e w1 ⟨rfl, hr1, hl1, hb1⟩; have hx1 := hX.below hb1)
    | (go_at_call 41; with_reducible refine (take_q w.heap.size A len c 0 64 64 X m _ hr1 hx1 HX.out (by omega) (by decide) (by omega) H0.out).mono ?_; rintro e w2 ⟨rfl, hr2, hg2⟩; have hx2 := bytes_past hr1 hx1 hg2; have hb2 := below_some hb1.size (Nat.le_refl _) hb1 hg2)
    | (go_at_call 41; with_reducible refine (take_q w.heap.size A len c 64 72 8 X W _ hr2 hx2 HX.out (by omega) (by decide) (by omega) H1.out).mono ?_; rintro e w3 ⟨rfl, hr3, hg3⟩; have hx3 := bytes_past hr2 hx2 hg3; have hb3 := below_some hb2.size (Nat.le_refl _) hb2 hg3))
  go_ret3
  exact ⟨rfl, hb3⟩

set_option maxRecDepth 100000 in
theorem packGet_short (A : Option Addr) (len c n : Nat) (X : List UInt8) (m W : Nat) (w : World) (hX : BytesAt w A X) (hlen : X.length = len) (hl : len ≤ 1000000) (hl9 : 9 ≤ len) (hpos : 0 < n) (hn2 : n ≤ 200)
    (h0 : mid (valB X) (8 * len) 0 64 = m) (h1 : mid (valB X) (8 * len) 64 72 = W) (hW : W ≤ 64) (hs : len < 9 + (n * W + 7) / 8) :
    Calls Tryd.prog 75 #[.slice A len c, .int .i64 (n : Int)] w fun e w' => e = .returned (.tuple #[.slice none 0 0, .int .i64 0, .int .i64 4]) ∧ Below w.heap.size w w' := by
  have hnw : n * W ≤ 200 * 64 := Nat.mul_le_mul hn2 hW
  obtain ⟨s, hs2⟩ : ∃ s, s = n * W := ⟨_, rfl⟩
  have hsi : (n : Int) * (W : Int) = (s : Int) := by rw [hs2]; push_cast; rfl
  rw [← hs2] at hs hnw
  have HX := Lib.hid hlen
  have H0 := Lib.hid h0
  have H1 := Lib.hid h1
  have HS2 := Lib.hid hs2
  clear hlen h0 h1 hs2
  go_enter Tryd.func75, Tryd.ntmps75
  go_wp2_with (first
    | (go_at_call 40; with_reducible refine (new_any A len c _).mono ?_; rintro e w1 ⟨rfl, hr1, hl1, hb1⟩; have hx1 := hX.below hb1)
    | (go_at_call 41; with_reducible refine (take_q w.heap.size A len c 0 64 64 X m _ hr1 hx1 HX.out (by omega) (by decide) (by omega) H0.out).mono ?_; rintro e w2 ⟨rfl, hr2, hg2⟩; have hx2 := bytes_past hr1 hx1 hg2; have hb2 := below_some hb1.size (Nat.le_refl _) hb1 hg2)
    | (go_at_call 41; with_reducible refine (take_q w.heap.size A len c 64 72 8 X W _ hr2 hx2 HX.out (by omega) (by decide) (by omega) H1.out).mono ?_; rintro e w3 ⟨rfl, hr3, hg3⟩; have hx3 := bytes_past hr2 hx2 hg3; have hb3 := below_some hb2.size (Nat.le_refl _) hb2 hg3))
  go_ret3
  exact ⟨rfl, hb3⟩

/-- pack.Get of whatever bytes and count up to 200. -/
theorem packGet_any (A : Option Addr) (len c n : Nat) (X : List UInt8) (w : World) (hX : BytesAt w A X) (hlen : X.length = len) (hl : len ≤ 1000000) (hc : len ≤ c) (hcm : c ≤ maxLen) (hn2 : n ≤ 200) (ns : List Nat) (k er : Nat) (hu : unpk X n = (ns, k, er)) :
    Calls Tryd.prog 75 #[.slice A len c, .int .i64 (n : Int)] w fun e w' => ∃ A' c', e = .returned (.tuple #[.slice A' ns.length c', .int .i64 (k : Int), .int .i64 (er : Int)]) ∧ NatsAt w' A' ns ∧ Below w.heap.size w w' := by
  subst hlen
  have hnone : ∀ w' : World, NatsAt w' none [] := fun _ h => absurd rfl h
  unfold unpk at hu
  by_cases h0 : n = 0
  · subst h0
    simp only [if_true, Prod.mk.injEq] at hu
    obtain ⟨rfl, rfl, rfl⟩ := hu
    refine (packGet_zero A _ c w).mono ?_
    rintro e w' ⟨rfl, rfl⟩
    exact ⟨none, 0, rfl, hnone _, Below.refl _ _⟩
  rw [if_neg h0] at hu
  by_cases h9 : X.length < 9
  · rw [if_pos h9] at hu
    simp only [Prod.mk.injEq] at hu
    obtain ⟨rfl, rfl, rfl⟩ := hu
    refine (packGet_few A _ c n w (by omega) hn2 h9).mono ?_
    rintro e w' ⟨rfl, rfl⟩
    exact ⟨none, 0, rfl, hnone _, Below.refl _ _⟩
  rw [if_neg h9] at hu
  obtain ⟨m, hm⟩ : ∃ m, mid (valB X) (8 * X.length) 0 64 = m := ⟨_, rfl⟩
  obtain ⟨W, hW⟩ : ∃ W, mid (valB X) (8 * X.length) 64 72 = W := ⟨_, rfl⟩
  have hW2 : W < 256 := by rw [← hW]; exact mid_lt _ _ _ _
  simp only [hm, hW] at hu
  by_cases h64 : 64 < W
  · rw [if_pos h64] at hu
    simp only [Prod.mk.injEq] at hu
    obtain ⟨rfl, rfl, rfl⟩ := hu
    refine (packGet_wide A _ c n X m W w hX rfl hl (by omega) (by omega) hn2 hm hW h64 hW2).mono ?_
    rintro e w' ⟨rfl, hb⟩
    exact ⟨none, 0, rfl, hnone _, hb⟩
  rw [if_neg h64] at hu
  by_cases hs : X.length < 9 + (n * W + 7) / 8
  · rw [if_pos hs] at hu
    simp only [Prod.mk.injEq] at hu
    obtain ⟨rfl, rfl, rfl⟩ := hu
    refine (packGet_short A _ c n X m W w hX rfl hl (by omega) (by omega) hn2 hm hW (by omega) hs).mono ?_
    rintro e w' ⟨rfl, hb⟩
    exact ⟨none, 0, rfl, hnone _, hb⟩
  rw [if_neg hs] at hu
  have hk : ∀ k (h : k < (numsAt X m W n).length), (m + mid (valB X) (8 * X.length) (72 + k * W) (72 + k * W + W)) % 18446744073709551616 = (numsAt X m W n)[k] := fun k h => by rw [numsAt_get]; rfl
  by_cases he : pk (numsAt X m W n) = X.take (9 + (n * W + 7) / 8)
  · rw [if_pos he] at hu
    simp only [Prod.mk.injEq] at hu
    obtain ⟨rfl, rfl, rfl⟩ := hu
    rw [numsAt_length]
    exact packGet_good A _ c n X _ m W _ w hX rfl hl hc hcm (by omega) hn2 hm hW (by omega) rfl (by omega) (numsAt_length _ _ _ _) (numsAt_lt _ _ _ _) hk he
  · rw [if_neg he] at hu
    simp only [Prod.mk.injEq] at hu
    obtain ⟨rfl, rfl, rfl⟩ := hu
    refine (packGet_bad A _ c n X _ m W _ w hX rfl hl hc hcm (by omega) hn2 hm hW (by omega) rfl (by omega) (numsAt_length _ _ _ _) (numsAt_lt _ _ _ _) hk he).mono ?_
    rintro e w' ⟨rfl, hb⟩
    exact ⟨none, 0, rfl, hnone _, hb⟩
end Go.Proofs.YtanljjpjhihgcaaDoor
