/- pack.Get: its contract, where the header is well and there are bytes enough. -/
import Derived.Test.YtanljjpjhihgcaaDoorPkPut
import Derived.Test.YtanljjpjhihgcaaDoorRunsMany
namespace BitM
theorem valB_append (xs ys : List UInt8) : valB (xs ++ ys) = valB xs * 256 ^ ys.length + valB ys := by
  induction ys using snoc_ind with
  | h0 => simp [valB]
  | h1 ys c ih =>
    rw [← List.append_assoc, valB_snoc, ih, valB_snoc, List.length_append, List.length_singleton, Nat.pow_succ, Nat.add_mul, Nat.mul_assoc, Nat.add_assoc]
/-- Bits of bytes with others behind them. -/
theorem mid_front (xs ys : List UInt8) (p q : Nat) (hq : q ≤ 8 * xs.length) : mid (valB (xs ++ ys)) (8 * (xs.length + ys.length)) p q = mid (valB xs) (8 * xs.length) p q := by
  unfold mid
  congr 1
  rw [valB_append, show 8 * (xs.length + ys.length) - q = 8 * ys.length + (8 * xs.length - q) by omega, Nat.pow_add, ← Nat.div_div_eq_div_mul]
  congr 1
  rw [Nat.pow_mul, show (2 : Nat) ^ 8 = 256 from rfl, Nat.mul_comm, Nat.mul_add_div (Nat.pow_pos (by omega)), Nat.div_eq_of_lt (valB_lt ys), Nat.add_zero]
end BitM
namespace Go.Proofs.YtanljjpjhihgcaaDoor
open Go.RowKit BitM RunM
set_option linter.unusedVariables false

theorem part_of (ns : List Nat) : part (fun j => ns.getD j 0) ns.length ns.length = ns := by
  rw [part_all]
  apply List.ext_getElem
  · simp
  · intro i h1 h2
    simp [List.getElem?_eq_getElem h2]

theorem equal_b (A B : Option Addr) (c d n m : Nat) (xs ys : List UInt8) (w : World) (hn : xs.length = n) (hm : ys.length = m) (hx : BytesAt w A xs) (hy : BytesAt w B ys) (he : xs = ys) :
    Calls Tryd.prog 34 #[.slice A n c, .slice B m d] w fun e w' => e = .returned (.bool true) ∧ w = w' := by
  subst he
  have e1 := text_n A n c xs hn hx
  have e2 := text_n B m d xs hm hy
  go_enter Tryd.func34, Tryd.ntmps34
  go_wp2_with fail
  go_ret
  exact ⟨rfl, rfl⟩

theorem take_q (g : Nat) (A : Option Addr) (len c p q : Nat) (n : Int) (xs : List UInt8) (M : Nat) (w : World) (h : RdAt w g A len c p false) (hx : BytesAt w A xs) (hxl : xs.length = len) (hl : len ≤ 1000000000) (hq : q = p + wi n) (hb : q ≤ 8 * len) (hM : mid (valB xs) (8 * len) p q = M) :
    Calls Tryd.prog 41 #[.pointer (some ⟨g, 0, none⟩), .int .i64 n] w fun e w' => e = .returned (.int .u64 (M : Int)) ∧ RdAt w' g A len c q false ∧ w.grownBy w' (some g) := by
  subst hq
  exact take_okA g A len c p n xs M w h hx hxl hl hb hM

set_option maxHeartbeats 800000 in
set_option maxRecDepth 100000 in
theorem packGet_good (A : Option Addr) (len c n : Nat) (X : List UInt8) (ns : List Nat) (m W sz : Nat) (w : World) (hX : BytesAt w A X) (hlen : X.length = len) (hl : len ≤ 1000000) (hc : len ≤ c) (hcm : c ≤ maxLen) (hpos : 0 < n) (hn2 : n ≤ 200)
    (h0 : mid (valB X) (8 * len) 0 64 = m) (h1 : mid (valB X) (8 * len) 64 72 = W) (hW : W ≤ 64) (hsz : sz = 9 + (n * W + 7) / 8) (hszl : sz ≤ len) (hns : ns.length = n) (hm64 : ∀ v ∈ ns, v < 18446744073709551616)
    (hk : ∀ k (h : k < ns.length), (m + mid (valB X) (8 * len) (72 + k * W) (72 + k * W + W)) % 18446744073709551616 = ns[k]) (heq : pk ns = X.take sz) :
    Calls Tryd.prog 75 #[.slice A len c, .int .i64 (n : Int)] w fun e w' => ∃ A' c', e = .returned (.tuple #[.slice A' n c', .int .i64 (sz : Int), .int .i64 0]) ∧ NatsAt w' A' ns ∧ Below w.heap.size w w' := by
  have hlen9 : 9 ≤ len := by omega
  have hnw : n * W ≤ 200 * 64 := Nat.mul_le_mul hn2 hW
  obtain ⟨s, hs⟩ : ∃ s, s = n * W := ⟨_, rfl⟩
  have hsi : (n : Int) * (W : Int) = (s : Int) := by rw [hs]; push_cast; rfl
  rw [← hs] at hsz hnw
  have hszi : (9 : Int) + ((s : Int) + 7) / 8 = (sz : Int) := by omega
  have hwi : W = wi (W : Int) := by unfold wi; omega
  obtain ⟨iu, hiu, hz0, hz1, hz2⟩ := info_parts infoU64
  have hz3 : iu.bytes * n ≤ 281474976710656 := by rw [hz2]; omega
  have hxt : BytesAt w A (X.take sz) := hX.take sz
  have hxtl : (X.take sz).length = sz := by rw [List.length_take, hlen]; omega
  have HX := Lib.hid hlen
  have H0 := Lib.hid h0
  have H1 := Lib.hid h1
  have HK := Lib.hid hk
  have HEQ := Lib.hid heq
  have HNS := Lib.hid hns
  have HM64 := Lib.hid hm64
  have HWI := Lib.hid hwi
  have HS := Lib.hid hs
  have HSZ := Lib.hid hsz
  have HXT := Lib.hid hxt
  have HXTL := Lib.hid hxtl
  unfold maxLen at hcm
  clear hlen h0 h1 hk heq hns hm64 hwi hs hsz hxt hxtl hz2
  go_enter Tryd.func75, Tryd.ntmps75
  go_wp2_with (first
    | (go_at_call 40; with_reducible refine (new_any A len c _).mono ?_; rintro e w1 ⟨rfl, hr1, hl1, hb1⟩; have hx1 := hX.below hb1)
    | (go_at_call 41; with_reducible refine (take_q w.heap.size A len c 0 64 64 X m _ hr1 hx1 HX.out (by omega) (by decide) (by omega) H0.out).mono ?_; rintro e w2 ⟨rfl, hr2, hg2⟩; have hx2 := bytes_past hr1 hx1 hg2; have hb2 := below_some hb1.size (Nat.le_refl _) hb1 hg2)
    | (go_at_call 41; with_reducible refine (take_q w.heap.size A len c 64 72 8 X W _ hr2 hx2 HX.out (by omega) (by decide) (by omega) H1.out).mono ?_; rintro e w3 ⟨rfl, hr3, hg3⟩; have hx3 := bytes_past hr2 hx2 hg3; have hb3 := below_some hb2.size (Nat.le_refl _) hb2 hg3)
    | (at_make; refine wpList_make_full _ rfl (.tmp 45) (.tmp 45) 34 rfl w.heap.size 22 iu (.int .u64 0) 1 Tryd.underlying34 hiu hz0 hz1 .i64 .i64 n n n rfl rfl rfl rfl hz3 (by unfold maxLen; omega) (by exact hb3.size) ?_; intro w4 ho4 hg4))
  have hb4 := below_grown (Nat.le_refl _) hb3 hg4
  have ho4' := own_made ho4
  have hbel := grown_below hg4
  have hr4 := hr3.below hbel
  have hg0 := hr3.cells.2.2.2.2.2.2
  have hne : w.heap.size ≠ w3.heap.size := by omega
  have hne2 : w3.heap.size ≠ w.heap.size := fun h => hne h.symm
  have hw3 : w.heap.size ≤ w3.heap.size := hb3.size
  obtain ⟨f, hf⟩ : ∃ f : Nat → Nat, f = fun j => ns.getD j 0 := ⟨_, rfl⟩
  have hpa : part f n n = ns := by rw [hf, ← HNS.out]; exact part_of ns
  have HPA := Lib.hid hpa
  have HF := Lib.hid hf
  rw [← part_zero f] at ho4'
  clear hpa hf
  clear hg4 ho4 hbel hr3 hx3 hb3 hg3 hr2 hx2 hb2 hg2 hr1 hx1 hb1 hl1
  generalize w3.heap.size = ga at *
  go_loopw [49] (fun i wr => ∃ k P : Nat, k ≤ n ∧ i = .int .i64 k ∧ Hid (P = 72 + k * W) ∧ RdAt wr w.heap.size A len c P false ∧ OwnN wr w.heap.size (.slice (some ⟨ga, 0, none⟩) n n) (part f n k) ∧ Below w.heap.size w wr) (fun i _ => n - (intOf i).toNat)
  case atStart => exact ⟨0, 72, by omega, rfl, Lib.hid (by omega), hr4, ho4', hb4⟩
  case round =>
    obtain ⟨k, P, hkn, rfl, HP, hr, ho, hb⟩ := hrel
    by_cases hlt : k < n
    · have hkl : k < ns.length := by rw [HNS.out]; exact hlt
      have h2 := HK.out k hkl
      rw [← HP.out] at h2
      obtain ⟨M, hM⟩ : ∃ M, M = mid (valB X) (8 * len) P (P + W) := ⟨_, rfl⟩
      rw [← hM] at h2
      obtain ⟨v, hv⟩ : ∃ v, v = ns[k] := ⟨_, rfl⟩
      rw [← hv] at h2
      have hgd : f k = v := by rw [HF.out]; simp [List.getElem?_eq_getElem hkl, hv]
      have hadd : IntKind.u64.wrap ((m : Int) + (M : Int)) = (v : Int) := by rw [IntKind.wrap_u64]; omega
      have HGD := Lib.hid hgd
      have hkW : (k + 1) * W ≤ n * W := Nat.mul_le_mul_right W (by omega)
      have hkW2 : (k + 1) * W = k * W + W := by rw [Nat.add_mul, Nat.one_mul]
      have hPb : P + W ≤ 8 * len := by have := HP.out; have := HSZ.out; have := HS.out; omega
      have HPB := Lib.hid hPb
      have hP2 : P + W = 72 + (k + 1) * W := by have := HP.out; omega
      have HP2 := Lib.hid hP2
      have HM := Lib.hid hM.symm
      have hq : P + W = P + wi (W : Int) := by rw [← HWI.out]
      have HQ := Lib.hid hq
      clear h2 hM hv hgd hkW hkW2 hPb hP2 hq
      go_wp2_with fail
      go_loud (with_reducible refine (take_q w.heap.size A len c P (P + W) W X M _ hr (hX.below hb) HX.out (by omega) HQ.out HPB.out HM.out).mono ?_)
      rintro e w7 ⟨rfl, hr7, hg7⟩
      have hb7 := below_some hb.size (Nat.le_refl _) hb hg7
      have ho7 : OwnN w7 w.heap.size (.slice (some ⟨ga, 0, none⟩) n n) (part f n k) := OwnV.keep ho (fun g hg => by simp [Value.ownBlock] at hg; subst hg; exact hg7.block ga ((OwnV.block ho _ rfl).2) (by simp; omega))
      obtain ⟨ra1, ra2, ra3, ra4, ra5, ra6, ra7⟩ := OwnV.row ho7
      have ca := ra6 k (by rw [ra2]; exact hlt)
      have fa := ra7 k
      clear ra6 ra7
      go_wp2_with fail
      go_roundw
      case rel =>
        have e := OwnV.stored ho7 k (uv (f k))
        rw [part_set f n k hlt, HGD.out] at e
        refine ⟨k + 1, P + W, by omega, by go_num, HP2, ?_, e, hb7.setCell ra1 _⟩
        unfold RdAt
        rw [heap_setCell_other _ _ _ _ hne]
        exact hr7
      case measure => simp [intOf]; omega
    · obtain rfl : k = n := by omega
      rw [HPA.out] at ho
      have hnats := OwnN.nats ho
      have hlpk : (pk ns).length = sz := by rw [HEQ.out]; exact HXTL.out
      have HLPK := Lib.hid hlpk
      clear hlpk hr
      go_wp2_with (first
        | (go_at_call 52; with_reducible refine (packPut_any (some ⟨ga, 0, none⟩) k k ns _ HNS.out hnats hn2 HM64.out).mono ?_; rw [HLPK.out]; rintro e w8 ⟨A8, c8, rfl, hx8, hb8, _, _⟩; have hxt8 := (HXT.out.below hb).below hb8)
        | (go_at_call 34; with_reducible refine (equal_b A8 A c8 c sz sz (pk ns) (X.take sz) _ HLPK.out HXTL.out hx8 hxt8 HEQ.out).mono ?_; rintro e w9 ⟨rfl, rfl⟩))
      go_ret3
      exact ⟨_, _, rfl, hnats.below hb8, hb.trans (hb8.mono hb.size)⟩
end Go.Proofs.YtanljjpjhihgcaaDoor
