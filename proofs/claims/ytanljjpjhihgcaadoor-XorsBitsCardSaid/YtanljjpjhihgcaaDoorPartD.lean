/- Several texts in one: The walk of RunsMany. pack.Get: its contract, where the header is well and there are bytes enough. Taking a change of whatever bits. What pack.Put lays is got back. ricklaw06.puts is true in every world. pack.Get: its contract, in all ways. xors.Get: its contracts. xors.Get of whatever bytes. xors.Get of what Put laid; ricklaw08.puts is true in every world where the table stands. The walk of XorsBits. What the condition on the table gives: where it stands; a world that meets it. -/
import Derived.Test.YtanljjpjhihgcaaDoorPartC
import Derived.Deep.DeepCutAuto
import Derived.Test.YtanljjpjhihgcaaDoorPartA
import Derived.Test.YtanljjpjhihgcaaDoorRows
import Derived.LaidMore
import Derived.LaidHandle
import Derived.Lib.LaidTab
import Derived.Stop.Joined
namespace Go.Proofs.YtanljjpjhihgcaaDoor
open Go.RowKit VarM RunM
set_option linter.unusedVariables false

theorem count200 (a : Int) : ∃ k : Nat, 1 ≤ k ∧ k ≤ 200 ∧ wrap64 (1 + wrap64 ((IntKind.u64.wrap a).tmod 200)) = (k : Int) := by
  have h0 : 0 ≤ IntKind.u64.wrap a := by rw [IntKind.wrap_u64]; omega
  rw [Int.tmod_eq_emod_of_nonneg h0]
  have h2 : 0 ≤ IntKind.u64.wrap a % 200 := Int.emod_nonneg _ (by omega)
  have h3 : IntKind.u64.wrap a % 200 < 200 := Int.emod_lt_of_pos _ (by omega)
  rw [IntWalk.wrap64_in (IntKind.u64.wrap a % 200) ⟨by omega, by omega⟩, IntWalk.wrap64_in _ ⟨by omega, by omega⟩]
  exact ⟨(1 + IntKind.u64.wrap a % 200).toNat, by omega, by omega, by omega⟩

theorem zeros_nats (k : Nat) : (madeCells (Value.int .u64 0).cells (k * 1)).toList = (List.replicate k 0).map uv := by
  have e : madeCells (Value.int .u64 0).cells (k * 1) = Array.replicate k (.int .u64 0) := by
    apply Array.ext
    · simp [madeCells]
    · intro i h1 h2
      simp [madeCells, Value.cells, Nat.mod_one]
  rw [e]
  simp [uv]

theorem own_made {w : World} {base k : Nat} {v : Value} (h : w.ownsRow base 22 1 v k (madeCells (Value.int .u64 0).cells (k * 1)).toList) : OwnN w base v (List.replicate k 0) := by
  rw [zeros_nats] at h
  unfold OwnN OwnV
  rw [List.length_map, List.length_replicate]
  exact h

/-- The first i of k places hold what f tells, the others 0. -/
def part (f : Nat → Nat) (k i : Nat) : List Nat := (List.range k).map fun j => if j < i then f j else 0
theorem part_len (f : Nat → Nat) (k i : Nat) : (part f k i).length = k := by simp [part]
theorem part_zero (f : Nat → Nat) (k : Nat) : part f k 0 = List.replicate k 0 := by
  apply List.ext_getElem <;> simp [part]
theorem part_set (f : Nat → Nat) (k i : Nat) (hi : i < k) : ((part f k i).map uv).set i (uv (f i)) = (part f k (i + 1)).map uv := by
  apply List.ext_getElem
  · simp [part]
  · intro j h1 h2
    have hj : j < k := by simpa [part] using h2
    rw [List.getElem_set]
    simp only [part, List.getElem_map, List.getElem_range]
    by_cases h : i = j
    · subst h; simp
    · rw [if_neg h]
      by_cases h3 : j < i
      · rw [if_pos h3, if_pos (by omega)]
      · rw [if_neg h3, if_neg (by omega)]
theorem part_all (f : Nat → Nat) (k : Nat) : part f k k = (List.range k).map f := by
  apply List.ext_getElem
  · simp [part]
  · intro j h1 h2
    have hj : j < k := by simpa [part] using h1
    simp [part, hj]

theorem xor_turn (v m : Nat) (hv : v < 18446744073709551616) : bits BinOp.xor IntKind.u64 (v : Int) ((m : Int) % 2) = ((v ^^^ (m % 2) : Nat) : Int) := by
  have : ((m : Int) % 2) = ((m % 2 : Nat) : Int) := by omega
  rw [this]
  exact u64_xor_nat _ _ hv (by omega)
theorem xor_turn_lt (v m : Nat) (hv : v < 18446744073709551616) : v ^^^ (m % 2) < 18446744073709551616 := Nat.xor_lt_two_pow (n := 64) (by omega) (by omega)
theorem xor_turn_ne (v i : Nat) : v ^^^ ((i + 1) % 2) ≠ v ^^^ (i % 2) := by
  intro h
  have h2 := congrArg (fun x => v ^^^ x) h
  simp only [← Nat.xor_assoc, Nat.xor_self, Nat.zero_xor] at h2
  omega

end Go.Proofs.YtanljjpjhihgcaaDoor

namespace BitM
theorem valB_append (xs ys : List UInt8) : valB (xs ++ ys) = valB xs * 256 ^ ys.length + valB ys := by
  induction ys using snoc_ind with
  | h0 => simp [valB]
  | h1 ys c ih =>
    rw [← List.append_assoc, valB_snoc, ih, valB_snoc, List.length_append, List.length_singleton, Nat.pow_succ, Nat.add_mul, Nat.mul_assoc, Nat.add_assoc]
/-- Bits of bytes with others behind them. -/
theorem mid_front (xs ys : List UInt8) (p q : Nat) (hq : q ≤ 8 * xs.length) : mid (valB (xs ++ ys)) (8 * (xs.length + ys.length)) p q = mid (valB xs) (8 * xs.length) p q := by
  unfold mid
  congr 1
  rw [valB_append, show 8 * (xs.length + ys.length) - q = 8 * ys.length + (8 * xs.length - q) by omega, Nat.pow_add, ← Nat.div_div_eq_div_mul]
  congr 1
  rw [Nat.pow_mul, show (2 : Nat) ^ 8 = 256 from rfl, Nat.mul_comm, Nat.mul_add_div (Nat.pow_pos (by omega)), Nat.div_eq_of_lt (valB_lt ys), Nat.add_zero]
end BitM
namespace Go.Proofs.YtanljjpjhihgcaaDoor
open Go.RowKit BitM RunM
set_option linter.unusedVariables false

theorem part_of (ns : List Nat) : part (fun j => ns.getD j 0) ns.length ns.length = ns := by
  rw [part_all]
  apply List.ext_getElem
  · simp
  · intro i h1 h2
    simp [List.getElem?_eq_getElem h2]

theorem equal_b (A B : Option Addr) (c d n m : Nat) (xs ys : List UInt8) (w : World) (hn : xs.length = n) (hm : ys.length = m) (hx : BytesAt w A xs) (hy : BytesAt w B ys) (he : xs = ys) :
    Calls Tryd.prog 34 #[.slice A n c, .slice B m d] w fun e w' => e = .returned (.bool true) ∧ w = w' := by
  subst he
  have e1 := text_n A n c xs hn hx
  have e2 := text_n B m d xs hm hy
  go_enter Tryd.func34, Tryd.ntmps34
  go_wp2_with fail
  go_ret
  exact ⟨rfl, rfl⟩

theorem take_q (g : Nat) (A : Option Addr) (len c p q : Nat) (n : Int) (xs : List UInt8) (M : Nat) (w : World) (h : RdAt w g A len c p false) (hx : BytesAt w A xs) (hxl : xs.length = len) (hl : len ≤ 1000000000) (hq : q = p + wi n) (hb : q ≤ 8 * len) (hM : mid (valB xs) (8 * len) p q = M) :
    Calls Tryd.prog 41 #[.pointer (some ⟨g, 0, none⟩), .int .i64 n] w fun e w' => e = .returned (.int .u64 (M : Int)) ∧ RdAt w' g A len c q false ∧ w.grownBy w' (some g) := by
  subst hq
  exact take_okA g A len c p n xs M w h hx hxl hl hb hM

set_option maxHeartbeats 800000 in
set_option maxRecDepth 100000 in
theorem packGet_good (A : Option Addr) (len c n : Nat) (X : List UInt8) (ns : List Nat) (m W sz : Nat) (w : World) (hX : BytesAt w A X) (hlen : X.length = len) (hl : len ≤ 1000000) (hc : len ≤ c) (hcm : c ≤ maxLen) (hpos : 0 < n) (hn2 : n ≤ 200)
    (h0 : mid (valB X) (8 * len) 0 64 = m) (h1 : mid (valB X) (8 * len) 64 72 = W) (hW : W ≤ 64) (hsz : sz = 9 + (n * W + 7) / 8) (hszl : sz ≤ len) (hns : ns.length = n) (hm64 : ∀ v ∈ ns, v < 18446744073709551616)
    (hk : ∀ k (h : k < ns.length), (m + mid (valB X) (8 * len) (72 + k * W) (72 + k * W + W)) % 18446744073709551616 = ns[k]) (heq : pk ns = X.take sz) :
    Calls Tryd.prog 75 #[.slice A len c, .int .i64 (n : Int)] w fun e w' => ∃ A' c', e = .returned (.tuple #[.slice A' n c', .int .i64 (sz : Int), .int .i64 0]) ∧ NatsAt w' A' ns ∧ Below w.heap.size w w' := by
  have hlen9 : 9 ≤ len := by omega
  have hnw : n * W ≤ 200 * 64 := Nat.mul_le_mul hn2 hW
  obtain ⟨s, hs⟩ : ∃ s, s = n * W := ⟨_, rfl⟩
  have hsi : (n : Int) * (W : Int) = (s : Int) := by rw [hs]; push_cast; rfl
  rw [← hs] at hsz hnw
  have hszi : (9 : Int) + ((s : Int) + 7) / 8 = (sz : Int) := by omega
  have hwi : W = wi (W : Int) := by unfold wi; omega
  obtain ⟨iu, hiu, hz0, hz1, hz2⟩ := info_parts infoU64
  have hz3 : iu.bytes * n ≤ 281474976710656 := by rw [hz2]; omega
  have hxt : BytesAt w A (X.take sz) := hX.take sz
  have hxtl : (X.take sz).length = sz := by rw [List.length_take, hlen]; omega
  have HX := Lib.hid hlen
  have H0 := Lib.hid h0
  have H1 := Lib.hid h1
  have HK := Lib.hid hk
  have HEQ := Lib.hid heq
  have HNS := Lib.hid hns
  have HM64 := Lib.hid hm64
  have HWI := Lib.hid hwi
  have HS := Lib.hid hs
  have HSZ := Lib.hid hsz
  have HXT := Lib.hid hxt
  have HXTL := Lib.hid hxtl
  unfold maxLen at hcm
  clear hlen h0 h1 hk heq hns hm64 hwi hs hsz hxt hxtl hz2
  go_enter Tryd.func75, Tryd.ntmps75
  go_wp2_with (first
    | (go_at_call 40; with_reducible refine (new_any A len c _).mono ?_; rintro e w1 ⟨rfl, hr1, hl1, hb1⟩; have hx1 := hX.below hb1)
    | (go_at_call 41; with_reducible refine (take_q w.heap.size A len c 0 64 64 X m _ hr1 hx1 HX.out (by omega) (by decide) (by omega) H0.out).mono ?_; rintro e w2 ⟨rfl, hr2, hg2⟩; have hx2 := bytes_past hr1 hx1 hg2; have hb2 := below_some hb1.size (Nat.le_refl _) hb1 hg2)
    | (go_at_call 41; with_reducible refine (take_q w.heap.size A len c 64 72 8 X W _ hr2 hx2 HX.out (by omega) (by decide) (by omega) H1.out).mono ?_; rintro e w3 ⟨rfl, hr3, hg3⟩; have hx3 := bytes_past hr2 hx2 hg3; have hb3 := below_some hb2.size (Nat.le_refl _) hb2 hg3)
    | (at_make; refine wpList_make_full _ rfl (.tmp 45) (.tmp 45) 34 rfl w.heap.size 22 iu (.int .u64 0) 1 Tryd.underlying34 hiu hz0 hz1 .i64 .i64 n n n rfl rfl rfl rfl hz3 (by unfold maxLen; omega) (by exact hb3.size) ?_; intro w4 ho4 hg4))
  have hb4 := below_grown (Nat.le_refl _) hb3 hg4
  have ho4' := own_made ho4
  have hbel := grown_below hg4
  have hr4 := hr3.below hbel
  have hg0 := hr3.cells.2.2.2.2.2.2
  have hne : w.heap.size ≠ w3.heap.size := by omega
  have hne2 : w3.heap.size ≠ w.heap.size := fun h => hne h.symm
  have hw3 : w.heap.size ≤ w3.heap.size := hb3.size
  obtain ⟨f, hf⟩ : ∃ f : Nat → Nat, f = fun j => ns.getD j 0 := ⟨_, rfl⟩
  have hpa : part f n n = ns := by rw [hf, ← HNS.out]; exact part_of ns
  have HPA := Lib.hid hpa
  have HF := Lib.hid hf
  rw [← part_zero f] at ho4'
  clear hpa hf
  clear hg4 ho4 hbel hr3 hx3 hb3 hg3 hr2 hx2 hb2 hg2 hr1 hx1 hb1 hl1
  generalize w3.heap.size = ga at *
  go_loopw [49] (fun i wr => ∃ k P : Nat, k ≤ n ∧ i = .int .i64 k ∧ Hid (P = 72 + k * W) ∧ RdAt wr w.heap.size A len c P false ∧ OwnN wr w.heap.size (.slice (some ⟨ga, 0, none⟩) n n) (part f n k) ∧ Below w.heap.size w wr) (fun i _ => n - (intOf i).toNat)
  case atStart => exact ⟨0, 72, by omega, rfl, Lib.hid (by omega), hr4, ho4', hb4⟩
  case round =>
    obtain ⟨k, P, hkn, rfl, HP, hr, ho, hb⟩ := hrel
    by_cases hlt : k < n
    · have hkl : k < ns.length := by rw [HNS.out]; exact hlt
      have h2 := HK.out k hkl
      rw [← HP.out] at h2
      obtain ⟨M, hM⟩ : ∃ M, M = mid (valB X) (8 * len) P (P + W) := ⟨_, rfl⟩
      rw [← hM] at h2
      obtain ⟨v, hv⟩ : ∃ v, v = ns[k] := ⟨_, rfl⟩
      rw [← hv] at h2
      have hgd : f k = v := by rw [HF.out]; simp [List.getElem?_eq_getElem hkl, hv]
      have hadd : IntKind.u64.wrap ((m : Int) + (M : Int)) = (v : Int) := by rw [IntKind.wrap_u64]; omega
      have HGD := Lib.hid hgd
      have hkW : (k + 1) * W ≤ n * W := Nat.mul_le_mul_right W (by omega)
      have hkW2 : (k + 1) * W = k * W + W := by rw [Nat.add_mul, Nat.one_mul]
      have hPb : P + W ≤ 8 * len := by have := HP.out; have := HSZ.out; have := HS.out; omega
      have HPB := Lib.hid hPb
      have hP2 : P + W = 72 + (k + 1) * W := by have := HP.out; omega
      have HP2 := Lib.hid hP2
      have HM := Lib.hid hM.symm
      have hq : P + W = P + wi (W : Int) := by rw [← HWI.out]
      have HQ := Lib.hid hq
      clear h2 hM hv hgd hkW hkW2 hPb hP2 hq
      go_wp2_with fail
      go_loud (with_reducible refine (take_q w.heap.size A len c P (P + W) W X M _ hr (hX.below hb) HX.out (by omega) HQ.out HPB.out HM.out).mono ?_)
      rintro e w7 ⟨rfl, hr7, hg7⟩
      have hb7 := below_some hb.size (Nat.le_refl _) hb hg7
      have ho7 : OwnN w7 w.heap.size (.slice (some ⟨ga, 0, none⟩) n n) (part f n k) := OwnV.keep ho (fun g hg => by simp [Value.ownBlock] at hg; subst hg; exact hg7.block ga ((OwnV.block ho _ rfl).2) (by simp; omega))
      obtain ⟨ra1, ra2, ra3, ra4, ra5, ra6, ra7⟩ := OwnV.row ho7
      have ca := ra6 k (by rw [ra2]; exact hlt)
      have fa := ra7 k
      clear ra6 ra7
      go_wp2_with fail
      go_roundw
      case rel =>
        have e := OwnV.stored ho7 k (uv (f k))
        rw [part_set f n k hlt, HGD.out] at e
        refine ⟨k + 1, P + W, by omega, by go_num, HP2, ?_, e, hb7.setCell ra1 _⟩
        unfold RdAt
        rw [heap_setCell_other _ _ _ _ hne]
        exact hr7
      case measure => simp [intOf]; omega
    · obtain rfl : k = n := by omega
      rw [HPA.out] at ho
      have hnats := OwnN.nats ho
      have hlpk : (pk ns).length = sz := by rw [HEQ.out]; exact HXTL.out
      have HLPK := Lib.hid hlpk
      clear hlpk hr
      go_wp2_with (first
        | (go_at_call 52; with_reducible refine (packPut_any (some ⟨ga, 0, none⟩) k k ns _ HNS.out hnats hn2 HM64.out).mono ?_; rw [HLPK.out]; rintro e w8 ⟨A8, c8, rfl, hx8, hb8, _, _⟩; have hxt8 := (HXT.out.below hb).below hb8)
        | (go_at_call 34; with_reducible refine (equal_b A8 A c8 c sz sz (pk ns) (X.take sz) _ HLPK.out HXTL.out hx8 hxt8 HEQ.out).mono ?_; rintro e w9 ⟨rfl, rfl⟩))
      go_ret3
      exact ⟨_, _, rfl, hnats.below hb8, hb.trans (hb8.mono hb.size)⟩
end Go.Proofs.YtanljjpjhihgcaaDoor

namespace BitM
open Go.Proofs.YtanljjpjhihgcaaDoor
/-- The bits of one state are the first ones of the other. -/
def Ext (s F : Nat × Nat) : Prop := s.1 ≤ F.1 ∧ F.2 / 2 ^ (F.1 - s.1) = s.2
theorem Ext.refl (s : Nat × Nat) : Ext s s := ⟨Nat.le_refl _, by rw [Nat.sub_self, Nat.pow_zero, Nat.div_one]⟩
theorem Ext.trans {a b c : Nat × Nat} (h : Ext a b) (k : Ext b c) : Ext a c := by
  refine ⟨Nat.le_trans h.1 k.1, ?_⟩
  have h1 := h.1
  have h2 := k.1
  rw [← h.2, ← k.2, Nat.div_div_eq_div_mul, ← Nat.pow_add]
  congr 2
  omega
theorem ext_stp (s : Nat × Nat) (q : Nat × Int) : Ext s (stp s q) := by
  refine ⟨Nat.le_add_right _ _, ?_⟩
  show (s.2 * 2 ^ wi q.2 + q.1 % 2 ^ wi q.2) / 2 ^ (s.1 + wi q.2 - s.1) = s.2
  have hp : 0 < 2 ^ wi q.2 := Nat.pow_pos (by omega)
  rw [Nat.add_sub_cancel_left, Nat.mul_comm, Nat.mul_add_div hp, Nat.div_eq_of_lt (Nat.mod_lt _ hp), Nat.add_zero]
theorem ext_foldl : ∀ (ps : List (Nat × Int)) (s : Nat × Nat), Ext s (ps.foldl stp s)
  | [], s => Ext.refl s
  | q :: r, s => (ext_stp s q).trans (ext_foldl r _)
theorem ext_mid {s F : Nat × Nat} {q : Nat × Int} (h : Ext (stp s q) F) : mid F.2 F.1 s.1 (s.1 + wi q.2) = q.1 % 2 ^ wi q.2 := by
  unfold mid
  have h1 : (stp s q).1 = s.1 + wi q.2 := rfl
  have h2 := h.2
  rw [h1] at h2
  rw [h2, Nat.add_sub_cancel_left]
  show (s.2 * 2 ^ wi q.2 + q.1 % 2 ^ wi q.2) % 2 ^ wi q.2 = _
  rw [Nat.mul_comm, Nat.mul_add_mod, Nat.mod_mod]
end BitM
namespace Go.Proofs.YtanljjpjhihgcaaDoor
open Go.RowKit BitM
set_option linter.unusedVariables false

theorem take_weak (g : Nat) (A : Option Addr) (len c p : Nat) (bad : Bool) (n : Int) (xs : List UInt8) (B : Nat) (w : World) (h : RdAt w g A len c p bad) (hx : BytesAt w A xs) (hxl : xs.length = len) (hl : len ≤ 1000000) (hp : p ≤ 8 * len) (hB : 2 ^ wi n ≤ B) :
    Calls Tryd.prog 41 #[.pointer (some ⟨g, 0, none⟩), .int .i64 n] w fun e w' => ∃ v p' bad', e = .returned (.int .u64 ((v : Nat) : Int)) ∧ v < B ∧ p' ≤ 8 * len ∧ RdAt w' g A len c p' bad' ∧ w.grownBy w' (some g) := by
  have hpos : 0 < 2 ^ wi n := Nat.pow_pos (by omega)
  by_cases hb : bad = true ∨ 8 * len - p < wi n
  · refine (take_bad g A len c p bad n w h (by omega) hp hb).mono ?_
    rintro e w' ⟨rfl, h1, h2⟩
    exact ⟨0, p, true, rfl, by omega, hp, h1, h2⟩
  · obtain rfl : bad = false := by cases bad <;> simp_all
    have hle : p + wi n ≤ 8 * len := by omega
    have hlt := mid_lt (valB xs) (8 * len) p (p + wi n)
    rw [Nat.add_sub_cancel_left] at hlt
    refine (take_okA g A len c p n xs _ w h hx hxl (by omega) hle rfl).mono ?_
    rintro e w' ⟨rfl, h1, h2⟩
    exact ⟨_, _, false, rfl, by omega, hle, h1, h2⟩

set_option maxRecDepth 100000 in
theorem takeChange_weak (g : Nat) (A : Option Addr) (len c p : Nat) (bad : Bool) (xs : List UInt8) (w : World) (h : RdAt w g A len c p bad) (hx : BytesAt w A xs) (hxl : xs.length = len) (hl : len ≤ 1000000) (hp : p ≤ 8 * len) :
    Calls Tryd.prog 42 #[.pointer (some ⟨g, 0, none⟩)] w fun e w' => ∃ z p' bad', e = .returned (.int .u64 z) ∧ 0 ≤ z ∧ z < 18446744073709551616 ∧ p' ≤ 8 * len ∧ RdAt w' g A len c p' bad' ∧ w.grownBy w' (some g) := by
  have HXL := Lib.hid hxl
  clear hxl
  go_enter Tryd.func42, Tryd.ntmps42
  go_wp2_with (first
    | (go_at_call 41; with_reducible refine (take_weak g A len c p bad 1 xs 2 _ h hx HXL.out hl hp (by decide)).mono ?_; rintro e w1 ⟨v1, p1, bad1, rfl, hv1, hp1, h1, hg1⟩; have hx1 := bytes_past h hx hg1; have HP1 := Lib.hid hp1; have HG1 := Lib.hid hg1; clear hp1 hg1)
    | (go_at_call 41; with_reducible refine (take_weak g A len c p1 bad1 6 xs 64 _ h1 hx1 HXL.out hl HP1.out (by decide)).mono ?_; rintro e w2 ⟨v2, p2, bad2, rfl, hv2, hp2, h2, hg2⟩; have hx2 := bytes_past h1 hx1 hg2; have HP2 := Lib.hid hp2; have HG2 := Lib.hid hg2; clear hp2 hg2)
    | (go_at_call 41; with_reducible refine (take_weak g A len c p2 bad2 6 xs 64 _ h2 hx2 HXL.out hl HP2.out (by decide)).mono ?_; rintro e w3 ⟨v3, p3, bad3, rfl, hv3, hp3, h3, hg3⟩; have hx3 := bytes_past h2 hx2 hg3; have HP3 := Lib.hid hp3; have HG3 := Lib.hid hg3; clear hp3 hg3)
    | (go_at_call 41; with_reducible refine (take_weak g A len c p3 bad3 _ xs 18446744073709551616 _ h3 hx3 HXL.out hl HP3.out (Nat.pow_le_pow_right (by omega) (wi_le _))).mono ?_; rintro e w4 ⟨v4, p4, bad4, rfl, hv4, hp4, h4, hg4⟩; have HP4 := Lib.hid hp4; have HG4 := Lib.hid hg4; clear hp4 hg4))
  · go_ret
    exact ⟨0, p1, bad1, rfl, by omega, by omega, HP1.out, h1, HG1.out⟩
  · go_ret
    refine ⟨_, p4, bad4, rfl, ?_, ?_, HP4.out, h4, ((HG1.out.trans HG2.out).trans HG3.out).trans HG4.out⟩
    · rw [IntKind.wrap_u64]; omega
    · rw [IntKind.wrap_u64]; omega

/-- A Reader at whose place there are just these bits. -/
def Bits (X : List UInt8) (len : Nat) (F : Nat × Nat) : Prop := F.1 ≤ 8 * len ∧ ∀ p q, p ≤ q → q ≤ F.1 → mid (valB X) (8 * len) p q = mid F.2 F.1 p q

theorem take_ext (g : Nat) (A : Option Addr) (len c : Nat) (X : List UInt8) (F s : Nat × Nat) (v : Nat) (n : Int) (p p' M : Nat) (w : World) (h : RdAt w g A len c p false) (hx : BytesAt w A X) (hxl : X.length = len) (hl : len ≤ 1000000) (hF : Bits X len F) (hE : Ext (stp s (v, n)) F) (hp : p = s.1) (hp' : p' = (stp s (v, n)).1) (hM : M = v % 2 ^ wi n) :
    Calls Tryd.prog 41 #[.pointer (some ⟨g, 0, none⟩), .int .i64 n] w fun e w' => e = .returned (.int .u64 (M : Int)) ∧ RdAt w' g A len c p' false ∧ w.grownBy w' (some g) := by
  subst hp hp' hM
  have h1 := hE.1
  have h2 : (stp s (v, n)).1 = s.1 + wi n := rfl
  have h3 := ext_mid hE
  have h4 := hF.1
  simp only at h3
  exact take_okA g A len c s.1 n X _ w h hx hxl (by omega) (by omega) (by rw [hF.2 _ _ (by omega) (by omega)]; exact h3)

set_option maxRecDepth 100000 in
theorem takeChange_good (g : Nat) (A : Option Addr) (len c x : Nat) (X : List UInt8) (F s : Nat × Nat) (p p' : Nat) (w : World) (h : RdAt w g A len c p false) (hx : BytesAt w A X) (hxl : X.length = len) (hl : len ≤ 1000000) (hx64 : x < 18446744073709551616)
    (hF : Bits X len F) (hE : Ext (xadd s x) F) (hp : p = s.1) (hp' : p' = (xadd s x).1) :
    Calls Tryd.prog 42 #[.pointer (some ⟨g, 0, none⟩)] w fun e w' => e = .returned (.int .u64 (x : Int)) ∧ RdAt w' g A len c p' false ∧ w.grownBy w' (some g) := by
  by_cases h0 : x = 0
  · subst h0
    have hE1 : Ext (stp s (0, 1)) F := hE
    have hp1 : p' = (stp s (0, 1)).1 := hp'
    have HXL := Lib.hid hxl
    have HF := Lib.hid hF
    have HE1 := Lib.hid hE1
    have HP := Lib.hid hp
    have HP1 := Lib.hid hp1
    clear hxl hF hE hE1 hp hp' hp1
    go_enter Tryd.func42, Tryd.ntmps42
    go_wp2_with (go_at_call 41; with_reducible refine (take_ext g A len c X F s 0 1 p p' 0 _ h hx HXL.out hl HF.out HE1.out HP.out HP1.out (by decide)).mono ?_; rintro e w1 ⟨rfl, h1, hg1⟩)
    go_ret
    exact ⟨rfl, h1, hg1⟩
  · have hlb := lenB_le x 64 hx64
    have hlp := lenB_pos x h0
    have htl := tz_len x h0
    have hsh := shr_tz x h0
    have hsl := shr_lt x h0
    obtain ⟨m, hmn⟩ : ∃ m, m = lenB x - tz x := ⟨_, rfl⟩
    obtain ⟨yy, hy⟩ : ∃ y, y = x / 2 ^ tz x := ⟨_, rfl⟩
    obtain ⟨ld, hld⟩ : ∃ ld, ld = 64 - lenB x := ⟨_, rfl⟩
    obtain ⟨t, htz⟩ : ∃ t, t = tz x := ⟨_, rfl⟩
    obtain ⟨m1, hm1⟩ : ∃ m1, m1 = m - 1 := ⟨_, rfl⟩
    have hxe : xadd s x = stp (stp (stp (stp s (1, 1)) (ld, 6)) (m1, 6)) (yy, (m : Int)) := by
      unfold xadd xch
      rw [if_neg h0, ← hld, ← hmn, ← hm1, ← hy]
      rfl
    rw [← hy, ← htz] at hsh
    rw [← hy, ← hmn] at hsl
    have hwm : wi (m : Int) = m := by unfold wi; omega
    rw [hxe] at hE hp'
    have e3 : Ext (stp (stp (stp s (1, 1)) (ld, 6)) (m1, 6)) F := (ext_stp _ _).trans hE
    have e2 : Ext (stp (stp s (1, 1)) (ld, 6)) F := (ext_stp _ _).trans e3
    have e1 : Ext (stp s (1, 1)) F := (ext_stp _ _).trans e2
    have hmi : (m1 : Int) + 1 = (m : Int) := by omega
    have hmax : max ((64 : Int) - (ld : Int) - (m : Int)) 0 = (t : Int) := by omega
    have hval : IntKind.u64.wrap ((yy : Int) * 2 ^ t) = (x : Int) := by
      have e : (yy : Int) * 2 ^ t = ((yy * 2 ^ t : Nat) : Int) := by simp
      rw [e, hsh, IntKind.wrap_u64]
      omega
    have hld6 : ld = ld % 2 ^ wi 6 := by rw [show wi 6 = 6 by decide]; omega
    have hm16 : m1 = m1 % 2 ^ wi 6 := by rw [show wi 6 = 6 by decide]; omega
    have hyy : yy = yy % 2 ^ wi (m : Int) := by rw [hwm]; exact (Nat.mod_eq_of_lt hsl).symm
    have hld64 : ld < 64 := by omega
    have hm164 : m1 < 64 := by omega
    have ht64 : t < 64 := by omega
    have HXL := Lib.hid hxl
    have HF := Lib.hid hF
    have HE1 := Lib.hid e1
    have HE2 := Lib.hid e2
    have HE3 := Lib.hid e3
    have HE4 := Lib.hid hE
    have HP := Lib.hid hp
    have HP' := Lib.hid hp'
    have HL6 := Lib.hid hld6
    have HM6 := Lib.hid hm16
    have HYY := Lib.hid hyy
    clear hxl hF hE e1 e2 e3 hp hp' hld6 hm16 hyy hxe hwm hsh hsl hmn hy hld htz hm1 hlb hlp htl
    go_enter Tryd.func42, Tryd.ntmps42
    go_wp2_with (first
      | (go_at_call 41; with_reducible refine (take_ext g A len c X F s 1 1 p (stp s (1, 1)).1 1 _ h hx HXL.out hl HF.out HE1.out HP.out rfl (by decide)).mono ?_; rintro e w1 ⟨rfl, h1, hg1⟩; have hx1 := bytes_past h hx hg1)
      | (go_at_call 41; with_reducible refine (take_ext g A len c X F (stp s (1, 1)) ld 6 _ (stp (stp s (1, 1)) (ld, 6)).1 ld _ h1 hx1 HXL.out hl HF.out HE2.out rfl rfl HL6.out).mono ?_; rintro e w2 ⟨rfl, h2, hg2⟩; have hx2 := bytes_past h1 hx1 hg2)
      | (go_at_call 41; with_reducible refine (take_ext g A len c X F (stp (stp s (1, 1)) (ld, 6)) m1 6 _ (stp (stp (stp s (1, 1)) (ld, 6)) (m1, 6)).1 m1 _ h2 hx2 HXL.out hl HF.out HE3.out rfl rfl HM6.out).mono ?_; rintro e w3 ⟨rfl, h3, hg3⟩; have hx3 := bytes_past h2 hx2 hg3)
      | (go_at_call 41; with_reducible refine (take_ext g A len c X F (stp (stp (stp s (1, 1)) (ld, 6)) (m1, 6)) yy (m : Int) _ p' yy _ h3 hx3 HXL.out hl HF.out HE4.out rfl HP'.out HYY.out).mono ?_; rintro e w4 ⟨rfl, h4, hg4⟩))
    go_ret
    exact ⟨rfl, h4, ((hg1.trans hg2).trans hg3).trans hg4⟩
end Go.Proofs.YtanljjpjhihgcaaDoor

namespace BitM
open Go.Proofs.YtanljjpjhihgcaaDoor (wi)
def fl (l : List Nat) : List (Nat × Int) := (lmin l, 64) :: (wid l, 8) :: pks l
theorem length_fl (l : List Nat) : (fl l).length = l.length + 2 := by simp [fl, length_pks]
theorem wi_64 : wi (64 : Int) = 64 := by decide
theorem wi_8 : wi (8 : Int) = 8 := by decide
theorem tot_pks1 (l : List Nat) (hw : wid l ≤ 64) : ∀ k, k ≤ l.length → (tot ((pks l).take k)).1 = k * wid l
  | 0, _ => by simp [tot]
  | k + 1, h => by
    rw [pks_succ l k (by omega) hw]
    simp only
    rw [tot_pks1 l hw k (by omega), Nat.add_mul, Nat.one_mul]
theorem lmin_lt {l : List Nat} (hne : l ≠ []) (hm : ∀ v ∈ l, v < 18446744073709551616) : lmin l < 18446744073709551616 := by
  cases l with
  | nil => exact absurd rfl hne
  | cons x r =>
    have h1 := lmin_le (l := x :: r) (y := x) (by simp)
    have h2 := hm x (by simp)
    omega
theorem tot_two (l : List Nat) (h64 : lmin l < 18446744073709551616) (hw : wid l ≤ 64) : tot ((fl l).take 2) = (72, lmin l * 256 + wid l) := by
  simp only [fl, List.take_succ_cons, List.take_zero, tot, List.foldl_cons, List.foldl_nil, wi_64, wi_8]
  rw [Nat.mod_eq_of_lt (show lmin l < 2 ^ 64 by simpa using h64), Nat.mod_eq_of_lt (show wid l < 2 ^ 8 by omega)]
  simp
theorem tot_fl (l : List Nat) (h64 : lmin l < 18446744073709551616) (hw : wid l ≤ 64) : ∀ k, k ≤ l.length →
    tot ((fl l).take (k + 2)) = (72 + (tot ((pks l).take k)).1, (lmin l * 256 + wid l) * 2 ^ (tot ((pks l).take k)).1 + (tot ((pks l).take k)).2)
  | 0, _ => by
    rw [tot_two l h64 hw]
    simp [tot]
  | k + 1, h => by
    have ih := tot_fl l h64 hw k (by omega)
    have hk : k + 2 < (fl l).length := by rw [length_fl]; omega
    have e := tot_succ (fl l) (k + 2) hk
    have hq : (fl l)[k + 2] = (l[k]'(by omega) - lmin l, (wid l : Int)) := by simp [fl, pks]
    have hwi : wi (wid l : Int) = wid l := by unfold wi; omega
    rw [hq, ih] at e
    simp only [hwi] at e
    rw [show k + 1 + 2 = k + 2 + 1 by omega, e, pks_succ l k (by omega) hw]
    simp only
    rw [pks_step, Nat.add_assoc]
theorem pk_tot {l : List Nat} (hne : l ≠ []) (hm : ∀ v ∈ l, v < 18446744073709551616) : pk l = bytesW (tot (fl l)).1 (tot (fl l)).2 := by
  have e := tot_fl l (lmin_lt hne hm) (wid_le l hm) l.length (Nat.le_refl _)
  rw [← length_fl, List.take_length, ← length_pks, List.take_length] at e
  rw [e]
  exact pk_cons hne hm
theorem pk_mid {l : List Nat} (hne : l ≠ []) (hm : ∀ v ∈ l, v < 18446744073709551616) (i : Nat) (hi : i < (fl l).length) :
    mid (valB (pk l)) (8 * (pk l).length) (tot ((fl l).take i)).1 ((tot ((fl l).take i)).1 + wi (fl l)[i].2) = (fl l)[i].1 % 2 ^ wi (fl l)[i].2 ∧ (tot ((fl l).take i)).1 + wi (fl l)[i].2 ≤ 8 * (pk l).length := by
  have hV := tot_lt (fl l) (fl l).length (Nat.le_refl _)
  have hmid := tot_mid (fl l) i (fl l).length hi (Nat.le_refl _)
  have hle := (tot_mono (fl l) (i + 1) ((fl l).length - (i + 1)) (by omega)).1
  rw [show i + 1 + ((fl l).length - (i + 1)) = (fl l).length by omega, tot_succ (fl l) i hi] at hle
  rw [List.take_length] at hV hmid hle
  simp only at hle
  have hl : (pk l).length = ((tot (fl l)).1 + 7) / 8 := by rw [pk_tot hne hm, length_bytesW]
  refine ⟨?_, by rw [hl]; omega⟩
  rw [hl, pk_tot hne hm, mid_bytesW _ _ _ _ hV hle]
  exact hmid
theorem pk_len {l : List Nat} (hne : l ≠ []) (hm : ∀ v ∈ l, v < 18446744073709551616) : (pk l).length = 9 + (l.length * wid l + 7) / 8 := by
  rw [pk_cons hne hm, length_bytesW]
  have e := tot_pks1 l (wid_le l hm) l.length (Nat.le_refl _)
  rw [← length_pks, List.take_length, length_pks] at e
  rw [e]
  omega
theorem pk_back {l : List Nat} (hne : l ≠ []) (hm : ∀ v ∈ l, v < 18446744073709551616) :
    mid (valB (pk l)) (8 * (pk l).length) 0 64 = lmin l ∧ mid (valB (pk l)) (8 * (pk l).length) 64 72 = wid l ∧
    ∀ k (h : k < l.length), (lmin l + mid (valB (pk l)) (8 * (pk l).length) (72 + k * wid l) (72 + k * wid l + wid l)) % 18446744073709551616 = l[k] ∧ 72 + k * wid l + wid l ≤ 8 * (pk l).length := by
  have h64 := lmin_lt hne hm
  have hw := wid_le l hm
  refine ⟨?_, ?_, fun k h => ?_⟩
  · have e := (pk_mid hne hm 0 (by rw [length_fl]; omega)).1
    have e0 : (fl l)[0]'(by rw [length_fl]; omega) = (lmin l, 64) := rfl
    simp only [e0, wi_64, List.take_zero] at e
    rw [show (tot []).1 = 0 from rfl] at e
    rw [e, Nat.mod_eq_of_lt (show lmin l < 2 ^ 64 by simpa using h64)]
  · have e := (pk_mid hne hm 1 (by rw [length_fl]; omega)).1
    have e0 : (fl l)[1]'(by rw [length_fl]; omega) = (wid l, 8) := rfl
    have e1 : (tot ((fl l).take 1)).1 = 64 := by simp [fl, tot, wi_64]
    simp only [e0, wi_8, e1] at e
    rw [e, Nat.mod_eq_of_lt (show wid l < 2 ^ 8 by omega)]
  · obtain ⟨e, e'⟩ := pk_mid hne hm (k + 2) (by rw [length_fl]; omega)
    have e0 : (fl l)[k + 2]'(by rw [length_fl]; omega) = (l[k] - lmin l, (wid l : Int)) := by simp [fl, pks]
    have hwi : wi (wid l : Int) = wid l := by unfold wi; omega
    have e1 : (tot ((fl l).take (k + 2))).1 = 72 + k * wid l := by
      rw [tot_fl l h64 hw k (by omega)]
      simp only
      rw [tot_pks1 l hw k (by omega)]
    simp only [e0, hwi, e1] at e e'
    refine ⟨?_, e'⟩
    have h1 := lmin_le (List.getElem_mem h)
    have h2 := le_lmax (List.getElem_mem h)
    have h3 : l[k] - lmin l < 2 ^ wid l := Nat.lt_of_le_of_lt (by omega) (lenB_lt (lmax l - lmin l))
    have h4 := hm _ (List.getElem_mem h)
    rw [e, Nat.mod_eq_of_lt h3]
    omega
end BitM
namespace Go.Proofs.YtanljjpjhihgcaaDoor
open Go.RowKit BitM RunM
set_option linter.unusedVariables false

/-- Get of what Put laid, whatever stands behind. -/
theorem packGet_pk (A : Option Addr) (len c n : Nat) (ns : List Nat) (rest X : List UInt8) (w : World) (hX : BytesAt w A X) (hXe : X = pk ns ++ rest) (hlen : X.length = len) (hl : len ≤ 1000000) (hc : len ≤ c) (hcm : c ≤ maxLen) (hpos : 0 < n) (hn2 : n ≤ 200) (hns : ns.length = n) (hm64 : ∀ v ∈ ns, v < 18446744073709551616) :
    Calls Tryd.prog 75 #[.slice A len c, .int .i64 (n : Int)] w fun e w' => ∃ A' c', e = .returned (.tuple #[.slice A' n c', .int .i64 ((pk ns).length : Int), .int .i64 0]) ∧ NatsAt w' A' ns ∧ Below w.heap.size w w' := by
  have hne : ns ≠ [] := by intro h; subst h; simp at hns; omega
  obtain ⟨b1, b2, b3⟩ := pk_back hne hm64
  have hpl := pk_len hne hm64
  have hw := wid_le ns hm64
  have hlen2 : len = (pk ns).length + rest.length := by rw [← hlen, hXe, List.length_append]
  have hfr : ∀ p q, q ≤ 8 * (pk ns).length → mid (valB X) (8 * len) p q = mid (valB (pk ns)) (8 * (pk ns).length) p q := fun p q hq => by
    rw [hXe, hlen2]
    exact mid_front _ _ _ _ hq
  rw [hns] at hpl
  have h72 : 72 ≤ 8 * (pk ns).length := by omega
  refine packGet_good A len c n X ns (lmin ns) (wid ns) (pk ns).length w hX hlen hl hc hcm hpos hn2 ((hfr _ _ (by omega)).trans b1) ((hfr _ _ h72).trans b2) hw hpl (by omega) hns hm64 (fun k h => ?_) ?_
  · obtain ⟨c1, c2⟩ := b3 k h
    rw [hfr _ _ c2]
    exact c1
  · rw [hXe, List.take_left]
end Go.Proofs.YtanljjpjhihgcaaDoor

namespace BitM
theorem pk77 : pk [7, 7] = [0, 0, 0, 0, 0, 0, 0, 7, 0] := by decide +kernel
end BitM
namespace Go.Proofs.YtanljjpjhihgcaaDoor
open Go.RowKit BitM RunM
set_option linter.unusedVariables false

theorem nats_two (w : World) (a b : Nat) (x y : Int) (t : TypeId) (hx : x = (a : Int)) (hy : y = (b : Int)) : NatsAt (w.alloc (.cells #[.int .u64 x, .int .u64 y] t)) (some ⟨w.heap.size, 0, none⟩) [a, b] := fun _ => by
  subst hx hy
  refine ⟨w.heap.size, 0, rfl, fun k hk => ?_⟩
  have : k = 0 ∨ k = 1 := by simp at hk; omega
  rcases this with rfl | rfl
  · rw [World.cell?_alloc_new]; rfl
  · rw [World.cell?_alloc_new]; rfl

theorem packGet_z (A : Option Addr) (len c n : Nat) (z : Int) (ns : List Nat) (rest X : List UInt8) (q : Nat) (w : World) (hz : z = (n : Int)) (hX : BytesAt w A X) (hXe : X = pk ns ++ rest) (hlen : X.length = len) (hq : (pk ns).length = q) (hl : len ≤ 1000000) (hc : len ≤ c) (hcm : c ≤ maxLen) (hpos : 0 < n) (hn2 : n ≤ 200) (hns : ns.length = n) (hm64 : ∀ v ∈ ns, v < 18446744073709551616) :
    Calls Tryd.prog 75 #[.slice A len c, .int .i64 z] w fun e w' => ∃ A' c', e = .returned (.tuple #[.slice A' n c', .int .i64 (q : Int), .int .i64 0]) ∧ NatsAt w' A' ns ∧ Below w.heap.size w w' := by
  subst hz hq
  exact packGet_pk A len c n ns rest X w hX hXe hlen hl hc hcm hpos hn2 hns hm64

end Go.Proofs.YtanljjpjhihgcaaDoor

namespace BitM
theorem mid_byte0 (X : List UInt8) (i : Nat) (h : i < X.length) : mid (valB X) (8 * X.length) (8 * i) (8 * i + 8) = X[i].toNat := by
  have hq : 8 * i / 8 = i := by omega
  have h1 := mid_byte X (8 * i) 8 (by omega) (by omega)
  rw [h1]
  have : (X[8 * i / 8]'(by omega)).toNat = X[i].toNat := by simp only [hq]
  rw [this, show 8 - 8 * i % 8 - 8 = 0 by omega, Nat.pow_zero, Nat.div_one]
  exact Nat.mod_eq_of_lt (X[i].toNat_lt)
/-- The number k of those that are laid in so many bits behind the header. -/
def numAt (X : List UInt8) (m W k : Nat) : Nat := (m + mid (valB X) (8 * X.length) (72 + k * W) (72 + k * W + W)) % 18446744073709551616
def numsAt (X : List UInt8) (m W n : Nat) : List Nat := (List.range n).map (numAt X m W)
theorem numsAt_length (X : List UInt8) (m W n : Nat) : (numsAt X m W n).length = n := by simp [numsAt]
theorem numsAt_get (X : List UInt8) (m W n k : Nat) (h : k < (numsAt X m W n).length) : (numsAt X m W n)[k] = numAt X m W k := by simp [numsAt]
theorem numsAt_lt (X : List UInt8) (m W n : Nat) : ∀ v ∈ numsAt X m W n, v < 18446744073709551616 := by
  intro v hv
  simp only [numsAt, List.mem_map, List.mem_range] at hv
  obtain ⟨k, _, rfl⟩ := hv
  exact Nat.mod_lt _ (by omega)
/-- The error, the numbers and the size that n numbers of bytes come to. -/
def unpk (X : List UInt8) (n : Nat) : List Nat × Nat × Nat :=
  if n = 0 then ([], 0, 0) else
  if X.length < 9 then ([], 0, 4) else
  let m := mid (valB X) (8 * X.length) 0 64
  let W := mid (valB X) (8 * X.length) 64 72
  if 64 < W then ([], 0, 3) else
  if X.length < 9 + (n * W + 7) / 8 then ([], 0, 4) else
  if pk (numsAt X m W n) = X.take (9 + (n * W + 7) / 8) then (numsAt X m W n, 9 + (n * W + 7) / 8, 0) else ([], 0, 3)
end BitM
namespace Go.Proofs.YtanljjpjhihgcaaDoor
open Go.RowKit BitM RunM
set_option linter.unusedVariables false

theorem equal_ne (A B : Option Addr) (c d n m : Nat) (xs ys : List UInt8) (w : World) (hn : xs.length = n) (hm : ys.length = m) (hx : BytesAt w A xs) (hy : BytesAt w B ys) (he : xs ≠ ys) :
    Calls Tryd.prog 34 #[.slice A n c, .slice B m d] w fun e w' => e = .returned (.bool false) ∧ w = w' := by
  have e1 := text_n A n c xs hn hx
  have e2 := text_n B m d ys hm hy
  have hs : (xs == ys) = false := by rw [beq_eq_false_iff_ne]; exact he
  go_enter Tryd.func34, Tryd.ntmps34
  go_wp2_with fail
  try rw [hs]
  go_ret
  exact ⟨rfl, rfl⟩

set_option maxHeartbeats 800000 in
set_option maxRecDepth 100000 in
theorem packGet_bad (A : Option Addr) (len c n : Nat) (X : List UInt8) (ns : List Nat) (m W sz : Nat) (w : World) (hX : BytesAt w A X) (hlen : X.length = len) (hl : len ≤ 1000000) (hc : len ≤ c) (hcm : c ≤ maxLen) (hpos : 0 < n) (hn2 : n ≤ 200)
    (h0 : mid (valB X) (8 * len) 0 64 = m) (h1 : mid (valB X) (8 * len) 64 72 = W) (hW : W ≤ 64) (hsz : sz = 9 + (n * W + 7) / 8) (hszl : sz ≤ len) (hns : ns.length = n) (hm64 : ∀ v ∈ ns, v < 18446744073709551616)
    (hk : ∀ k (h : k < ns.length), (m + mid (valB X) (8 * len) (72 + k * W) (72 + k * W + W)) % 18446744073709551616 = ns[k]) (hneq : pk ns ≠ X.take sz) :
    Calls Tryd.prog 75 #[.slice A len c, .int .i64 (n : Int)] w fun e w' => e = .returned (.tuple #[.slice none 0 0, .int .i64 0, .int .i64 3]) ∧ Below w.heap.size w w' := by
  have hlen9 : 9 ≤ len := by omega
  have hnw : n * W ≤ 200 * 64 := Nat.mul_le_mul hn2 hW
  obtain ⟨s, hs⟩ : ∃ s, s = n * W := ⟨_, rfl⟩
  have hsi : (n : Int) * (W : Int) = (s : Int) := by rw [hs]; push_cast; rfl
  rw [← hs] at hsz hnw
  have hszi : (9 : Int) + ((s : Int) + 7) / 8 = (sz : Int) := by omega
  have hwi : W = wi (W : Int) := by unfold wi; omega
  obtain ⟨iu, hiu, hz0, hz1, hz2⟩ := info_parts infoU64
  have hz3 : iu.bytes * n ≤ 281474976710656 := by rw [hz2]; omega
  have hxt : BytesAt w A (X.take sz) := hX.take sz
  have hxtl : (X.take sz).length = sz := by rw [List.length_take, hlen]; omega
  have HX := Lib.hid hlen
  have H0 := Lib.hid h0
  have H1 := Lib.hid h1
  have HK := Lib.hid hk
  have HNEQ := Lib.hid hneq
  have HNS := Lib.hid hns
  have HM64 := Lib.hid hm64
  have HWI := Lib.hid hwi
  have HS := Lib.hid hs
  have HSZ := Lib.hid hsz
  have HXT := Lib.hid hxt
  have HXTL := Lib.hid hxtl
  unfold maxLen at hcm
  clear hlen h0 h1 hk hneq hns hm64 hwi hs hsz hxt hxtl hz2
  go_enter Tryd.func75, Tryd.ntmps75
  go_wp2_with (first
    | (go_at_call 40; with_reducible refine (new_any A len c _).mono ?_; rintro e w1 ⟨rfl, hr1, hl1, hb1⟩; have hx1 := hX.below hb1)
    | (go_at_call 41; with_reducible refine (take_q w.heap.size A len c 0 64 64 X m _ hr1 hx1 HX.out (by omega) (by decide) (by omega) H0.out).mono ?_; rintro e w2 ⟨rfl, hr2, hg2⟩; have hx2 := bytes_past hr1 hx1 hg2; have hb2 := below_some hb1.size (Nat.le_refl _) hb1 hg2)
    | (go_at_call 41; with_reducible refine (take_q w.heap.size A len c 64 72 8 X W _ hr2 hx2 HX.out (by omega) (by decide) (by omega) H1.out).mono ?_; rintro e w3 ⟨rfl, hr3, hg3⟩; have hx3 := bytes_past hr2 hx2 hg3; have hb3 := below_some hb2.size (Nat.le_refl _) hb2 hg3)
    | (at_make; refine wpList_make_full _ rfl (.tmp 45) (.tmp 45) 34 rfl w.heap.size 22 iu (.int .u64 0) 1 Tryd.underlying34 hiu hz0 hz1 .i64 .i64 n n n rfl rfl rfl rfl hz3 (by unfold maxLen; omega) (by exact hb3.size) ?_; intro w4 ho4 hg4))
  have hb4 := below_grown (Nat.le_refl _) hb3 hg4
  have ho4' := own_made ho4
  have hbel := grown_below hg4
  have hr4 := hr3.below hbel
  have hg0 := hr3.cells.2.2.2.2.2.2
  have hne : w.heap.size ≠ w3.heap.size := by omega
  have hne2 : w3.heap.size ≠ w.heap.size := fun h => hne h.symm
  have hw3 : w.heap.size ≤ w3.heap.size := hb3.size
  obtain ⟨f, hf⟩ : ∃ f : Nat → Nat, f = fun j => ns.getD j 0 := ⟨_, rfl⟩
  have hpa : part f n n = ns := by rw [hf, ← HNS.out]; exact part_of ns
  have HPA := Lib.hid hpa
  have HF := Lib.hid hf
  rw [← part_zero f] at ho4'
  clear hpa hf
  clear hg4 ho4 hbel hr3 hx3 hb3 hg3 hr2 hx2 hb2 hg2 hr1 hx1 hb1 hl1
  generalize w3.heap.size = ga at *
  go_loopw [49] (fun i wr => ∃ k P : Nat, k ≤ n ∧ i = .int .i64 k ∧ Hid (P = 72 + k * W) ∧ RdAt wr w.heap.size A len c P false ∧ OwnN wr w.heap.size (.slice (some ⟨ga, 0, none⟩) n n) (part f n k) ∧ Below w.heap.size w wr) (fun i _ => n - (intOf i).toNat)
  case atStart => exact ⟨0, 72, by omega, rfl, Lib.hid (by omega), hr4, ho4', hb4⟩
  case round =>
    obtain ⟨k, P, hkn, rfl, HP, hr, ho, hb⟩ := hrel
    by_cases hlt : k < n
    · have hkl : k < ns.length := by rw [HNS.out]; exact hlt
      have h2 := HK.out k hkl
      rw [← HP.out] at h2
      obtain ⟨M, hM⟩ : ∃ M, M = mid (valB X) (8 * len) P (P + W) := ⟨_, rfl⟩
      rw [← hM] at h2
      obtain ⟨v, hv⟩ : ∃ v, v = ns[k] := ⟨_, rfl⟩
      rw [← hv] at h2
      have hgd : f k = v := by rw [HF.out]; simp [List.getElem?_eq_getElem hkl, hv]
      have hadd : IntKind.u64.wrap ((m : Int) + (M : Int)) = (v : Int) := by rw [IntKind.wrap_u64]; omega
      have HGD := Lib.hid hgd
      have hkW : (k + 1) * W ≤ n * W := Nat.mul_le_mul_right W (by omega)
      have hkW2 : (k + 1) * W = k * W + W := by rw [Nat.add_mul, Nat.one_mul]
      have hPb : P + W ≤ 8 * len := by have := HP.out; have := HSZ.out; have := HS.out; omega
      have HPB := Lib.hid hPb
      have hP2 : P + W = 72 + (k + 1) * W := by have := HP.out; omega
      have HP2 := Lib.hid hP2
      have HM := Lib.hid hM.symm
      have hq : P + W = P + wi (W : Int) := by rw [← HWI.out]
      have HQ := Lib.hid hq
      clear h2 hM hv hgd hkW hkW2 hPb hP2 hq
      go_wp2_with fail
      go_loud (with_reducible refine (take_q w.heap.size A len c P (P + W) W X M _ hr (hX.below hb) HX.out (by omega) HQ.out HPB.out HM.out).mono ?_)
      rintro e w7 ⟨rfl, hr7, hg7⟩
      have hb7 := below_some hb.size (Nat.le_refl _) hb hg7
      have ho7 : OwnN w7 w.heap.size (.slice (some ⟨ga, 0, none⟩) n n) (part f n k) := OwnV.keep ho (fun g hg => by simp [Value.ownBlock] at hg; subst hg; exact hg7.block ga ((OwnV.block ho _ rfl).2) (by simp; omega))
      obtain ⟨ra1, ra2, ra3, ra4, ra5, ra6, ra7⟩ := OwnV.row ho7
      have ca := ra6 k (by rw [ra2]; exact hlt)
      have fa := ra7 k
      clear ra6 ra7
      go_wp2_with fail
      go_roundw
      case rel =>
        have e := OwnV.stored ho7 k (uv (f k))
        rw [part_set f n k hlt, HGD.out] at e
        refine ⟨k + 1, P + W, by omega, by go_num, HP2, ?_, e, hb7.setCell ra1 _⟩
        unfold RdAt
        rw [heap_setCell_other _ _ _ _ hne]
        exact hr7
      case measure => simp [intOf]; omega
    · obtain rfl : k = n := by omega
      rw [HPA.out] at ho
      have hnats := OwnN.nats ho
      clear hr
      go_wp2_with (first
        | (go_at_call 52; with_reducible refine (packPut_any (some ⟨ga, 0, none⟩) k k ns _ HNS.out hnats hn2 HM64.out).mono ?_; rintro e w8 ⟨A8, c8, rfl, hx8, hb8, _, _⟩; have hxt8 := (HXT.out.below hb).below hb8)
        | (go_at_call 34; with_reducible refine (equal_ne A8 A c8 c _ sz (pk ns) (X.take sz) _ rfl HXTL.out hx8 hxt8 HNEQ.out).mono ?_; rintro e w9 ⟨rfl, rfl⟩))
      go_ret3
      exact ⟨rfl, hb.trans (hb8.mono hb.size)⟩

theorem packGet_zero (A : Option Addr) (len c : Nat) (w : World) :
    Calls Tryd.prog 75 #[.slice A len c, .int .i64 0] w fun e w' => e = .returned (.tuple #[.slice none 0 0, .int .i64 0, .int .i64 0]) ∧ w = w' := by
  go_enter Tryd.func75, Tryd.ntmps75
  go_wp2_with fail
  go_ret3
  exact ⟨rfl, rfl⟩
theorem packGet_arg (A : Option Addr) (len c : Nat) (z : Int) (w : World) (hz : z < 0 ∨ 200 < z) :
    Calls Tryd.prog 75 #[.slice A len c, .int .i64 z] w fun e w' => e = .returned (.tuple #[.slice none 0 0, .int .i64 0, .int .i64 1]) ∧ w = w' := by
  rcases hz with h | h
  · go_enter Tryd.func75, Tryd.ntmps75
    go_wp2_with fail
    go_ret3
    exact ⟨rfl, rfl⟩
  · have h0 : decide (z < 0) = false := by rw [decide_eq_false_iff_not]; omega
    go_enter Tryd.func75, Tryd.ntmps75
    go_wp2_with fail
    go_ret3
    exact ⟨rfl, rfl⟩

theorem packGet_few (A : Option Addr) (len c n : Nat) (w : World) (hpos : 0 < n) (hn2 : n ≤ 200) (hl : len < 9) :
    Calls Tryd.prog 75 #[.slice A len c, .int .i64 (n : Int)] w fun e w' => e = .returned (.tuple #[.slice none 0 0, .int .i64 0, .int .i64 4]) ∧ w = w' := by
  go_enter Tryd.func75, Tryd.ntmps75
  go_wp2_with fail
  go_ret3
  exact ⟨rfl, rfl⟩

set_option maxRecDepth 100000 in
theorem packGet_wide (A : Option Addr) (len c n : Nat) (X : List UInt8) (m W : Nat) (w : World) (hX : BytesAt w A X) (hlen : X.length = len) (hl : len ≤ 1000000) (hl9 : 9 ≤ len) (hpos : 0 < n) (hn2 : n ≤ 200)
    (h0 : mid (valB X) (8 * len) 0 64 = m) (h1 : mid (valB X) (8 * len) 64 72 = W) (hW : 64 < W) (hW2 : W < 256) :
    Calls Tryd.prog 75 #[.slice A len c, .int .i64 (n : Int)] w fun e w' => e = .returned (.tuple #[.slice none 0 0, .int .i64 0, .int .i64 3]) ∧ Below w.heap.size w w' := by
  have HX := Lib.hid hlen
  have H0 := Lib.hid h0
  have H1 := Lib.hid h1
  clear hlen h0 h1
  go_enter Tryd.func75, Tryd.ntmps75
  go_wp2_with (first
    | (go_at_call 40; with_reducible refine (new_any A len c _).mono ?_; rintro e w1 ⟨rfl, hr1, hl1, hb1⟩; have hx1 := hX.below hb1)
    | (go_at_call 41; with_reducible refine (take_q w.heap.size A len c 0 64 64 X m _ hr1 hx1 HX.out (by omega) (by decide) (by omega) H0.out).mono ?_; rintro e w2 ⟨rfl, hr2, hg2⟩; have hx2 := bytes_past hr1 hx1 hg2; have hb2 := below_some hb1.size (Nat.le_refl _) hb1 hg2)
    | (go_at_call 41; with_reducible refine (take_q w.heap.size A len c 64 72 8 X W _ hr2 hx2 HX.out (by omega) (by decide) (by omega) H1.out).mono ?_; rintro e w3 ⟨rfl, hr3, hg3⟩; have hx3 := bytes_past hr2 hx2 hg3; have hb3 := below_some hb2.size (Nat.le_refl _) hb2 hg3))
  go_ret3
  exact ⟨rfl, hb3⟩

set_option maxRecDepth 100000 in
theorem packGet_short (A : Option Addr) (len c n : Nat) (X : List UInt8) (m W : Nat) (w : World) (hX : BytesAt w A X) (hlen : X.length = len) (hl : len ≤ 1000000) (hl9 : 9 ≤ len) (hpos : 0 < n) (hn2 : n ≤ 200)
    (h0 : mid (valB X) (8 * len) 0 64 = m) (h1 : mid (valB X) (8 * len) 64 72 = W) (hW : W ≤ 64) (hs : len < 9 + (n * W + 7) / 8) :
    Calls Tryd.prog 75 #[.slice A len c, .int .i64 (n : Int)] w fun e w' => e = .returned (.tuple #[.slice none 0 0, .int .i64 0, .int .i64 4]) ∧ Below w.heap.size w w' := by
  have hnw : n * W ≤ 200 * 64 := Nat.mul_le_mul hn2 hW
  obtain ⟨s, hs2⟩ : ∃ s, s = n * W := ⟨_, rfl⟩
  have hsi : (n : Int) * (W : Int) = (s : Int) := by rw [hs2]; push_cast; rfl
  rw [← hs2] at hs hnw
  have HX := Lib.hid hlen
  have H0 := Lib.hid h0
  have H1 := Lib.hid h1
  have HS2 := Lib.hid hs2
  clear hlen h0 h1 hs2
  go_enter Tryd.func75, Tryd.ntmps75
  go_wp2_with (first
    | (go_at_call 40; with_reducible refine (new_any A len c _).mono ?_; rintro e w1 ⟨rfl, hr1, hl1, hb1⟩; have hx1 := hX.below hb1)
    | (go_at_call 41; with_reducible refine (take_q w.heap.size A len c 0 64 64 X m _ hr1 hx1 HX.out (by omega) (by decide) (by omega) H0.out).mono ?_; rintro e w2 ⟨rfl, hr2, hg2⟩; have hx2 := bytes_past hr1 hx1 hg2; have hb2 := below_some hb1.size (Nat.le_refl _) hb1 hg2)
    | (go_at_call 41; with_reducible refine (take_q w.heap.size A len c 64 72 8 X W _ hr2 hx2 HX.out (by omega) (by decide) (by omega) H1.out).mono ?_; rintro e w3 ⟨rfl, hr3, hg3⟩; have hx3 := bytes_past hr2 hx2 hg3; have hb3 := below_some hb2.size (Nat.le_refl _) hb2 hg3))
  go_ret3
  exact ⟨rfl, hb3⟩

/-- pack.Get of whatever bytes and count up to 200. -/
theorem packGet_any (A : Option Addr) (len c n : Nat) (X : List UInt8) (w : World) (hX : BytesAt w A X) (hlen : X.length = len) (hl : len ≤ 1000000) (hc : len ≤ c) (hcm : c ≤ maxLen) (hn2 : n ≤ 200) (ns : List Nat) (k er : Nat) (hu : unpk X n = (ns, k, er)) :
    Calls Tryd.prog 75 #[.slice A len c, .int .i64 (n : Int)] w fun e w' => ∃ A' c', e = .returned (.tuple #[.slice A' ns.length c', .int .i64 (k : Int), .int .i64 (er : Int)]) ∧ NatsAt w' A' ns ∧ Below w.heap.size w w' := by
  subst hlen
  have hnone : ∀ w' : World, NatsAt w' none [] := fun _ h => absurd rfl h
  unfold unpk at hu
  by_cases h0 : n = 0
  · subst h0
    simp only [if_true, Prod.mk.injEq] at hu
    obtain ⟨rfl, rfl, rfl⟩ := hu
    refine (packGet_zero A _ c w).mono ?_
    rintro e w' ⟨rfl, rfl⟩
    exact ⟨none, 0, rfl, hnone _, Below.refl _ _⟩
  rw [if_neg h0] at hu
  by_cases h9 : X.length < 9
  · rw [if_pos h9] at hu
    simp only [Prod.mk.injEq] at hu
    obtain ⟨rfl, rfl, rfl⟩ := hu
    refine (packGet_few A _ c n w (by omega) hn2 h9).mono ?_
    rintro e w' ⟨rfl, rfl⟩
    exact ⟨none, 0, rfl, hnone _, Below.refl _ _⟩
  rw [if_neg h9] at hu
  obtain ⟨m, hm⟩ : ∃ m, mid (valB X) (8 * X.length) 0 64 = m := ⟨_, rfl⟩
  obtain ⟨W, hW⟩ : ∃ W, mid (valB X) (8 * X.length) 64 72 = W := ⟨_, rfl⟩
  have hW2 : W < 256 := by rw [← hW]; exact mid_lt _ _ _ _
  simp only [hm, hW] at hu
  by_cases h64 : 64 < W
  · rw [if_pos h64] at hu
    simp only [Prod.mk.injEq] at hu
    obtain ⟨rfl, rfl, rfl⟩ := hu
    refine (packGet_wide A _ c n X m W w hX rfl hl (by omega) (by omega) hn2 hm hW h64 hW2).mono ?_
    rintro e w' ⟨rfl, hb⟩
    exact ⟨none, 0, rfl, hnone _, hb⟩
  rw [if_neg h64] at hu
  by_cases hs : X.length < 9 + (n * W + 7) / 8
  · rw [if_pos hs] at hu
    simp only [Prod.mk.injEq] at hu
    obtain ⟨rfl, rfl, rfl⟩ := hu
    refine (packGet_short A _ c n X m W w hX rfl hl (by omega) (by omega) hn2 hm hW (by omega) hs).mono ?_
    rintro e w' ⟨rfl, hb⟩
    exact ⟨none, 0, rfl, hnone _, hb⟩
  rw [if_neg hs] at hu
  have hk : ∀ k (h : k < (numsAt X m W n).length), (m + mid (valB X) (8 * X.length) (72 + k * W) (72 + k * W + W)) % 18446744073709551616 = (numsAt X m W n)[k] := fun k h => by rw [numsAt_get]; rfl
  by_cases he : pk (numsAt X m W n) = X.take (9 + (n * W + 7) / 8)
  · rw [if_pos he] at hu
    simp only [Prod.mk.injEq] at hu
    obtain ⟨rfl, rfl, rfl⟩ := hu
    rw [numsAt_length]
    exact packGet_good A _ c n X _ m W _ w hX rfl hl hc hcm (by omega) hn2 hm hW (by omega) rfl (by omega) (numsAt_length _ _ _ _) (numsAt_lt _ _ _ _) hk he
  · rw [if_neg he] at hu
    simp only [Prod.mk.injEq] at hu
    obtain ⟨rfl, rfl, rfl⟩ := hu
    refine (packGet_bad A _ c n X _ m W _ w hX rfl hl hc hcm (by omega) hn2 hm hW (by omega) rfl (by omega) (numsAt_length _ _ _ _) (numsAt_lt _ _ _ _) hk he).mono ?_
    rintro e w' ⟨rfl, hb⟩
    exact ⟨none, 0, rfl, hnone _, hb⟩
end Go.Proofs.YtanljjpjhihgcaaDoor

namespace Go.Proofs.YtanljjpjhihgcaaDoor
open Go.RowKit BitM RunM
set_option linter.unusedVariables false

theorem OwnN.addr {w : World} {base n c : Nat} {A : Option Addr} {ns : List Nat} (h : OwnN w base (.slice A n c) ns) (hn : 0 < n) : ∃ gl, A = some ⟨gl, 0, none⟩ := by
  rcases OwnV.cases h with ⟨h1, _⟩ | ⟨g, cap, cur, h1, _⟩
  · injection h1 with h1 h2 h3
    omega
  · injection h1 with h1 h2 h3
    exact ⟨g, h1⟩
theorem OwnN.cellk {w : World} {base gl n cl : Nat} {ns : List Nat} (h : OwnN w base (.slice (some ⟨gl, 0, none⟩) n cl) ns) (k lv : Nat) (hk : k < n) (hlv : ns.getD k 0 = lv) : w.cell? ⟨gl, k, none⟩ = some (.int .u64 (lv : Int)) := by
  obtain ⟨_, h2, _, _, _, h6, _⟩ := OwnV.row h
  have hk2 : k < ns.length := by rw [List.length_map] at h2; omega
  have := h6 k (by rw [List.length_map]; exact hk2)
  rw [this, ← hlv, List.getD_eq_getElem?_getD, List.getElem?_eq_getElem hk2]
  simp [uv]
theorem OwnN.besideR {w w' : World} {base g : Nat} {v : Value} {ns : List Nat} (h : OwnN w base v ns) (hg : w.grownBy w' (some g)) (hlt : g < base) : OwnN w' base v ns :=
  OwnV.beside h hg (fun q hq e => by injection e with e; have := (OwnV.block h q hq).1; omega)
theorem RdAt.beside {w w' : World} {base g : Nat} {A : Option Addr} {n c p : Nat} {bad : Bool} {v : Value} {ns : List Nat} (hr : RdAt w g A n c p bad) (h : OwnN w base v ns) (hg : w.grownBy w' v.ownBlock) (hlt : g < base) : RdAt w' g A n c p bad := by
  unfold RdAt at *
  rw [hg.block g (Array.getElem?_eq_some_iff.1 hr).1 (fun e => by have := (OwnV.block h g e.symm).1; omega)]
  exact hr
theorem RdAt.allocd {w : World} {g : Nat} {A : Option Addr} {n c p : Nat} {bad : Bool} (hr : RdAt w g A n c p bad) (o : Obj) : RdAt (w.alloc o) g A n c p bad := by
  unfold RdAt at *
  rw [Below.heap_alloc w o g (Array.getElem?_eq_some_iff.1 hr).1]
  exact hr
theorem xor_back (a b : Nat) : b ^^^ (a ^^^ b) = a := by rw [Nat.xor_comm a b, ← Nat.xor_assoc, Nat.xor_self, Nat.zero_xor]
theorem take_snoc (ns : List Nat) (k : Nat) (h : k + 1 < ns.length) : ns.take (k + 1) ++ [ns.getD (k + 1) 0] = ns.take (k + 2) := by
  rw [List.take_add_one (i := k + 1), List.getD_eq_getElem?_getD, List.getElem?_eq_getElem h]
  rfl
theorem take_getD (ns : List Nat) (k : Nat) (h : k < ns.length) : (ns.take (k + 1)).getD k 0 = ns.getD k 0 := by
  rw [List.getD_eq_getElem?_getD, List.getD_eq_getElem?_getD, List.getElem?_take]
  rw [if_pos (by omega)]
theorem takeChange_weak' (g : Nat) (A : Option Addr) (len c p : Nat) (bad : Bool) (xs : List UInt8) (w : World) (h : RdAt w g A len c p bad) (hx : BytesAt w A xs) (hxl : xs.length = len) (hl : len ≤ 1000000) (hp : p ≤ 8 * len) :
    Calls Tryd.prog 42 #[.pointer (some ⟨g, 0, none⟩)] w fun e w' => ∃ (x p' : Nat) (bad' : Bool), e = .returned (.int .u64 (x : Int)) ∧ x < 18446744073709551616 ∧ p' ≤ 8 * len ∧ RdAt w' g A len c p' bad' ∧ w.grownBy w' (some g) := by
  refine (takeChange_weak g A len c p bad xs w h hx hxl hl hp).mono ?_
  rintro e w' ⟨z, p', bad', rfl, h1, h2, h3, h4, h5⟩
  obtain ⟨x, rfl⟩ : ∃ x : Nat, z = (x : Int) := ⟨z.toNat, by omega⟩
  exact ⟨x, p', bad', rfl, by omega, h3, h4, h5⟩
theorem own_two {w : World} {base g cap : Nat} {E : TypeId} : True := trivial

theorem xorsGet_arg (A : Option Addr) (len c : Nat) (z : Int) (w : World) (hz : z < 0 ∨ 200 < z) :
    Calls Tryd.prog 18 #[.slice A len c, .int .i64 z] w fun e w' => e = .returned (.tuple #[.slice none 0 0, .int .i64 0, .int .i64 1]) ∧ w = w' := by
  rcases hz with h | h
  · go_enter Tryd.func18, Tryd.ntmps18
    go_wp2_with fail
    go_ret3
    exact ⟨rfl, rfl⟩
  · have h0 : decide (z < 0) = false := by rw [decide_eq_false_iff_not]; omega
    go_enter Tryd.func18, Tryd.ntmps18
    go_wp2_with fail
    go_ret3
    exact ⟨rfl, rfl⟩
theorem xorsGet_zero (A : Option Addr) (len c : Nat) (w : World) :
    Calls Tryd.prog 18 #[.slice A len c, .int .i64 0] w fun e w' => e = .returned (.tuple #[.slice none 0 0, .int .i64 0, .int .i64 0]) ∧ w = w' := by
  go_enter Tryd.func18, Tryd.ntmps18
  go_wp2_with fail
  go_ret3
  exact ⟨rfl, rfl⟩

set_option maxHeartbeats 1000000 in
set_option maxRecDepth 100000 in
theorem xorsGet_good (A : Option Addr) (len c n : Nat) (X : List UInt8) (ns : List Nat) (sz : Nat) (w : World) (hX : BytesAt w A X) (hlen : X.length = len) (hl : len ≤ 1000000) (hc : len ≤ c) (hcm : c ≤ maxLen) (hpos : 0 < n) (hn2 : n ≤ 200)
    (hns : ns.length = n) (hm : ∀ v ∈ ns, v < 18446744073709551616) (hF : Bits X len (xt ns (n - 1))) (hsz : sz = (xb ns).length) (hszl : sz ≤ len) (heq : xb ns = X.take sz) (ht : TabAt w) :
    Calls Tryd.prog 18 #[.slice A len c, .int .i64 (n : Int)] w fun e w' => ∃ A' c', e = .returned (.tuple #[.slice A' n c', .int .i64 (sz : Int), .int .i64 0]) ∧ NatsAt w' A' ns ∧ Below w.heap.size w w' := by
  have hn0 : ((n : Int) == 0) = false := by rw [beq_eq_false_iff_ne]; omega
  obtain ⟨n1, hn1⟩ : ∃ n1, n1 = n - 1 := ⟨_, rfl⟩
  have hsub : (n : Int) - 1 = (n1 : Int) := by omega
  rw [← hn1] at hF
  have hgD := getD_lt ns hm
  obtain ⟨v0, hv0⟩ : ∃ v, v = ns.getD 0 0 := ⟨_, rfl⟩
  have hne : ns ≠ [] := by intro h; subst h; simp at hns; omega
  have hext : ∀ j k, Ext (xt ns k) (xt ns (k + j)) := by
    intro j k
    induction j with
    | zero => exact Ext.refl _
    | succ j ih => exact ih.trans (ext_foldl _ _)
  have hE0 : Ext (stp (0, 0) (v0, 64)) (xt ns n1) := by
    have := hext n1 0
    rw [Nat.zero_add] at this
    rw [hv0]
    exact this
  have hv064 : v0 = v0 % 2 ^ wi 64 := by
    rw [show wi 64 = 64 by decide]
    exact (Nat.mod_eq_of_lt (by rw [hv0]; exact hgD 0)).symm
  have hxtz : (stp (0, 0) (v0, 64)).1 = (xt ns 0).1 := by rw [hv0]; rfl
  have htk1 : [v0].map uv = (ns.take 1).map uv := by
    rw [hv0]
    cases ns with
    | nil => exact absurd rfl hne
    | cons a r => rfl
  have hszF : sz = ((xt ns n1).1 + 7) / 8 := by rw [hsz]; unfold xb; rw [if_neg hne, hns, ← hn1, length_bytesW]
  have hxt : BytesAt w A (X.take sz) := hX.take sz
  have hxtl : (X.take sz).length = sz := by rw [List.length_take, hlen]; omega
  have HXB := Lib.hid hX
  have HXL := Lib.hid hlen
  have HNS := Lib.hid hns
  have HM := Lib.hid hm
  have HF := Lib.hid hF
  have HSZ := Lib.hid hsz
  have HEQ := Lib.hid heq
  have HT := Lib.hid ht
  have HN1 := Lib.hid hn1
  have HGD := Lib.hid hgD
  have HEXT := Lib.hid hext
  have HE0 := Lib.hid hE0
  have HV064 := Lib.hid hv064
  have HXTZ := Lib.hid hxtz
  have HTK1 := Lib.hid htk1
  have HSZF := Lib.hid hszF
  have HXT := Lib.hid hxt
  have HXTL := Lib.hid hxtl
  have hv0lt : v0 < 18446744073709551616 := by rw [hv0]; exact hgD 0
  unfold maxLen at hcm
  clear hX hlen hns hm hF hsz heq ht hn1 hgD hext hE0 hv064 hxtz htk1 hszF hxt hxtl hv0 hne
  go_enter Tryd.func18, Tryd.ntmps18
  go_wp2_with (first
    | (go_at_call 40; with_reducible refine (new_any A len c _).mono ?_; rintro e w1 ⟨rfl, hr1, hl1, hb1⟩; have hx1 := HXB.out.below hb1)
    | (go_at_call 41; with_reducible refine (take_ext w.heap.size A len c X (xt ns n1) (0, 0) v0 64 0 (xt ns 0).1 v0 _ hr1 hx1 HXL.out hl HF.out HE0.out rfl HXTZ.out.symm HV064.out).mono ?_; rintro e w2 ⟨rfl, hr2, hg2⟩; have hb2 := below_some hb1.size (Nat.le_refl _) hb1 hg2; have hs2 := hg2.size))
  have hle2 : w.heap.size + 1 ≤ w2.heap.size := by omega
  have ho2 : OwnN (w2.alloc (.cells #[.int .u64 (v0 : Int)] 22)) (w.heap.size + 1) (.slice (some ⟨w2.heap.size, 0, none⟩) 1 1) (ns.take 1) := by
    unfold OwnN
    rw [← HTK1.out]
    exact OwnV.new w2 22 [uv v0] (w.heap.size + 1) hle2 (by unfold maxLen; simp)
  have hr2' := RdAt.allocd hr2 (.cells #[.int .u64 (v0 : Int)] 22)
  have hb2' : Below w.heap.size w (w2.alloc (.cells #[.int .u64 (v0 : Int)] 22)) := hb2.alloc hb2.size _
  clear hr1 hx1 hb1 hg2 hr2 hb2
  go_loopw [8, 28] (fun l i wr => ∃ (k P cl : Nat) (Al : Option Addr), k ≤ n1 ∧ i = .int .i64 k ∧ l = .slice Al (k + 1) cl ∧ Hid (P = (xt ns k).1) ∧ RdAt wr w.heap.size A len c P false ∧ OwnN wr (w.heap.size + 1) (.slice Al (k + 1) cl) (ns.take (k + 1)) ∧ Below w.heap.size w wr) (fun _ i _ => n1 - (intOf i).toNat)
  case atStart => exact ⟨0, _, 1, _, by omega, rfl, rfl, Lib.hid rfl, hr2', ho2, hb2'⟩
  case round =>
    obtain ⟨k, P, cl, Al, hk, rfl, rfl, HP, hr, ho, hb⟩ := hrel
    obtain ⟨gl, rfl⟩ := OwnN.addr ho (by omega)
    by_cases hlt : k < n1
    · have hkn : k + 1 < ns.length := by rw [HNS.out]; have := HN1.out; omega
      obtain ⟨ds, hds⟩ : ∃ ds, ds = ns.take (k + 1) := ⟨_, rfl⟩
      obtain ⟨ds2, hds2⟩ : ∃ ds, ds = ns.take (k + 2) := ⟨_, rfl⟩
      obtain ⟨lv, hlv⟩ : ∃ lv, lv = ns.getD k 0 := ⟨_, rfl⟩
      obtain ⟨nv, hnv⟩ : ∃ nv, nv = ns.getD (k + 1) 0 := ⟨_, rfl⟩
      have HLV : Hid (ds.getD k 0 = lv) := Lib.hid (by rw [hds, take_getD ns k (by omega), hlv])
      have HDS2 : Hid (ds.map uv ++ [uv nv] = ds2.map uv) := Lib.hid (by rw [hds2, ← take_snoc ns k hkn, hds, hnv]; simp)
      have hdl : ds.length = k + 1 := by rw [hds, List.length_take]; omega
      have HL3 : Hid ((ds2.map uv).length = k + 1 + 1) := Lib.hid (by rw [hds2, List.length_map, List.length_take]; omega)
      have hl1 : ((ds.map uv).length + 1) * 8 ≤ 140737488355328 := by rw [List.length_map, hdl]; omega
      have hl2 : (ds.map uv).length + 1 ≤ maxLen := by rw [List.length_map, hdl]; unfold maxLen; omega
      have g1 : lv < 18446744073709551616 := by rw [hlv]; exact HGD.out k
      have g2 : nv < 18446744073709551616 := by rw [hnv]; exact HGD.out (k + 1)
      obtain ⟨x, hx⟩ : ∃ x, x = nv ^^^ lv := ⟨_, rfl⟩
      have hx64 : x < 18446744073709551616 := by rw [hx]; exact Nat.xor_lt_two_pow (n := 64) g2 g1
      have hE : Ext (xadd (xt ns k) x) (xt ns n1) := by
        have h1 : xadd (xt ns k) x = xt ns (k + 1) := by rw [hx, hnv, hlv]; rfl
        rw [h1]
        have := HEXT.out (n1 - (k + 1)) (k + 1)
        rw [show k + 1 + (n1 - (k + 1)) = n1 by omega] at this
        exact this
      have hP2 : (xt ns (k + 1)).1 = (xadd (xt ns k) x).1 := by rw [hx, hnv, hlv]; rfl
      have hxo : bits BinOp.xor IntKind.u64 (lv : Int) (x : Int) = (nv : Int) := by
        rw [u64_xor_nat _ _ g1 hx64, hx, xor_back]
      have HE := Lib.hid hE
      have HP2 := Lib.hid hP2
      have HDSE := Lib.hid hds
      have HDS2E := Lib.hid hds2
      rw [← hds] at ho
      clear hds hds2 hlv hnv hx hE hP2 hdl
      go_wp2_with fail
      refine region_ways w.heap.size hb.size (.two [0, 1, 2, 3, 5] 4 (.one [] 6 (.one [7] 8 (.one [] 9 (.done [10])))) 6 (.one [] 4 (.one [7] 8 (.one [] 9 (.done [10]))))) (by kernel_rfl) (by kernel_rfl) ?_
      rintro wd hbd
      have hrd := hr.below hbd
      have hod : OwnN wd (w.heap.size + 1) (.slice (some ⟨gl, 0, none⟩) (k + 1) cl) ds := OwnV.below ho hbd
      have hxd := (HXB.out.below hb).below hbd
      have hcd := OwnN.cellk hod k lv (by omega) HLV.out
      have hbw := hb.trans (hbd.mono hb.size)
      have hfd := (OwnV.row hod).2.2.2.2.1
      rw [wpWays_two]
      try simp only [List.map_cons, List.map_nil, opAt, List.getElem?_toArray, List.getElem?_cons_zero, List.getElem?_cons_succ, Option.getD_some]
      repeat (go_big_quiet_step (fail))
      refine wpQuiet_nil ⟨?_, ?_⟩
      · go_wp2_with fail
        refine ⟨⟨⟨_, hbd.mono hb.size⟩, rfl⟩, ?_⟩
        try simp only [Act.put, List.setIfInBounds_toArray, List.set_cons_zero, List.set_cons_succ]
        rw [wpWays_one]
        try simp only [List.map_cons, List.map_nil, opAt, List.getElem?_toArray, List.getElem?_cons_zero, List.getElem?_cons_succ, Option.getD_some]
        repeat (go_big_quiet_step (fail))
        refine wpQuiet_nil ?_
        go_wp2_with (go_at_call 42; with_reducible refine (takeChange_good w.heap.size A len c x X (xt ns n1) (xt ns k) P (xt ns (k + 1)).1 _ hrd hxd HXL.out hl hx64 HF.out HE.out HP.out HP2.out).mono ?_; rintro e w2 ⟨rfl, hr2, hg2⟩)
        have hbw2 := below_some hbw.size (Nat.le_refl _) hbw hg2
        have hb2 : Below w.heap.size wr w2 := below_some (by have := hb.size; have := hbd.size; omega) (Nat.le_refl _) (hbd.mono hb.size) hg2
        have ho2 := OwnN.besideR hod hg2 (by omega)
        have hcd2 := OwnN.cellk ho2 k lv (by omega) HLV.out
        refine ⟨⟨⟨_, hb2⟩, rfl⟩, ?_⟩
        try simp only [Act.put, List.setIfInBounds_toArray, List.set_cons_zero, List.set_cons_succ]
        rw [wpWays_one]
        try simp only [List.map_cons, List.map_nil, opAt, List.getElem?_toArray, List.getElem?_cons_zero, List.getElem?_cons_succ, Option.getD_some]
        repeat (go_big_quiet_step (fail))
        refine wpQuiet_nil ?_
        go_wp2_with fail
        have hb3 : Below w.heap.size wr (w2.alloc (.cells #[.int .u64 (nv : Int)] 22)) := hb2.alloc (by have := hbw2.size; exact this) _
        refine ⟨⟨⟨_, hb3⟩, rfl⟩, ?_⟩
        try simp only [Act.put, List.setIfInBounds_toArray, List.set_cons_zero, List.set_cons_succ]
        rw [wpWays_one]
        try simp only [List.map_cons, List.map_nil, opAt, List.getElem?_toArray, List.getElem?_cons_zero, List.getElem?_cons_succ, Option.getD_some]
        repeat (go_big_quiet_step (fail))
        refine wpQuiet_nil ?_
        have hbw3 : Below w.heap.size w (w2.alloc (.cells #[.int .u64 (nv : Int)] 22)) := hbw2.alloc hbw2.size _
        have hbase3 : w.heap.size + 1 ≤ (w2.alloc (.cells #[.int .u64 (nv : Int)] 22)).heap.size := by have := hbw2.size; simp; omega
        go_wp2_with (at_builtin; refine wpList_append_vz rfl (.tmp 31) (.tmp 39) 34 rfl Tryd.underlying34 _ 8 infoU64 rfl rfl (OwnV.alloc ho2 _) _ _ 1 [uv nv] (ds2.map uv) rfl rfl (cellsAt_one _ _ _ _ rfl) (uv_one [nv]) HDS2.out hl1 hl2 hbase3 ?_; rw [HL3.out]; intro A3 c3 w4 ho4 hg4)
        have hbw4 := (OwnV.alloc ho2 _).belowGrown (B := w.heap.size) (by omega) (by have := hbw3.size; exact this) hbw3 hg4
        have hb4 := (OwnV.alloc ho2 _).belowGrown (B := w.heap.size) (by omega) (by have := hbw3.size; exact this) hb3 hg4
        have hr4 := RdAt.beside (RdAt.allocd hr2 _) (OwnV.alloc ho2 _) hg4 (by omega)
        refine ⟨⟨⟨_, hb4⟩, rfl⟩, ?_⟩
        try simp only [Act.put, List.setIfInBounds_toArray, List.set_cons_zero, List.set_cons_succ]
        rw [wpWays_done]
        try simp only [List.map_cons, List.map_nil, opAt, List.getElem?_toArray, List.getElem?_cons_zero, List.getElem?_cons_succ, Option.getD_some]
        repeat (go_big_quiet_step (fail))
        refine wpQuiet_nil ?_
        go_wp2_with fail
        go_roundw
        case rel => exact ⟨k + 1, _, c3, A3, by omega, by go_num, rfl, Lib.hid rfl, hr4, by rw [← HDS2E.out]; exact ho4, hbw4⟩
        case measure => simp [intOf]; omega
      · go_wp2_with (go_at_call 42; with_reducible refine (takeChange_good w.heap.size A len c x X (xt ns n1) (xt ns k) P (xt ns (k + 1)).1 _ hrd hxd HXL.out hl hx64 HF.out HE.out HP.out HP2.out).mono ?_; rintro e w2 ⟨rfl, hr2, hg2⟩)
        have hbw2 := below_some hbw.size (Nat.le_refl _) hbw hg2
        have hb2 : Below w.heap.size wr w2 := below_some (by have := hb.size; have := hbd.size; omega) (Nat.le_refl _) (hbd.mono hb.size) hg2
        have ho2 := OwnN.besideR hod hg2 (by omega)
        have hcd2 := OwnN.cellk ho2 k lv (by omega) HLV.out
        refine ⟨⟨⟨_, hb2⟩, rfl⟩, ?_⟩
        try simp only [Act.put, List.setIfInBounds_toArray, List.set_cons_zero, List.set_cons_succ]
        rw [wpWays_one]
        try simp only [List.map_cons, List.map_nil, opAt, List.getElem?_toArray, List.getElem?_cons_zero, List.getElem?_cons_succ, Option.getD_some]
        repeat (go_big_quiet_step (fail))
        refine wpQuiet_nil ?_
        go_wp2_with fail
        refine ⟨⟨⟨_, hb2⟩, rfl⟩, ?_⟩
        try simp only [Act.put, List.setIfInBounds_toArray, List.set_cons_zero, List.set_cons_succ]
        rw [wpWays_one]
        try simp only [List.map_cons, List.map_nil, opAt, List.getElem?_toArray, List.getElem?_cons_zero, List.getElem?_cons_succ, Option.getD_some]
        repeat (go_big_quiet_step (fail))
        refine wpQuiet_nil ?_
        go_wp2_with fail
        have hb3 : Below w.heap.size wr (w2.alloc (.cells #[.int .u64 (nv : Int)] 22)) := hb2.alloc (by have := hbw2.size; exact this) _
        refine ⟨⟨⟨_, hb3⟩, rfl⟩, ?_⟩
        try simp only [Act.put, List.setIfInBounds_toArray, List.set_cons_zero, List.set_cons_succ]
        rw [wpWays_one]
        try simp only [List.map_cons, List.map_nil, opAt, List.getElem?_toArray, List.getElem?_cons_zero, List.getElem?_cons_succ, Option.getD_some]
        repeat (go_big_quiet_step (fail))
        refine wpQuiet_nil ?_
        have hbw3 : Below w.heap.size w (w2.alloc (.cells #[.int .u64 (nv : Int)] 22)) := hbw2.alloc hbw2.size _
        have hbase3 : w.heap.size + 1 ≤ (w2.alloc (.cells #[.int .u64 (nv : Int)] 22)).heap.size := by have := hbw2.size; simp; omega
        go_wp2_with (at_builtin; refine wpList_append_vz rfl (.tmp 31) (.tmp 39) 34 rfl Tryd.underlying34 _ 8 infoU64 rfl rfl (OwnV.alloc ho2 _) _ _ 1 [uv nv] (ds2.map uv) rfl rfl (cellsAt_one _ _ _ _ rfl) (uv_one [nv]) HDS2.out hl1 hl2 hbase3 ?_; rw [HL3.out]; intro A3 c3 w4 ho4 hg4)
        have hbw4 := (OwnV.alloc ho2 _).belowGrown (B := w.heap.size) (by omega) (by have := hbw3.size; exact this) hbw3 hg4
        have hb4 := (OwnV.alloc ho2 _).belowGrown (B := w.heap.size) (by omega) (by have := hbw3.size; exact this) hb3 hg4
        have hr4 := RdAt.beside (RdAt.allocd hr2 _) (OwnV.alloc ho2 _) hg4 (by omega)
        refine ⟨⟨⟨_, hb4⟩, rfl⟩, ?_⟩
        try simp only [Act.put, List.setIfInBounds_toArray, List.set_cons_zero, List.set_cons_succ]
        rw [wpWays_done]
        try simp only [List.map_cons, List.map_nil, opAt, List.getElem?_toArray, List.getElem?_cons_zero, List.getElem?_cons_succ, Option.getD_some]
        repeat (go_big_quiet_step (fail))
        refine wpQuiet_nil ?_
        go_wp2_with fail
        go_roundw
        case rel => exact ⟨k + 1, _, c3, A3, by omega, by go_num, rfl, Lib.hid rfl, hr4, by rw [← HDS2E.out]; exact ho4, hbw4⟩
        case measure => simp [intOf]; omega
    · obtain rfl : k = n1 := by omega
      have hkn : k + 1 = n := by have := HN1.out; omega
      have htk : ns.take (k + 1) = ns := by rw [hkn, ← HNS.out, List.take_length]
      rw [htk] at ho
      have hnats := ho.nats
      have hP := HP.out
      have hFle := HF.out.1
      obtain ⟨q, hq⟩ : ∃ q, q = 8 * len - P := ⟨_, rfl⟩
      have hqi : ((8 * len - P : Nat) : Int) = (q : Int) := by rw [hq]
      have hszi : (len : Int) - (q : Int) / 8 = (sz : Int) := by have := HSZF.out; omega
      have hPl : P ≤ 8 * len := by omega
      have hn' : (xb ns).length = sz := HSZ.out.symm
      have HQ := Lib.hid hqi
      have HSZ' := Lib.hid hn'
      have hcle : k + 1 ≤ cl := (OwnV.caps ho).2.1
      have hclm : cl ≤ maxLen := (OwnV.caps ho).2.2.1
      have HCLM := Lib.hid hclm
      have HNK : Hid (ns.length = k + 1) := Lib.hid (by rw [HNS.out, hkn])
      have HKN := Lib.hid hkn
      clear hP hFle hq hqi hn' htk hclm hkn
      go_wp2_with (first
        | (go_at_call 43; with_reducible refine (bad_any w.heap.size A len c P false _ hr).mono ?_; rintro e w7 ⟨rfl, rfl⟩)
        | (go_at_call 44; with_reducible refine (left_lit w.heap.size A len c P false (q : Int) _ HQ.out.symm hr (by omega) hPl).mono ?_; rintro e w8 ⟨rfl, hb8⟩; have hbw8 := hb.trans (hb8.mono hb.size))
        | (go_at_call 16; with_reducible refine (xorsPut_any (some ⟨gl, 0, none⟩) (k + 1) cl ns _ HNK.out (hnats.below hb8) (by omega) hcle HCLM.out HM.out (HT.out.below hbw8)).mono ?_; rw [HSZ'.out]; rintro e w9 ⟨A9, c9, rfl, hx9, hb9, _, _⟩; have hbw9 := hbw8.trans (hb9.mono hbw8.size); have hxt9 := HXT.out.below hbw9)
        | (go_at_call 34; with_reducible refine (equal_b A9 A c9 c sz sz (xb ns) (X.take sz) _ HSZ'.out HXTL.out hx9 hxt9 HEQ.out).mono ?_; rintro e wa ⟨rfl, rfl⟩))
      go_ret3
      exact ⟨_, _, by rw [← HKN.out]; rfl, (hnats.below hb8).below hb9, hbw9⟩
end Go.Proofs.YtanljjpjhihgcaaDoor

namespace Go.Proofs.YtanljjpjhihgcaaDoor
open Go.RowKit BitM RunM
set_option linter.unusedVariables false

set_option maxHeartbeats 1000000 in
set_option maxRecDepth 100000 in
theorem xorsGet_weak (A : Option Addr) (len c n : Nat) (X : List UInt8) (w : World) (hX : BytesAt w A X) (hlen : X.length = len) (hl : len ≤ 1000000) (hc : len ≤ c) (hcm : c ≤ maxLen) (hpos : 0 < n) (hn2 : n ≤ 200) (ht : TabAt w) :
    Calls Tryd.prog 18 #[.slice A len c, .int .i64 (n : Int)] w fun e w' => Below w.heap.size w w' ∧ (e = .returned (.tuple #[.slice none 0 0, .int .i64 0, .int .i64 3]) ∨ e = .returned (.tuple #[.slice none 0 0, .int .i64 0, .int .i64 4]) ∨
      ∃ A' c' ns sz, e = .returned (.tuple #[.slice A' n c', .int .i64 ((sz : Nat) : Int), .int .i64 0]) ∧ NatsAt w' A' ns ∧ n ≤ c' ∧ c' ≤ maxLen ∧ ns.length = n ∧ (∀ v ∈ ns, v < 18446744073709551616) ∧ (xb ns).length = sz ∧ sz ≤ len ∧ xb ns = X.take sz) := by
  have hn0 : ((n : Int) == 0) = false := by rw [beq_eq_false_iff_ne]; omega
  obtain ⟨n1, hn1⟩ : ∃ n1, n1 = n - 1 := ⟨_, rfl⟩
  have hsub : (n : Int) - 1 = (n1 : Int) := by omega
  have HXB := Lib.hid hX
  have HXL := Lib.hid hlen
  have HT := Lib.hid ht
  have HN1 := Lib.hid hn1
  unfold maxLen at hcm
  clear hX hlen ht hn1
  go_enter Tryd.func18, Tryd.ntmps18
  go_wp2_with (first
    | (go_at_call 40; with_reducible refine (new_any A len c _).mono ?_; rintro e w1 ⟨rfl, hr1, hl1, hb1⟩; have hx1 := HXB.out.below hb1)
    | (go_at_call 41; with_reducible refine (take_weak w.heap.size A len c 0 false 64 X 18446744073709551616 _ hr1 hx1 HXL.out hl (by omega) (by decide)).mono ?_; rintro e w2 ⟨v0, p0, bad0, rfl, hv0lt, hp0, hr2, hg2⟩; have hb2 := below_some hb1.size (Nat.le_refl _) hb1 hg2; have hs2 := hg2.size))
  have hle2 : w.heap.size + 1 ≤ w2.heap.size := by omega
  have ho2 : OwnN (w2.alloc (.cells #[.int .u64 (v0 : Int)] 22)) (w.heap.size + 1) (.slice (some ⟨w2.heap.size, 0, none⟩) 1 1) [v0] := OwnV.new w2 22 [uv v0] (w.heap.size + 1) hle2 (by unfold maxLen; simp)
  have hr2' := RdAt.allocd hr2 (.cells #[.int .u64 (v0 : Int)] 22)
  have hb2' : Below w.heap.size w (w2.alloc (.cells #[.int .u64 (v0 : Int)] 22)) := hb2.alloc hb2.size _
  clear hr1 hx1 hb1 hg2 hr2 hb2
  go_loopw [8, 28] (fun l i wr => ∃ (k P cl : Nat) (Al : Option Addr) (bad : Bool) (ds : List Nat), k ≤ n1 ∧ i = .int .i64 k ∧ l = .slice Al (k + 1) cl ∧ Hid (P ≤ 8 * len) ∧ Hid (∀ v ∈ ds, v < 18446744073709551616) ∧ RdAt wr w.heap.size A len c P bad ∧ OwnN wr (w.heap.size + 1) (.slice Al (k + 1) cl) ds ∧ Below w.heap.size w wr) (fun _ i _ => n1 - (intOf i).toNat)
  case atStart => exact ⟨0, p0, 1, _, bad0, [v0], by omega, rfl, rfl, Lib.hid hp0, Lib.hid (by simpa using hv0lt), hr2', ho2, hb2'⟩
  case round =>
    obtain ⟨k, P, cl, Al, bad, ds, hk, rfl, rfl, HP, HM, hr, ho, hb⟩ := hrel
    obtain ⟨gl, rfl⟩ := OwnN.addr ho (by omega)
    obtain ⟨hdl, hcle, hclm, _⟩ := OwnN.caps ho
    by_cases hlt : k < n1
    · obtain ⟨lv, hlv⟩ : ∃ lv, lv = ds.getD k 0 := ⟨_, rfl⟩
      have HLV : Hid (ds.getD k 0 = lv) := Lib.hid hlv.symm
      have g1 : lv < 18446744073709551616 := by rw [hlv]; exact getD_lt ds HM.out k
      have hn1200 : n1 ≤ 200 := by have := HN1.out; omega
      have HDL := Lib.hid hdl
      clear hlv hdl hcle hclm
      go_wp2_with fail
      refine region_ways w.heap.size hb.size (.two [0, 1, 2, 3, 5] 4 (.one [] 6 (.one [7] 8 (.one [] 9 (.done [10])))) 6 (.one [] 4 (.one [7] 8 (.one [] 9 (.done [10]))))) (by kernel_rfl) (by kernel_rfl) ?_
      rintro wd hbd
      have hrd := hr.below hbd
      have hod : OwnN wd (w.heap.size + 1) (.slice (some ⟨gl, 0, none⟩) (k + 1) cl) ds := OwnV.below ho hbd
      have hxd := (HXB.out.below hb).below hbd
      have hcd := OwnN.cellk hod k lv (by omega) HLV.out
      have hbw := hb.trans (hbd.mono hb.size)
      have hfd := (OwnV.row hod).2.2.2.2.1
      rw [wpWays_two]
      try simp only [List.map_cons, List.map_nil, opAt, List.getElem?_toArray, List.getElem?_cons_zero, List.getElem?_cons_succ, Option.getD_some]
      repeat (go_big_quiet_step (fail))
      refine wpQuiet_nil ⟨?_, ?_⟩
      · go_wp2_with fail
        refine ⟨⟨⟨_, hbd.mono hb.size⟩, rfl⟩, ?_⟩
        try simp only [Act.put, List.setIfInBounds_toArray, List.set_cons_zero, List.set_cons_succ]
        rw [wpWays_one]
        try simp only [List.map_cons, List.map_nil, opAt, List.getElem?_toArray, List.getElem?_cons_zero, List.getElem?_cons_succ, Option.getD_some]
        repeat (go_big_quiet_step (fail))
        refine wpQuiet_nil ?_
        go_wp2_with (go_at_call 42; with_reducible refine (takeChange_weak' w.heap.size A len c P bad X _ hrd hxd HXL.out hl HP.out).mono ?_; rintro e w2 ⟨x, p2, bad2, rfl, hx64, hp2, hr2, hg2⟩)
        have hbw2 := below_some hbw.size (Nat.le_refl _) hbw hg2
        have hb2 : Below w.heap.size wr w2 := below_some (by have := hb.size; have := hbd.size; omega) (Nat.le_refl _) (hbd.mono hb.size) hg2
        have ho2 := OwnN.besideR hod hg2 (by omega)
        have hcd2 := OwnN.cellk ho2 k lv (by omega) HLV.out
        obtain ⟨nv, hnv⟩ : ∃ nv, nv = lv ^^^ x := ⟨_, rfl⟩
        have hxo : bits BinOp.xor IntKind.u64 (lv : Int) (x : Int) = (nv : Int) := by rw [u64_xor_nat _ _ g1 hx64, hnv]
        have g2 : nv < 18446744073709551616 := by rw [hnv]; exact Nat.xor_lt_two_pow (n := 64) g1 hx64
        obtain ⟨ds2, hds2⟩ : ∃ ds2, ds2 = ds ++ [nv] := ⟨_, rfl⟩
        have HDS2 : Hid (ds.map uv ++ [uv nv] = ds2.map uv) := Lib.hid (by rw [hds2]; simp)
        have HL3 : Hid ((ds2.map uv).length = k + 1 + 1) := Lib.hid (by rw [hds2]; simp [HDL.out])
        have hl1 : ((ds.map uv).length + 1) * 8 ≤ 140737488355328 := by rw [List.length_map, HDL.out]; omega
        have hl2 : (ds.map uv).length + 1 ≤ maxLen := by rw [List.length_map, HDL.out]; unfold maxLen; omega
        have HM2 : Hid (∀ v ∈ ds2, v < 18446744073709551616) := Lib.hid (by rw [hds2]; intro v hv; simp only [List.mem_append, List.mem_singleton] at hv; rcases hv with hv | rfl; exact HM.out v hv; exact g2)
        have HP2 := Lib.hid hp2
        clear hnv hds2 hp2
        refine ⟨⟨⟨_, hb2⟩, rfl⟩, ?_⟩
        try simp only [Act.put, List.setIfInBounds_toArray, List.set_cons_zero, List.set_cons_succ]
        rw [wpWays_one]
        try simp only [List.map_cons, List.map_nil, opAt, List.getElem?_toArray, List.getElem?_cons_zero, List.getElem?_cons_succ, Option.getD_some]
        repeat (go_big_quiet_step (fail))
        refine wpQuiet_nil ?_
        go_wp2_with fail
        have hb3 : Below w.heap.size wr (w2.alloc (.cells #[.int .u64 (nv : Int)] 22)) := hb2.alloc (by have := hbw2.size; exact this) _
        refine ⟨⟨⟨_, hb3⟩, rfl⟩, ?_⟩
        try simp only [Act.put, List.setIfInBounds_toArray, List.set_cons_zero, List.set_cons_succ]
        rw [wpWays_one]
        try simp only [List.map_cons, List.map_nil, opAt, List.getElem?_toArray, List.getElem?_cons_zero, List.getElem?_cons_succ, Option.getD_some]
        repeat (go_big_quiet_step (fail))
        refine wpQuiet_nil ?_
        have hbw3 : Below w.heap.size w (w2.alloc (.cells #[.int .u64 (nv : Int)] 22)) := hbw2.alloc hbw2.size _
        have hbase3 : w.heap.size + 1 ≤ (w2.alloc (.cells #[.int .u64 (nv : Int)] 22)).heap.size := by have := hbw2.size; simp; omega
        go_wp2_with (at_builtin; refine wpList_append_vz rfl (.tmp 31) (.tmp 39) 34 rfl Tryd.underlying34 _ 8 infoU64 rfl rfl (OwnV.alloc ho2 _) _ _ 1 [uv nv] (ds2.map uv) rfl rfl (cellsAt_one _ _ _ _ rfl) (uv_one [nv]) HDS2.out hl1 hl2 hbase3 ?_; rw [HL3.out]; intro A3 c3 w4 ho4 hg4)
        have hbw4 := (OwnV.alloc ho2 _).belowGrown (B := w.heap.size) (by omega) (by have := hbw3.size; exact this) hbw3 hg4
        have hb4 := (OwnV.alloc ho2 _).belowGrown (B := w.heap.size) (by omega) (by have := hbw3.size; exact this) hb3 hg4
        have hr4 := RdAt.beside (RdAt.allocd hr2 _) (OwnV.alloc ho2 _) hg4 (by omega)
        refine ⟨⟨⟨_, hb4⟩, rfl⟩, ?_⟩
        try simp only [Act.put, List.setIfInBounds_toArray, List.set_cons_zero, List.set_cons_succ]
        rw [wpWays_done]
        try simp only [List.map_cons, List.map_nil, opAt, List.getElem?_toArray, List.getElem?_cons_zero, List.getElem?_cons_succ, Option.getD_some]
        repeat (go_big_quiet_step (fail))
        refine wpQuiet_nil ?_
        go_wp2_with fail
        go_roundw
        case rel => exact ⟨k + 1, p2, c3, A3, bad2, ds2, by omega, by go_num, rfl, HP2, HM2, hr4, ho4, hbw4⟩
        case measure => simp [intOf]; omega
      · go_wp2_with (go_at_call 42; with_reducible refine (takeChange_weak' w.heap.size A len c P bad X _ hrd hxd HXL.out hl HP.out).mono ?_; rintro e w2 ⟨x, p2, bad2, rfl, hx64, hp2, hr2, hg2⟩)
        have hbw2 := below_some hbw.size (Nat.le_refl _) hbw hg2
        have hb2 : Below w.heap.size wr w2 := below_some (by have := hb.size; have := hbd.size; omega) (Nat.le_refl _) (hbd.mono hb.size) hg2
        have ho2 := OwnN.besideR hod hg2 (by omega)
        have hcd2 := OwnN.cellk ho2 k lv (by omega) HLV.out
        obtain ⟨nv, hnv⟩ : ∃ nv, nv = lv ^^^ x := ⟨_, rfl⟩
        have hxo : bits BinOp.xor IntKind.u64 (lv : Int) (x : Int) = (nv : Int) := by rw [u64_xor_nat _ _ g1 hx64, hnv]
        have g2 : nv < 18446744073709551616 := by rw [hnv]; exact Nat.xor_lt_two_pow (n := 64) g1 hx64
        obtain ⟨ds2, hds2⟩ : ∃ ds2, ds2 = ds ++ [nv] := ⟨_, rfl⟩
        have HDS2 : Hid (ds.map uv ++ [uv nv] = ds2.map uv) := Lib.hid (by rw [hds2]; simp)
        have HL3 : Hid ((ds2.map uv).length = k + 1 + 1) := Lib.hid (by rw [hds2]; simp [HDL.out])
        have hl1 : ((ds.map uv).length + 1) * 8 ≤ 140737488355328 := by rw [List.length_map, HDL.out]; omega
        have hl2 : (ds.map uv).length + 1 ≤ maxLen := by rw [List.length_map, HDL.out]; unfold maxLen; omega
        have HM2 : Hid (∀ v ∈ ds2, v < 18446744073709551616) := Lib.hid (by rw [hds2]; intro v hv; simp only [List.mem_append, List.mem_singleton] at hv; rcases hv with hv | rfl; exact HM.out v hv; exact g2)
        have HP2 := Lib.hid hp2
        clear hnv hds2 hp2
        refine ⟨⟨⟨_, hb2⟩, rfl⟩, ?_⟩
        try simp only [Act.put, List.setIfInBounds_toArray, List.set_cons_zero, List.set_cons_succ]
        rw [wpWays_one]
        try simp only [List.map_cons, List.map_nil, opAt, List.getElem?_toArray, List.getElem?_cons_zero, List.getElem?_cons_succ, Option.getD_some]
        repeat (go_big_quiet_step (fail))
        refine wpQuiet_nil ?_
        go_wp2_with fail
        refine ⟨⟨⟨_, hb2⟩, rfl⟩, ?_⟩
        try simp only [Act.put, List.setIfInBounds_toArray, List.set_cons_zero, List.set_cons_succ]
        rw [wpWays_one]
        try simp only [List.map_cons, List.map_nil, opAt, List.getElem?_toArray, List.getElem?_cons_zero, List.getElem?_cons_succ, Option.getD_some]
        repeat (go_big_quiet_step (fail))
        refine wpQuiet_nil ?_
        go_wp2_with fail
        have hb3 : Below w.heap.size wr (w2.alloc (.cells #[.int .u64 (nv : Int)] 22)) := hb2.alloc (by have := hbw2.size; exact this) _
        refine ⟨⟨⟨_, hb3⟩, rfl⟩, ?_⟩
        try simp only [Act.put, List.setIfInBounds_toArray, List.set_cons_zero, List.set_cons_succ]
        rw [wpWays_one]
        try simp only [List.map_cons, List.map_nil, opAt, List.getElem?_toArray, List.getElem?_cons_zero, List.getElem?_cons_succ, Option.getD_some]
        repeat (go_big_quiet_step (fail))
        refine wpQuiet_nil ?_
        have hbw3 : Below w.heap.size w (w2.alloc (.cells #[.int .u64 (nv : Int)] 22)) := hbw2.alloc hbw2.size _
        have hbase3 : w.heap.size + 1 ≤ (w2.alloc (.cells #[.int .u64 (nv : Int)] 22)).heap.size := by have := hbw2.size; simp; omega
        go_wp2_with (at_builtin; refine wpList_append_vz rfl (.tmp 31) (.tmp 39) 34 rfl Tryd.underlying34 _ 8 infoU64 rfl rfl (OwnV.alloc ho2 _) _ _ 1 [uv nv] (ds2.map uv) rfl rfl (cellsAt_one _ _ _ _ rfl) (uv_one [nv]) HDS2.out hl1 hl2 hbase3 ?_; rw [HL3.out]; intro A3 c3 w4 ho4 hg4)
        have hbw4 := (OwnV.alloc ho2 _).belowGrown (B := w.heap.size) (by omega) (by have := hbw3.size; exact this) hbw3 hg4
        have hb4 := (OwnV.alloc ho2 _).belowGrown (B := w.heap.size) (by omega) (by have := hbw3.size; exact this) hb3 hg4
        have hr4 := RdAt.beside (RdAt.allocd hr2 _) (OwnV.alloc ho2 _) hg4 (by omega)
        refine ⟨⟨⟨_, hb4⟩, rfl⟩, ?_⟩
        try simp only [Act.put, List.setIfInBounds_toArray, List.set_cons_zero, List.set_cons_succ]
        rw [wpWays_done]
        try simp only [List.map_cons, List.map_nil, opAt, List.getElem?_toArray, List.getElem?_cons_zero, List.getElem?_cons_succ, Option.getD_some]
        repeat (go_big_quiet_step (fail))
        refine wpQuiet_nil ?_
        go_wp2_with fail
        go_roundw
        case rel => exact ⟨k + 1, p2, c3, A3, bad2, ds2, by omega, by go_num, rfl, HP2, HM2, hr4, ho4, hbw4⟩
        case measure => simp [intOf]; omega
    · obtain rfl : k = n1 := by omega
      have hkn : k + 1 = n := by have := HN1.out; omega
      have hnats := ho.nats
      obtain ⟨q, hq⟩ : ∃ q, q = 8 * len - P := ⟨_, rfl⟩
      have hqi : ((8 * len - P : Nat) : Int) = (q : Int) := by rw [hq]
      have hPl : P ≤ 8 * len := HP.out
      obtain ⟨sz, hsz⟩ : ∃ sz, sz = len - q / 8 := ⟨_, rfl⟩
      have hszi : (len : Int) - (q : Int) / 8 = (sz : Int) := by omega
      have hszl : sz ≤ len := by omega
      have HQ := Lib.hid hqi
      have HCLM := Lib.hid hclm
      have HNK := Lib.hid hdl
      have HKN := Lib.hid hkn
      have hxt : BytesAt w A (X.take sz) := HXB.out.take sz
      have hxtl : (X.take sz).length = sz := by rw [List.length_take, HXL.out]; omega
      have HXT := Lib.hid hxt
      have HXTL := Lib.hid hxtl
      clear hq hqi hkn hclm hsz hdl hxt hxtl
      cases bad with
      | true =>
        go_wp2_with (go_at_call 43; with_reducible refine (bad_any w.heap.size A len c P true _ hr).mono ?_; rintro e w7 ⟨rfl, rfl⟩)
        go_ret3
        exact ⟨hb, .inr (.inl rfl)⟩
      | false =>
        by_cases he : xb ds = X.take sz
        · have hn' : (xb ds).length = sz := by rw [he]; exact HXTL.out
          have HSZ' := Lib.hid hn'
          have HEQ := Lib.hid he
          clear hn' he
          go_wp2_with (first
            | (go_at_call 43; with_reducible refine (bad_any w.heap.size A len c P false _ hr).mono ?_; rintro e w7 ⟨rfl, rfl⟩)
            | (go_at_call 44; with_reducible refine (left_lit w.heap.size A len c P false (q : Int) _ HQ.out.symm hr (by omega) hPl).mono ?_; rintro e w8 ⟨rfl, hb8⟩; have hbw8 := hb.trans (hb8.mono hb.size))
            | (go_at_call 16; with_reducible refine (xorsPut_any (some ⟨gl, 0, none⟩) (k + 1) cl ds _ HNK.out (hnats.below hb8) (by have := HKN.out; omega) hcle HCLM.out HM.out (HT.out.below hbw8)).mono ?_; rw [HSZ'.out]; rintro e w9 ⟨A9, c9, rfl, hx9, hb9, _, _⟩; have hbw9 := hbw8.trans (hb9.mono hbw8.size); have hxt9 := HXT.out.below hbw9)
            | (go_at_call 34; with_reducible refine (equal_b A9 A c9 c sz sz (xb ds) (X.take sz) _ HSZ'.out HXTL.out hx9 hxt9 HEQ.out).mono ?_; rintro e wa ⟨rfl, rfl⟩))
          go_ret3
          exact ⟨hbw9, .inr (.inr ⟨_, _, ds, sz, by rw [← HKN.out]; rfl, (hnats.below hb8).below hb9, by rw [← HKN.out]; exact hcle, HCLM.out, by rw [← HKN.out]; exact HNK.out, HM.out, HSZ'.out, hszl, HEQ.out⟩)⟩
        · obtain ⟨zl, hzl⟩ : ∃ zl, (xb ds).length = zl := ⟨_, rfl⟩
          have HZL := Lib.hid hzl
          have HNE := Lib.hid he
          clear hzl he
          go_wp2_with (first
            | (go_at_call 43; with_reducible refine (bad_any w.heap.size A len c P false _ hr).mono ?_; rintro e w7 ⟨rfl, rfl⟩)
            | (go_at_call 44; with_reducible refine (left_lit w.heap.size A len c P false (q : Int) _ HQ.out.symm hr (by omega) hPl).mono ?_; rintro e w8 ⟨rfl, hb8⟩; have hbw8 := hb.trans (hb8.mono hb.size))
            | (go_at_call 16; with_reducible refine (xorsPut_any (some ⟨gl, 0, none⟩) (k + 1) cl ds _ HNK.out (hnats.below hb8) (by have := HKN.out; omega) hcle HCLM.out HM.out (HT.out.below hbw8)).mono ?_; rw [HZL.out]; rintro e w9 ⟨A9, c9, rfl, hx9, hb9, _, _⟩; have hbw9 := hbw8.trans (hb9.mono hbw8.size); have hxt9 := HXT.out.below hbw9)
            | (go_at_call 34; with_reducible refine (equal_ne A9 A c9 c zl sz (xb ds) (X.take sz) _ HZL.out HXTL.out hx9 hxt9 HNE.out).mono ?_; rintro e wa ⟨rfl, rfl⟩))
          go_ret3
          exact ⟨hbw9, .inl rfl⟩
end Go.Proofs.YtanljjpjhihgcaaDoor

namespace BitM
open Go.Proofs.YtanljjpjhihgcaaDoor
theorem xb_len {l : List Nat} (hne : l ≠ []) : (xb l).length = ((xt l (l.length - 1)).1 + 7) / 8 := by unfold xb; rw [if_neg hne, length_bytesW]
theorem xt_same (l : List Nat) (v : Nat) : ∀ k, (∀ j, j ≤ k → l.getD j 0 = v) → (xt l k).1 = 64 + k
  | 0, _ => by
    show 0 + wi 64 = _
    rw [show wi 64 = 64 by decide]
  | k + 1, h => by
    have ih := xt_same l v k (fun j hj => h j (by omega))
    show (xadd (xt l k) (l.getD (k + 1) 0 ^^^ l.getD k 0)).1 = _
    rw [h (k + 1) (by omega), h k (by omega), Nat.xor_self]
    show (xt l k).1 + wi 1 = _
    rw [show wi 1 = 1 by decide, ih]
    omega
theorem xb_same (v k : Nat) (hk : 1 ≤ k) : (xb (List.replicate k v)).length = 8 + (k - 1 + 7) / 8 := by
  have hne : List.replicate k v ≠ [] := by intro h; have := congrArg List.length h; simp at this; omega
  rw [xb_len hne, List.length_replicate, xt_same _ v]
  · omega
  · intro j hj
    rw [List.getD_eq_getElem?_getD, List.getElem?_replicate, if_pos (by omega)]
    rfl
theorem bits_front (F : Nat × Nat) (hV : F.2 < 2 ^ F.1) (rest : List UInt8) (len : Nat) (hlen : (bytesW F.1 F.2 ++ rest).length = len) : Bits (bytesW F.1 F.2 ++ rest) len F := by
  subst hlen
  have hl := length_bytesW F.1 F.2
  refine ⟨by rw [List.length_append, hl]; omega, fun p q hpq hq => ?_⟩
  rw [List.length_append, mid_front _ _ _ _ (by rw [hl]; omega), hl]
  exact mid_bytesW F.1 F.2 p q hV hq
theorem xb_le (n : Nat) (ns : List Nat) (hn : ns.length ≤ n) (hl : n ≤ 200) (hm : ∀ v ∈ ns, v < 18446744073709551616) : (xb ns).length ≤ 4000 := by
  by_cases hne : ns = []
  · subst hne
    simp [xb]
  · rw [xb_len hne]
    have := xt_le ns hm (ns.length - 1)
    omega
end BitM
namespace Go.Proofs.YtanljjpjhihgcaaDoor
open Go.RowKit BitM RunM
set_option linter.unusedVariables false

theorem xorsGet_x (A : Option Addr) (len c n : Nat) (z : Int) (X rest Z : List UInt8) (ns : List Nat) (sz : Nat) (w : World) (hz : z = (n : Int)) (hZ : xb ns = Z) (hXe : X = Z ++ rest) (hlen : X.length = len) (hl : len ≤ 1000000) (hX : BytesAt w A X) (hc : len ≤ c) (hcm : c ≤ maxLen)
    (hns : ns.length = n) (hn2 : n ≤ 200) (hm : ∀ v ∈ ns, v < 18446744073709551616) (hsz : Z.length = sz) (ht : TabAt w) :
    Calls Tryd.prog 18 #[.slice A len c, .int .i64 z] w fun e w' => ∃ A' c', e = .returned (.tuple #[.slice A' n c', .int .i64 (sz : Int), .int .i64 0]) ∧ NatsAt w' A' ns ∧ Below w.heap.size w w' := by
  subst hz
  by_cases hne : ns = []
  · subst hne
    have hn0 : n = 0 := by simpa using hns.symm
    have hs0 : sz = 0 := by rw [← hsz, ← hZ]; rfl
    subst hn0 hs0
    refine (xorsGet_zero A len c w).mono ?_
    rintro e w' ⟨rfl, rfl⟩
    exact ⟨none, 0, rfl, fun h => absurd rfl h, Below.refl _ _⟩
  · have hpos : 0 < n := by
      rcases Nat.eq_zero_or_pos n with h | h
      · rw [h] at hns
        exact absurd (List.eq_nil_of_length_eq_zero hns) hne
      · exact h
    have hxe : xb ns = bytesW (xt ns (n - 1)).1 (xt ns (n - 1)).2 := by unfold xb; rw [if_neg hne, hns]
    have hF : Bits X len (xt ns (n - 1)) := by
      subst hXe
      rw [← hZ, hxe] at hlen ⊢
      exact bits_front _ (xt_lt ns _) rest len hlen
    refine xorsGet_good A len c n X ns sz w hX hlen hl hc hcm hpos hn2 hns hm hF (by rw [← hsz, hZ]) ?_ ?_ ht
    · rw [← hlen, hXe, List.length_append, hsz]; omega
    · rw [hXe, hZ, ← hsz, List.take_left]

theorem xorsPut_z (A : Option Addr) (n c : Nat) (ns : List Nat) (Z : List UInt8) (sz : Nat) (w : World) (hZ : xb ns = Z) (hsz : Z.length = sz) (hn : ns.length = n) (hx : NatsAt w A ns) (hl : n ≤ 200) (hc : n ≤ c) (hcm : c ≤ maxLen) (hm : ∀ v ∈ ns, v < 18446744073709551616) (ht : TabAt w) :
    Calls Tryd.prog 16 #[.slice A n c] w fun e w' => ∃ A' c', e = .returned (.tuple #[.slice A' sz c', .int .i64 0]) ∧ BytesAt w' A' Z ∧ Below w.heap.size w w' ∧ sz ≤ c' ∧ c' ≤ maxLen := by
  subst hZ hsz
  exact xorsPut_any A n c ns w hn hx hl hc hcm hm ht
theorem refXorPut_z (A : Option Addr) (n c : Nat) (ns : List Nat) (Z : List UInt8) (sz : Nat) (w : World) (hZ : xb ns = Z) (hsz : Z.length = sz) (hn : ns.length = n) (hx : NatsAt w A ns) (hl : n ≤ 200) (hm : ∀ v ∈ ns, v < 18446744073709551616) :
    Calls Tryd.prog 17 #[.slice A n c] w fun e w' => ∃ A' c', e = .returned (.slice A' sz c') ∧ BytesAt w' A' Z ∧ Below w.heap.size w w' := by
  subst hZ hsz
  exact refXorPut_any A n c ns w hn hx hl hm
theorem xorsPut_large (A : Option Addr) (n c : Nat) (w : World) (hl : 200 < n) (hl2 : n ≤ 100000) :
    Calls Tryd.prog 16 #[.slice A n c] w fun e w' => e = .returned (.tuple #[.slice none 0 0, .int .i64 1]) ∧ w = w' := by
  go_enter Tryd.func16, Tryd.ntmps16
  go_wp2_with fail
  go_ret2
  exact ⟨rfl, rfl⟩

set_option maxRecDepth 100000 in
theorem xoputs_any (w : World) (ht : TabAt w) : Calls Tryd.prog 19 #[] w fun e w' => e = .returned (.bool true) ∧ Below w.heap.size w w' := by
  have hm : ∀ v ∈ [5, 5], v < 18446744073709551616 := by decide
  obtain ⟨Z, hZ⟩ : ∃ Z, xb [5, 5] = Z := ⟨_, rfl⟩
  have hZl : Z.length = 9 := by rw [← hZ]; exact xb_same 5 2 (by omega)
  have HM := Lib.hid hm
  have HZ := Lib.hid hZ
  have HZL := Lib.hid hZl
  have HT := Lib.hid ht
  clear hm hZ hZl ht
  have hb0 : Below w.heap.size w (w.alloc (.cells #[.int .u64 5, .int .u64 5] 22)) := (Below.refl _ _).alloc (Nat.le_refl _) _
  have hx0 := nats_two w 5 5 5 5 22 rfl rfl
  go_enter Tryd.func19, Tryd.ntmps19
  go_wp2_with (first
    | (go_at_call 16; with_reducible refine (xorsPut_z (some ⟨w.heap.size, 0, none⟩) 2 2 [5, 5] Z 9 _ HZ.out HZL.out rfl hx0 (by omega) (by omega) (by unfold maxLen; omega) HM.out (HT.out.below hb0)).mono ?_; rintro e w1 ⟨A1, c1, rfl, hx1, hb1, hc1, hm1⟩))
  have hb01 := hb0.trans (hb1.mono hb0.size)
  go_loud (with_reducible refine (xorsGet_x A1 9 c1 2 2 Z [] Z [5, 5] 9 _ rfl HZ.out (List.append_nil _).symm HZL.out (by omega) hx1 hc1 hm1 rfl (by omega) HM.out HZL.out (HT.out.below hb01)).mono ?_)
  rintro e w2 ⟨A2, c2, rfl, hx2, hb2⟩
  obtain ⟨b2, o2, rfl⟩ := hx2.addr (by simp)
  have l1 := hx2.cell 1 (by decide)
  have hbb : Below w.heap.size w w2 := hb01.trans (hb2.mono hb01.size)
  clear hx1
  go_wp2_with fail
  go_ret
  exact ⟨rfl, hbb⟩
end Go.Proofs.YtanljjpjhihgcaaDoor

namespace BitM
open Go.Proofs.YtanljjpjhihgcaaDoor
theorem tz_pow : ∀ p, tz (2 ^ p) = p
  | 0 => by
    unfold tz
    rw [dif_pos (by left; decide)]
  | p + 1 => by
    have hp : 0 < 2 ^ p := Nat.pow_pos (by omega)
    unfold tz
    rw [dif_neg (by rw [Nat.pow_succ]; omega), show 2 ^ (p + 1) / 2 = 2 ^ p by rw [Nat.pow_succ]; omega, tz_pow p]
theorem lenB_pow (p : Nat) : lenB (2 ^ p) = p + 1 := lenB_eq _ _ (Nat.pow_lt_pow_right (by omega) (by omega)) (.inr (by rw [Nat.add_sub_cancel]; exact Nat.le_refl _))
theorem xor_swap (a b : Nat) : (a ^^^ b) ^^^ a = b := by rw [Nat.xor_comm a b, Nat.xor_assoc, Nat.xor_self, Nat.xor_zero]
theorem xb_bit (v p : Nat) : (xb [v, v ^^^ 2 ^ p]).length = 10 := by
  rw [xb_len (by simp)]
  show ((xadd (xt [v, v ^^^ 2 ^ p] 0) ((v ^^^ 2 ^ p) ^^^ v)).1 + 7) / 8 = 10
  rw [xor_swap]
  have h0 : xt [v, v ^^^ 2 ^ p] 0 = (64, 0 * 2 ^ 64 + v % 2 ^ 64) := rfl
  rw [h0, xadd_some (2 ^ p) 1 64 _ _ _ _ _ _ _ _ _ (by have : 0 < 2 ^ p := Nat.pow_pos (by omega); omega) (by rw [lenB_pow, tz_pow]; omega) (by omega) rfl rfl rfl rfl rfl rfl rfl rfl]
  exact (rfl : (64 + 1 + 6 + 6 + 1 + 7) / 8 = 10)
end BitM
namespace Go.Proofs.YtanljjpjhihgcaaDoor
open Go.RowKit BitM RunM
set_option linter.unusedVariables false

theorem modn64 (a m : Int) (hm : 0 < m) (hm2 : m ≤ 1000) : ∃ k : Nat, (k : Int) < m ∧ wrap64 ((IntKind.u64.wrap a).tmod m) = (k : Int) := by
  have h0 : 0 ≤ IntKind.u64.wrap a := by rw [IntKind.wrap_u64]; omega
  rw [Int.tmod_eq_emod_of_nonneg h0]
  have h2 : 0 ≤ IntKind.u64.wrap a % m := Int.emod_nonneg _ (by omega)
  have h3 : IntKind.u64.wrap a % m < m := Int.emod_lt_of_pos _ (by omega)
  rw [IntWalk.wrap64_in (IntKind.u64.wrap a % m) ⟨by omega, by omega⟩]
  exact ⟨(IntKind.u64.wrap a % m).toNat, by omega, by omega⟩

set_option maxHeartbeats 1000000 in
set_option maxRecDepth 100000 in
theorem xorsBits_walk (v0 : Int) (hv0 : (Lit.int .u64 v0).wf = true) (b : Int) (hb : (Lit.int .i64 b).wf = true) {w : World} (ht : TabAt w) :
    Calls Tryd.prog 7 #[.int .u64 v0, .int .i64 b] w fun e w' => e = .returned (.bool true) ∧ Below w.heap.size w w' := by
  obtain ⟨m1, m2⟩ : 0 ≤ v0 ∧ v0 < 18446744073709551616 := by have := bounds_u64 hv0; omega
  obtain ⟨v, rfl⟩ := Int.eq_ofNat_of_zero_le m1
  have hv : v < 18446744073709551616 := by omega
  clear hv0 m1 m2
  obtain ⟨p, hp, hpe⟩ := modn64 b 64 (by omega) (by omega)
  obtain ⟨P2, hP2⟩ : ∃ P2, P2 = 2 ^ p := ⟨_, rfl⟩
  have hP64 : P2 < 18446744073709551616 := by rw [hP2]; exact Nat.pow_lt_pow_right (by omega) (show p < 64 by omega)
  obtain ⟨u, hu⟩ : ∃ u, u = v ^^^ P2 := ⟨_, rfl⟩
  have hu64 : u < 18446744073709551616 := by rw [hu]; exact Nat.xor_lt_two_pow (n := 64) hv hP64
  have hxo : bits BinOp.xor IntKind.u64 (v : Int) (P2 : Int) = (u : Int) := by rw [u64_xor_nat _ _ hv hP64, hu]
  obtain ⟨Z, hZ⟩ : ∃ Z, xb [v, u] = Z := ⟨_, rfl⟩
  have hZl : Z.length = 10 := by rw [← hZ, hu, hP2]; exact xb_bit v p
  have hm : ∀ x ∈ [v, u], x < 18446744073709551616 := fun x hx => by simp at hx; rcases hx with rfl | rfl <;> omega
  have e2 : (2 : Int) ^ p = (P2 : Int) := by rw [hP2]; push_cast; rfl
  have hs1 : IntKind.u64.wrap ((2 : Int) ^ p) = (P2 : Int) := by rw [e2, IntKind.wrap_u64]; omega
  have HZ := Lib.hid hZ
  have HZL := Lib.hid hZl
  have HM := Lib.hid hm
  have HT := Lib.hid ht
  have HPE := Lib.hid hpe
  have HX0 : Hid (Z = Z ++ []) := Lib.hid (List.append_nil _).symm
  have hb0 : Below w.heap.size w (w.alloc (.cells #[.int .u64 (v : Int), .int .u64 (u : Int)] 22)) := (Below.refl _ _).alloc (Nat.le_refl _) _
  have hx0 := nats_two w v u v u 22 rfl rfl
  clear hP2 hu hZ hZl hm ht hpe e2
  go_enter Tryd.func7, Tryd.ntmps7
  go_upto_region 2 with (fail)
  rw [HPE.out]
  go_wp2_with (first
    | (go_at_call 16; with_reducible refine (xorsPut_z (some ⟨w.heap.size, 0, none⟩) 2 2 [v, u] Z 10 _ HZ.out HZL.out rfl hx0 (by omega) (by omega) (by unfold maxLen; omega) HM.out (HT.out.below hb0)).mono ?_; rintro e w1 ⟨A1, c1, rfl, hx1, hb1, hc1, hm1⟩; have hbw1 := hb0.trans (hb1.mono hb0.size))
    | (go_at_call 18; with_reducible refine (xorsGet_x A1 10 c1 2 2 Z [] Z [v, u] 10 _ rfl HZ.out HX0.out HZL.out (by omega) hx1 hc1 hm1 rfl (by omega) HM.out HZL.out (HT.out.below hbw1)).mono ?_; rintro e w2 ⟨A2, c2, rfl, hx2, hb2⟩; have hbw2 := hbw1.trans (hb2.mono hbw1.size)))
  have hx12 := hx1.below hb2
  have hcA : ∀ y : SubW w2.heap.size w2, (convert 24 9 (.slice A1 10 c1)).run Tryd.prog y.at_ = .ok (.string ⟨Z.toArray⟩) y.at_ := fun y => text_n A1 10 c1 Z HZL.out (hx12.below y.ok_)
  refine region_over [([], 0), ([1, 2, 3, 4, 5, 6, 7, 8, 9, 10, 11, 12, 13, 14, 15, 16, 17, 18, 19, 20], 21), ([], 22), ([23, 24, 25, 26, 27], 28), ([], 29)] [30, 31, 32] (by kernel_rfl) (by kernel_rfl) ?_
  rintro wd hbd
  rw [wpBl_cons]
  simp only [List.map_cons, List.map_nil, opAt, List.getElem?_toArray, List.getElem?_cons_zero, List.getElem?_cons_succ, Option.getD_some]
  refine wpQuiet_nil ?_
  go_wp2_with (go_at_call 19; refine (xoputs_any _ ((HT.out.below hbw2).below hbd)).mono ?_; rintro e w5 ⟨rfl, hb5⟩)
  have hbd5 := hbd.trans (hb5.mono hbd.size)
  refine ⟨⟨⟨_, hbd5⟩, rfl⟩, ?_⟩
  try simp only [Act.put, List.setIfInBounds_toArray, List.set_cons_zero, List.set_cons_succ]
  rw [wpBl_cons]
  simp only [List.map_cons, List.map_nil, opAt, List.getElem?_toArray, List.getElem?_cons_zero, List.getElem?_cons_succ, Option.getD_some]
  repeat (go_big_quiet_step (fail))
  refine wpQuiet_nil ?_
  go_wp2_with fail
  have hn6 := nats_two w5 v u v u 22 rfl rfl
  have hb6 : Below w5.heap.size w5 (w5.alloc (.cells #[.int .u64 (v : Int), .int .u64 (u : Int)] 22)) := (Below.refl _ _).alloc (Nat.le_refl _) _
  have hbd6 := hbd5.trans (hb6.mono hbd5.size)
  refine ⟨⟨⟨_, hbd6⟩, rfl⟩, ?_⟩
  try simp only [Act.put, List.setIfInBounds_toArray, List.set_cons_zero, List.set_cons_succ]
  rw [wpBl_cons]
  simp only [List.map_cons, List.map_nil, opAt, List.getElem?_toArray, List.getElem?_cons_zero, List.getElem?_cons_succ, Option.getD_some]
  refine wpQuiet_nil ?_
  go_wp2_with (go_at_call 20; refine (same_nats _ _ 2 _ _ [v, u] _ rfl (hx2.below hbd6) hn6 (by omega)).mono ?_; rintro e w7 ⟨rfl, hb7⟩)
  have hbd7 := hbd6.trans (hb7.mono hbd6.size)
  refine ⟨⟨⟨_, hbd7⟩, rfl⟩, ?_⟩
  try simp only [Act.put, List.setIfInBounds_toArray, List.set_cons_zero, List.set_cons_succ]
  rw [wpBl_cons]
  simp only [List.map_cons, List.map_nil, opAt, List.getElem?_toArray, List.getElem?_cons_zero, List.getElem?_cons_succ, Option.getD_some]
  repeat (go_big_quiet_step (fail))
  refine wpQuiet_nil ?_
  go_wp2_with (go_at_call 17; with_reducible refine (refXorPut_z A2 2 c2 [v, u] Z 10 _ HZ.out HZL.out rfl (hx2.below hbd7) (by omega) HM.out).mono ?_; rintro e w8 ⟨A8, c8, rfl, hx8, hb8⟩)
  have hbd8 := hbd7.trans (hb8.mono hbd7.size)
  have t8 := text_n A8 10 c8 Z HZL.out hx8
  refine ⟨⟨⟨_, hbd8⟩, rfl⟩, ?_⟩
  try simp only [Act.put, List.setIfInBounds_toArray, List.set_cons_zero, List.set_cons_succ]
  rw [wpBl_cons]
  simp only [List.map_cons, List.map_nil, opAt, List.getElem?_toArray, List.getElem?_cons_zero, List.getElem?_cons_succ, Option.getD_some]
  refine wpQuiet_nil ?_
  go_wp2_with fail
  refine ⟨⟨⟨_, hbd8⟩, rfl⟩, ?_⟩
  try simp only [Act.put, List.setIfInBounds_toArray, List.set_cons_zero, List.set_cons_succ]
  rw [wpBl_nil]
  simp only [List.map_cons, List.map_nil, opAt, List.getElem?_toArray, List.getElem?_cons_zero, List.getElem?_cons_succ, Option.getD_some]
  repeat (go_big_quiet_step (fail))
  refine wpQuiet_nil ?_
  go_wp2_with fail
  go_ret
  exact ⟨rfl, hbw2.trans (hbd8.mono hbw2.size)⟩
end Go.Proofs.YtanljjpjhihgcaaDoor

namespace Go.Proofs.YtanljjpjhihgcaaDoor
open Go Go.RowKit BitM
set_option maxRecDepth 100000

abbrev laidTab : List (String × DataW Unit) := [("math/bits.deBruijn64tab", Rows.laid_math_bits_deBruijn64tab)]
theorem gTab : Tryd.prog.globalNamed "math/bits.deBruijn64tab" = some 1 := by kernel_rfl
theorem gTabType : (Tryd.prog.globals[1]?).map (·.type) = some 107 := by kernel_rfl
theorem cTab8 : Tryd.prog.cellsOf 5 = 1 := by kernel_rfl
theorem cTab : Tryd.prog.cellsOf 107 = 64 := by kernel_rfl
theorem laidTab_eq : (laidTab : List (String × DataW Unit)) = ("math/bits.deBruijn64tab", Lib.tabData .u8 (deB.map fun (n : Nat) => (n : Int))) :: [] := rfl
theorem tab_met (os : Os) (args : Array Value) : laidMetH Tryd.prog laidTab ((World.doorLaid Tryd.prog 23 os).forCall (fun _ _ => 0) ⟨#[], args, []⟩).memory :=
  laidMetH_of_parts3 (fuel := 8) (laidMet_of_run' 8 (by kernel_rfl) (by kernel_rfl)) (by kernel_rfl) (by kernel_rfl)
theorem tab_of_laid {W : World} (h : laidMetH Tryd.prog laidTab W) : TabAt W := by
  rw [MakeChecks.laidMetH_plain _ _ _ (by kernel_rfl), laidTab_eq] at h
  have hT := Lib.tabIs_of_head gTab gTabType Tryd.underlying107 Tryd.underlying5 cTab8 cTab h
  intro i hi
  have hc := hT.cell gTab i (by simpa [deB] using hi)
  rw [hc]
  congr 2
  rw [List.getD_eq_getElem?_getD, List.getD_eq_getElem?_getD, List.getElem?_map]
  have : i < deB.length := by simpa [deB] using hi
  rw [List.getElem?_eq_getElem this]
  rfl
end Go.Proofs.YtanljjpjhihgcaaDoor
