/- Several texts in one: The walk of RunsMany. pack.Get: its contract, where the header is well and there are bytes enough. Taking a change of whatever bits. Times, differences of differences: plain mathematics. times.signed: its contracts. times.putTurn: its contract. times.putTwice: its contract. times.takeTurn: its contract. What pack.Put lays is got back. ricklaw06.puts is true in every world. pack.Get: its contract, in all ways. times.getTwice: its contract, of what putTwice laid. times.putDelta and getDelta at the example; times.isWay; rickref07.Same. times.Put and Get by Twice, and by Delta at the example; ricklaw07.puts is true. -/
import Derived.Test.YtocddhokjhfaaaaDoorPartC
import Derived.Deep.DeepCutAuto
import Derived.Test.YtocddhokjhfaaaaDoorPartB
namespace Go.Proofs.YtocddhokjhfaaaaDoor
open Go.RowKit VarM RunM
set_option linter.unusedVariables false

theorem count200 (a : Int) : ∃ k : Nat, 1 ≤ k ∧ k ≤ 200 ∧ wrap64 (1 + wrap64 ((IntKind.u64.wrap a).tmod 200)) = (k : Int) := by
  have h0 : 0 ≤ IntKind.u64.wrap a := by rw [IntKind.wrap_u64]; omega
  rw [Int.tmod_eq_emod_of_nonneg h0]
  have h2 : 0 ≤ IntKind.u64.wrap a % 200 := Int.emod_nonneg _ (by omega)
  have h3 : IntKind.u64.wrap a % 200 < 200 := Int.emod_lt_of_pos _ (by omega)
  rw [IntWalk.wrap64_in (IntKind.u64.wrap a % 200) ⟨by omega, by omega⟩, IntWalk.wrap64_in _ ⟨by omega, by omega⟩]
  exact ⟨(1 + IntKind.u64.wrap a % 200).toNat, by omega, by omega, by omega⟩

theorem zeros_nats (k : Nat) : (madeCells (Value.int .u64 0).cells (k * 1)).toList = (List.replicate k 0).map uv := by
  have e : madeCells (Value.int .u64 0).cells (k * 1) = Array.replicate k (.int .u64 0) := by
    apply Array.ext
    · simp [madeCells]
    · intro i h1 h2
      simp [madeCells, Value.cells, Nat.mod_one]
  rw [e]
  simp [uv]

theorem own_made {w : World} {base k : Nat} {v : Value} (h : w.ownsRow base 22 1 v k (madeCells (Value.int .u64 0).cells (k * 1)).toList) : OwnN w base v (List.replicate k 0) := by
  rw [zeros_nats] at h
  unfold OwnN OwnV
  rw [List.length_map, List.length_replicate]
  exact h

/-- The first i of k places hold what f tells, the others 0. -/
def part (f : Nat → Nat) (k i : Nat) : List Nat := (List.range k).map fun j => if j < i then f j else 0
theorem part_len (f : Nat → Nat) (k i : Nat) : (part f k i).length = k := by simp [part]
theorem part_zero (f : Nat → Nat) (k : Nat) : part f k 0 = List.replicate k 0 := by
  apply List.ext_getElem <;> simp [part]
theorem part_set (f : Nat → Nat) (k i : Nat) (hi : i < k) : ((part f k i).map uv).set i (uv (f i)) = (part f k (i + 1)).map uv := by
  apply List.ext_getElem
  · simp [part]
  · intro j h1 h2
    have hj : j < k := by simpa [part] using h2
    rw [List.getElem_set]
    simp only [part, List.getElem_map, List.getElem_range]
    by_cases h : i = j
    · subst h; simp
    · rw [if_neg h]
      by_cases h3 : j < i
      · rw [if_pos h3, if_pos (by omega)]
      · rw [if_neg h3, if_neg (by omega)]
theorem part_all (f : Nat → Nat) (k : Nat) : part f k k = (List.range k).map f := by
  apply List.ext_getElem
  · simp [part]
  · intro j h1 h2
    have hj : j < k := by simpa [part] using h1
    simp [part, hj]

theorem xor_turn (v m : Nat) (hv : v < 18446744073709551616) : bits BinOp.xor IntKind.u64 (v : Int) ((m : Int) % 2) = ((v ^^^ (m % 2) : Nat) : Int) := by
  have : ((m : Int) % 2) = ((m % 2 : Nat) : Int) := by omega
  rw [this]
  exact u64_xor_nat _ _ hv (by omega)
theorem xor_turn_lt (v m : Nat) (hv : v < 18446744073709551616) : v ^^^ (m % 2) < 18446744073709551616 := Nat.xor_lt_two_pow (n := 64) (by omega) (by omega)
theorem xor_turn_ne (v i : Nat) : v ^^^ ((i + 1) % 2) ≠ v ^^^ (i % 2) := by
  intro h
  have h2 := congrArg (fun x => v ^^^ x) h
  simp only [← Nat.xor_assoc, Nat.xor_self, Nat.zero_xor] at h2
  omega

end Go.Proofs.YtocddhokjhfaaaaDoor

namespace BitM
theorem valB_append (xs ys : List UInt8) : valB (xs ++ ys) = valB xs * 256 ^ ys.length + valB ys := by
  induction ys using snoc_ind with
  | h0 => simp [valB]
  | h1 ys c ih =>
    rw [← List.append_assoc, valB_snoc, ih, valB_snoc, List.length_append, List.length_singleton, Nat.pow_succ, Nat.add_mul, Nat.mul_assoc, Nat.add_assoc]
/-- Bits of bytes with others behind them. -/
theorem mid_front (xs ys : List UInt8) (p q : Nat) (hq : q ≤ 8 * xs.length) : mid (valB (xs ++ ys)) (8 * (xs.length + ys.length)) p q = mid (valB xs) (8 * xs.length) p q := by
  unfold mid
  congr 1
  rw [valB_append, show 8 * (xs.length + ys.length) - q = 8 * ys.length + (8 * xs.length - q) by omega, Nat.pow_add, ← Nat.div_div_eq_div_mul]
  congr 1
  rw [Nat.pow_mul, show (2 : Nat) ^ 8 = 256 from rfl, Nat.mul_comm, Nat.mul_add_div (Nat.pow_pos (by omega)), Nat.div_eq_of_lt (valB_lt ys), Nat.add_zero]
end BitM
namespace Go.Proofs.YtocddhokjhfaaaaDoor
open Go.RowKit BitM RunM
set_option linter.unusedVariables false

theorem part_of (ns : List Nat) : part (fun j => ns.getD j 0) ns.length ns.length = ns := by
  rw [part_all]
  apply List.ext_getElem
  · simp
  · intro i h1 h2
    simp [List.getElem?_eq_getElem h2]

theorem equal_b (A B : Option Addr) (c d n m : Nat) (xs ys : List UInt8) (w : World) (hn : xs.length = n) (hm : ys.length = m) (hx : BytesAt w A xs) (hy : BytesAt w B ys) (he : xs = ys) :
    Calls Tryd.prog 25 #[.slice A n c, .slice B m d] w fun e w' => e = .returned (.bool true) ∧ w = w' := by
  subst he
  have e1 := text_n A n c xs hn hx
  have e2 := text_n B m d xs hm hy
  go_enter Tryd.func25, Tryd.ntmps25
  go_wp2_with fail
  go_ret
  exact ⟨rfl, rfl⟩

theorem take_q (g : Nat) (A : Option Addr) (len c p q : Nat) (n : Int) (xs : List UInt8) (M : Nat) (w : World) (h : RdAt w g A len c p false) (hx : BytesAt w A xs) (hxl : xs.length = len) (hl : len ≤ 1000000000) (hq : q = p + wi n) (hb : q ≤ 8 * len) (hM : mid (valB xs) (8 * len) p q = M) :
    Calls Tryd.prog 54 #[.pointer (some ⟨g, 0, none⟩), .int .i64 n] w fun e w' => e = .returned (.int .u64 (M : Int)) ∧ RdAt w' g A len c q false ∧ w.grownBy w' (some g) := by
  subst hq
  exact take_okA g A len c p n xs M w h hx hxl hl hb hM

set_option maxHeartbeats 800000 in
set_option maxRecDepth 100000 in
theorem packGet_good (A : Option Addr) (len c n : Nat) (X : List UInt8) (ns : List Nat) (m W sz : Nat) (w : World) (hX : BytesAt w A X) (hlen : X.length = len) (hl : len ≤ 1000000) (hc : len ≤ c) (hcm : c ≤ maxLen) (hpos : 0 < n) (hn2 : n ≤ 200)
    (h0 : mid (valB X) (8 * len) 0 64 = m) (h1 : mid (valB X) (8 * len) 64 72 = W) (hW : W ≤ 64) (hsz : sz = 9 + (n * W + 7) / 8) (hszl : sz ≤ len) (hns : ns.length = n) (hm64 : ∀ v ∈ ns, v < 18446744073709551616)
    (hk : ∀ k (h : k < ns.length), (m + mid (valB X) (8 * len) (72 + k * W) (72 + k * W + W)) % 18446744073709551616 = ns[k]) (heq : pk ns = X.take sz) :
    Calls Tryd.prog 59 #[.slice A len c, .int .i64 (n : Int)] w fun e w' => ∃ A' c', e = .returned (.tuple #[.slice A' n c', .int .i64 (sz : Int), .int .i64 0]) ∧ NatsAt w' A' ns ∧ Below w.heap.size w w' := by
  have hlen9 : 9 ≤ len := by omega
  have hnw : n * W ≤ 200 * 64 := Nat.mul_le_mul hn2 hW
  obtain ⟨s, hs⟩ : ∃ s, s = n * W := ⟨_, rfl⟩
  have hsi : (n : Int) * (W : Int) = (s : Int) := by rw [hs]; push_cast; rfl
  rw [← hs] at hsz hnw
  have hszi : (9 : Int) + ((s : Int) + 7) / 8 = (sz : Int) := by omega
  have hwi : W = wi (W : Int) := by unfold wi; omega
  obtain ⟨iu, hiu, hz0, hz1, hz2⟩ := info_parts infoU64
  have hz3 : iu.bytes * n ≤ 281474976710656 := by rw [hz2]; omega
  have hxt : BytesAt w A (X.take sz) := hX.take sz
  have hxtl : (X.take sz).length = sz := by rw [List.length_take, hlen]; omega
  have HX := Lib.hid hlen
  have H0 := Lib.hid h0
  have H1 := Lib.hid h1
  have HK := Lib.hid hk
  have HEQ := Lib.hid heq
  have HNS := Lib.hid hns
  have HM64 := Lib.hid hm64
  have HWI := Lib.hid hwi
  have HS := Lib.hid hs
  have HSZ := Lib.hid hsz
  have HXT := Lib.hid hxt
  have HXTL := Lib.hid hxtl
  unfold maxLen at hcm
  clear hlen h0 h1 hk heq hns hm64 hwi hs hsz hxt hxtl hz2
  go_enter Tryd.func59, Tryd.ntmps59
  go_wp2_with (first
    | (go_at_call 53; with_reducible refine (new_any A len c _).mono ?_; rintro e w1 ⟨rfl, hr1, hl1, hb1⟩; have hx1 := hX.below hb1)
    | (go_at_call 54; with_reducible refine (take_q w.heap.size A len c 0 64 64 X m _ hr1 hx1 HX.out (by omega) (by decide) (by omega) H0.out).mono ?_; rintro e w2 ⟨rfl, hr2, hg2⟩; have hx2 := bytes_past hr1 hx1 hg2; have hb2 := below_some hb1.size (Nat.le_refl _) hb1 hg2)
    | (go_at_call 54; with_reducible refine (take_q w.heap.size A len c 64 72 8 X W _ hr2 hx2 HX.out (by omega) (by decide) (by omega) H1.out).mono ?_; rintro e w3 ⟨rfl, hr3, hg3⟩; have hx3 := bytes_past hr2 hx2 hg3; have hb3 := below_some hb2.size (Nat.le_refl _) hb2 hg3)
    | (at_make; refine wpList_make_full _ rfl (.tmp 45) (.tmp 45) 55 rfl w.heap.size 22 iu (.int .u64 0) 1 Tryd.underlying55 hiu hz0 hz1 .i64 .i64 n n n rfl rfl rfl rfl hz3 (by unfold maxLen; omega) (by exact hb3.size) ?_; intro w4 ho4 hg4))
  have hb4 := below_grown (Nat.le_refl _) hb3 hg4
  have ho4' := own_made ho4
  have hbel := grown_below hg4
  have hr4 := hr3.below hbel
  have hg0 := hr3.cells.2.2.2.2.2.2
  have hne : w.heap.size ≠ w3.heap.size := by omega
  have hne2 : w3.heap.size ≠ w.heap.size := fun h => hne h.symm
  have hw3 : w.heap.size ≤ w3.heap.size := hb3.size
  obtain ⟨f, hf⟩ : ∃ f : Nat → Nat, f = fun j => ns.getD j 0 := ⟨_, rfl⟩
  have hpa : part f n n = ns := by rw [hf, ← HNS.out]; exact part_of ns
  have HPA := Lib.hid hpa
  have HF := Lib.hid hf
  rw [← part_zero f] at ho4'
  clear hpa hf
  clear hg4 ho4 hbel hr3 hx3 hb3 hg3 hr2 hx2 hb2 hg2 hr1 hx1 hb1 hl1
  generalize w3.heap.size = ga at *
  go_loopw [49] (fun i wr => ∃ k P : Nat, k ≤ n ∧ i = .int .i64 k ∧ Hid (P = 72 + k * W) ∧ RdAt wr w.heap.size A len c P false ∧ OwnN wr w.heap.size (.slice (some ⟨ga, 0, none⟩) n n) (part f n k) ∧ Below w.heap.size w wr) (fun i _ => n - (intOf i).toNat)
  case atStart => exact ⟨0, 72, by omega, rfl, Lib.hid (by omega), hr4, ho4', hb4⟩
  case round =>
    obtain ⟨k, P, hkn, rfl, HP, hr, ho, hb⟩ := hrel
    by_cases hlt : k < n
    · have hkl : k < ns.length := by rw [HNS.out]; exact hlt
      have h2 := HK.out k hkl
      rw [← HP.out] at h2
      obtain ⟨M, hM⟩ : ∃ M, M = mid (valB X) (8 * len) P (P + W) := ⟨_, rfl⟩
      rw [← hM] at h2
      obtain ⟨v, hv⟩ : ∃ v, v = ns[k] := ⟨_, rfl⟩
      rw [← hv] at h2
      have hgd : f k = v := by rw [HF.out]; simp [List.getElem?_eq_getElem hkl, hv]
      have hadd : IntKind.u64.wrap ((m : Int) + (M : Int)) = (v : Int) := by rw [IntKind.wrap_u64]; omega
      have HGD := Lib.hid hgd
      have hkW : (k + 1) * W ≤ n * W := Nat.mul_le_mul_right W (by omega)
      have hkW2 : (k + 1) * W = k * W + W := by rw [Nat.add_mul, Nat.one_mul]
      have hPb : P + W ≤ 8 * len := by have := HP.out; have := HSZ.out; have := HS.out; omega
      have HPB := Lib.hid hPb
      have hP2 : P + W = 72 + (k + 1) * W := by have := HP.out; omega
      have HP2 := Lib.hid hP2
      have HM := Lib.hid hM.symm
      have hq : P + W = P + wi (W : Int) := by rw [← HWI.out]
      have HQ := Lib.hid hq
      clear h2 hM hv hgd hkW hkW2 hPb hP2 hq
      go_wp2_with fail
      go_loud (with_reducible refine (take_q w.heap.size A len c P (P + W) W X M _ hr (hX.below hb) HX.out (by omega) HQ.out HPB.out HM.out).mono ?_)
      rintro e w7 ⟨rfl, hr7, hg7⟩
      have hb7 := below_some hb.size (Nat.le_refl _) hb hg7
      have ho7 : OwnN w7 w.heap.size (.slice (some ⟨ga, 0, none⟩) n n) (part f n k) := OwnV.keep ho (fun g hg => by simp [Value.ownBlock] at hg; subst hg; exact hg7.block ga ((OwnV.block ho _ rfl).2) (by simp; omega))
      obtain ⟨ra1, ra2, ra3, ra4, ra5, ra6, ra7⟩ := OwnV.row ho7
      have ca := ra6 k (by rw [ra2]; exact hlt)
      have fa := ra7 k
      clear ra6 ra7
      go_wp2_with fail
      go_roundw
      case rel =>
        have e := OwnV.stored ho7 k (uv (f k))
        rw [part_set f n k hlt, HGD.out] at e
        refine ⟨k + 1, P + W, by omega, by go_num, HP2, ?_, e, hb7.setCell ra1 _⟩
        unfold RdAt
        rw [heap_setCell_other _ _ _ _ hne]
        exact hr7
      case measure => simp [intOf]; omega
    · obtain rfl : k = n := by omega
      rw [HPA.out] at ho
      have hnats := OwnN.nats ho
      have hlpk : (pk ns).length = sz := by rw [HEQ.out]; exact HXTL.out
      have HLPK := Lib.hid hlpk
      clear hlpk hr
      go_wp2_with (first
        | (go_at_call 35; with_reducible refine (packPut_any (some ⟨ga, 0, none⟩) k k ns _ HNS.out hnats hn2 HM64.out).mono ?_; rw [HLPK.out]; rintro e w8 ⟨A8, c8, rfl, hx8, hb8, _, _⟩; have hxt8 := (HXT.out.below hb).below hb8)
        | (go_at_call 25; with_reducible refine (equal_b A8 A c8 c sz sz (pk ns) (X.take sz) _ HLPK.out HXTL.out hx8 hxt8 HEQ.out).mono ?_; rintro e w9 ⟨rfl, rfl⟩))
      go_ret3
      exact ⟨_, _, rfl, hnats.below hb8, hb.trans (hb8.mono hb.size)⟩
end Go.Proofs.YtocddhokjhfaaaaDoor

namespace BitM
open Go.Proofs.YtocddhokjhfaaaaDoor
/-- The bits of one state are the first ones of the other. -/
def Ext (s F : Nat × Nat) : Prop := s.1 ≤ F.1 ∧ F.2 / 2 ^ (F.1 - s.1) = s.2
theorem Ext.refl (s : Nat × Nat) : Ext s s := ⟨Nat.le_refl _, by rw [Nat.sub_self, Nat.pow_zero, Nat.div_one]⟩
theorem Ext.trans {a b c : Nat × Nat} (h : Ext a b) (k : Ext b c) : Ext a c := by
  refine ⟨Nat.le_trans h.1 k.1, ?_⟩
  have h1 := h.1
  have h2 := k.1
  rw [← h.2, ← k.2, Nat.div_div_eq_div_mul, ← Nat.pow_add]
  congr 2
  omega
theorem ext_stp (s : Nat × Nat) (q : Nat × Int) : Ext s (stp s q) := by
  refine ⟨Nat.le_add_right _ _, ?_⟩
  show (s.2 * 2 ^ wi q.2 + q.1 % 2 ^ wi q.2) / 2 ^ (s.1 + wi q.2 - s.1) = s.2
  have hp : 0 < 2 ^ wi q.2 := Nat.pow_pos (by omega)
  rw [Nat.add_sub_cancel_left, Nat.mul_comm, Nat.mul_add_div hp, Nat.div_eq_of_lt (Nat.mod_lt _ hp), Nat.add_zero]
theorem ext_foldl : ∀ (ps : List (Nat × Int)) (s : Nat × Nat), Ext s (ps.foldl stp s)
  | [], s => Ext.refl s
  | q :: r, s => (ext_stp s q).trans (ext_foldl r _)
theorem ext_mid {s F : Nat × Nat} {q : Nat × Int} (h : Ext (stp s q) F) : mid F.2 F.1 s.1 (s.1 + wi q.2) = q.1 % 2 ^ wi q.2 := by
  unfold mid
  have h1 : (stp s q).1 = s.1 + wi q.2 := rfl
  have h2 := h.2
  rw [h1] at h2
  rw [h2, Nat.add_sub_cancel_left]
  show (s.2 * 2 ^ wi q.2 + q.1 % 2 ^ wi q.2) % 2 ^ wi q.2 = _
  rw [Nat.mul_comm, Nat.mul_add_mod, Nat.mod_mod]
end BitM
namespace Go.Proofs.YtocddhokjhfaaaaDoor
open Go.RowKit BitM
set_option linter.unusedVariables false

theorem take_weak (g : Nat) (A : Option Addr) (len c p : Nat) (bad : Bool) (n : Int) (xs : List UInt8) (B : Nat) (w : World) (h : RdAt w g A len c p bad) (hx : BytesAt w A xs) (hxl : xs.length = len) (hl : len ≤ 1000000) (hp : p ≤ 8 * len) (hB : 2 ^ wi n ≤ B) :
    Calls Tryd.prog 54 #[.pointer (some ⟨g, 0, none⟩), .int .i64 n] w fun e w' => ∃ v p' bad', e = .returned (.int .u64 ((v : Nat) : Int)) ∧ v < B ∧ p' ≤ 8 * len ∧ RdAt w' g A len c p' bad' ∧ w.grownBy w' (some g) := by
  have hpos : 0 < 2 ^ wi n := Nat.pow_pos (by omega)
  by_cases hb : bad = true ∨ 8 * len - p < wi n
  · refine (take_bad g A len c p bad n w h (by omega) hp hb).mono ?_
    rintro e w' ⟨rfl, h1, h2⟩
    exact ⟨0, p, true, rfl, by omega, hp, h1, h2⟩
  · obtain rfl : bad = false := by cases bad <;> simp_all
    have hle : p + wi n ≤ 8 * len := by omega
    have hlt := mid_lt (valB xs) (8 * len) p (p + wi n)
    rw [Nat.add_sub_cancel_left] at hlt
    refine (take_okA g A len c p n xs _ w h hx hxl (by omega) hle rfl).mono ?_
    rintro e w' ⟨rfl, h1, h2⟩
    exact ⟨_, _, false, rfl, by omega, hle, h1, h2⟩

set_option maxRecDepth 100000 in
theorem takeChange_weak (g : Nat) (A : Option Addr) (len c p : Nat) (bad : Bool) (xs : List UInt8) (w : World) (h : RdAt w g A len c p bad) (hx : BytesAt w A xs) (hxl : xs.length = len) (hl : len ≤ 1000000) (hp : p ≤ 8 * len) :
    Calls Tryd.prog 69 #[.pointer (some ⟨g, 0, none⟩)] w fun e w' => ∃ z p' bad', e = .returned (.int .u64 z) ∧ 0 ≤ z ∧ z < 18446744073709551616 ∧ p' ≤ 8 * len ∧ RdAt w' g A len c p' bad' ∧ w.grownBy w' (some g) := by
  have HXL := Lib.hid hxl
  clear hxl
  go_enter Tryd.func69, Tryd.ntmps69
  go_wp2_with (first
    | (go_at_call 54; with_reducible refine (take_weak g A len c p bad 1 xs 2 _ h hx HXL.out hl hp (by decide)).mono ?_; rintro e w1 ⟨v1, p1, bad1, rfl, hv1, hp1, h1, hg1⟩; have hx1 := bytes_past h hx hg1; have HP1 := Lib.hid hp1; have HG1 := Lib.hid hg1; clear hp1 hg1)
    | (go_at_call 54; with_reducible refine (take_weak g A len c p1 bad1 6 xs 64 _ h1 hx1 HXL.out hl HP1.out (by decide)).mono ?_; rintro e w2 ⟨v2, p2, bad2, rfl, hv2, hp2, h2, hg2⟩; have hx2 := bytes_past h1 hx1 hg2; have HP2 := Lib.hid hp2; have HG2 := Lib.hid hg2; clear hp2 hg2)
    | (go_at_call 54; with_reducible refine (take_weak g A len c p2 bad2 6 xs 64 _ h2 hx2 HXL.out hl HP2.out (by decide)).mono ?_; rintro e w3 ⟨v3, p3, bad3, rfl, hv3, hp3, h3, hg3⟩; have hx3 := bytes_past h2 hx2 hg3; have HP3 := Lib.hid hp3; have HG3 := Lib.hid hg3; clear hp3 hg3)
    | (go_at_call 54; with_reducible refine (take_weak g A len c p3 bad3 _ xs 18446744073709551616 _ h3 hx3 HXL.out hl HP3.out (Nat.pow_le_pow_right (by omega) (wi_le _))).mono ?_; rintro e w4 ⟨v4, p4, bad4, rfl, hv4, hp4, h4, hg4⟩; have HP4 := Lib.hid hp4; have HG4 := Lib.hid hg4; clear hp4 hg4))
  · go_ret
    exact ⟨0, p1, bad1, rfl, by omega, by omega, HP1.out, h1, HG1.out⟩
  · go_ret
    refine ⟨_, p4, bad4, rfl, ?_, ?_, HP4.out, h4, ((HG1.out.trans HG2.out).trans HG3.out).trans HG4.out⟩
    · rw [IntKind.wrap_u64]; omega
    · rw [IntKind.wrap_u64]; omega

/-- A Reader at whose place there are just these bits. -/
def Bits (X : List UInt8) (len : Nat) (F : Nat × Nat) : Prop := F.1 ≤ 8 * len ∧ ∀ p q, p ≤ q → q ≤ F.1 → mid (valB X) (8 * len) p q = mid F.2 F.1 p q

theorem take_ext (g : Nat) (A : Option Addr) (len c : Nat) (X : List UInt8) (F s : Nat × Nat) (v : Nat) (n : Int) (p p' M : Nat) (w : World) (h : RdAt w g A len c p false) (hx : BytesAt w A X) (hxl : X.length = len) (hl : len ≤ 1000000) (hF : Bits X len F) (hE : Ext (stp s (v, n)) F) (hp : p = s.1) (hp' : p' = (stp s (v, n)).1) (hM : M = v % 2 ^ wi n) :
    Calls Tryd.prog 54 #[.pointer (some ⟨g, 0, none⟩), .int .i64 n] w fun e w' => e = .returned (.int .u64 (M : Int)) ∧ RdAt w' g A len c p' false ∧ w.grownBy w' (some g) := by
  subst hp hp' hM
  have h1 := hE.1
  have h2 : (stp s (v, n)).1 = s.1 + wi n := rfl
  have h3 := ext_mid hE
  have h4 := hF.1
  simp only at h3
  exact take_okA g A len c s.1 n X _ w h hx hxl (by omega) (by omega) (by rw [hF.2 _ _ (by omega) (by omega)]; exact h3)

set_option maxRecDepth 100000 in
theorem takeChange_good (g : Nat) (A : Option Addr) (len c x : Nat) (X : List UInt8) (F s : Nat × Nat) (p p' : Nat) (w : World) (h : RdAt w g A len c p false) (hx : BytesAt w A X) (hxl : X.length = len) (hl : len ≤ 1000000) (hx64 : x < 18446744073709551616)
    (hF : Bits X len F) (hE : Ext (xadd s x) F) (hp : p = s.1) (hp' : p' = (xadd s x).1) :
    Calls Tryd.prog 69 #[.pointer (some ⟨g, 0, none⟩)] w fun e w' => e = .returned (.int .u64 (x : Int)) ∧ RdAt w' g A len c p' false ∧ w.grownBy w' (some g) := by
  by_cases h0 : x = 0
  · subst h0
    have hE1 : Ext (stp s (0, 1)) F := hE
    have hp1 : p' = (stp s (0, 1)).1 := hp'
    have HXL := Lib.hid hxl
    have HF := Lib.hid hF
    have HE1 := Lib.hid hE1
    have HP := Lib.hid hp
    have HP1 := Lib.hid hp1
    clear hxl hF hE hE1 hp hp' hp1
    go_enter Tryd.func69, Tryd.ntmps69
    go_wp2_with (go_at_call 54; with_reducible refine (take_ext g A len c X F s 0 1 p p' 0 _ h hx HXL.out hl HF.out HE1.out HP.out HP1.out (by decide)).mono ?_; rintro e w1 ⟨rfl, h1, hg1⟩)
    go_ret
    exact ⟨rfl, h1, hg1⟩
  · have hlb := lenB_le x 64 hx64
    have hlp := lenB_pos x h0
    have htl := tz_len x h0
    have hsh := shr_tz x h0
    have hsl := shr_lt x h0
    obtain ⟨m, hmn⟩ : ∃ m, m = lenB x - tz x := ⟨_, rfl⟩
    obtain ⟨yy, hy⟩ : ∃ y, y = x / 2 ^ tz x := ⟨_, rfl⟩
    obtain ⟨ld, hld⟩ : ∃ ld, ld = 64 - lenB x := ⟨_, rfl⟩
    obtain ⟨t, htz⟩ : ∃ t, t = tz x := ⟨_, rfl⟩
    obtain ⟨m1, hm1⟩ : ∃ m1, m1 = m - 1 := ⟨_, rfl⟩
    have hxe : xadd s x = stp (stp (stp (stp s (1, 1)) (ld, 6)) (m1, 6)) (yy, (m : Int)) := by
      unfold xadd xch
      rw [if_neg h0, ← hld, ← hmn, ← hm1, ← hy]
      rfl
    rw [← hy, ← htz] at hsh
    rw [← hy, ← hmn] at hsl
    have hwm : wi (m : Int) = m := by unfold wi; omega
    rw [hxe] at hE hp'
    have e3 : Ext (stp (stp (stp s (1, 1)) (ld, 6)) (m1, 6)) F := (ext_stp _ _).trans hE
    have e2 : Ext (stp (stp s (1, 1)) (ld, 6)) F := (ext_stp _ _).trans e3
    have e1 : Ext (stp s (1, 1)) F := (ext_stp _ _).trans e2
    have hmi : (m1 : Int) + 1 = (m : Int) := by omega
    have hmax : max ((64 : Int) - (ld : Int) - (m : Int)) 0 = (t : Int) := by omega
    have hval : IntKind.u64.wrap ((yy : Int) * 2 ^ t) = (x : Int) := by
      have e : (yy : Int) * 2 ^ t = ((yy * 2 ^ t : Nat) : Int) := by simp
      rw [e, hsh, IntKind.wrap_u64]
      omega
    have hld6 : ld = ld % 2 ^ wi 6 := by rw [show wi 6 = 6 by decide]; omega
    have hm16 : m1 = m1 % 2 ^ wi 6 := by rw [show wi 6 = 6 by decide]; omega
    have hyy : yy = yy % 2 ^ wi (m : Int) := by rw [hwm]; exact (Nat.mod_eq_of_lt hsl).symm
    have hld64 : ld < 64 := by omega
    have hm164 : m1 < 64 := by omega
    have ht64 : t < 64 := by omega
    have HXL := Lib.hid hxl
    have HF := Lib.hid hF
    have HE1 := Lib.hid e1
    have HE2 := Lib.hid e2
    have HE3 := Lib.hid e3
    have HE4 := Lib.hid hE
    have HP := Lib.hid hp
    have HP' := Lib.hid hp'
    have HL6 := Lib.hid hld6
    have HM6 := Lib.hid hm16
    have HYY := Lib.hid hyy
    clear hxl hF hE e1 e2 e3 hp hp' hld6 hm16 hyy hxe hwm hsh hsl hmn hy hld htz hm1 hlb hlp htl
    go_enter Tryd.func69, Tryd.ntmps69
    go_wp2_with (first
      | (go_at_call 54; with_reducible refine (take_ext g A len c X F s 1 1 p (stp s (1, 1)).1 1 _ h hx HXL.out hl HF.out HE1.out HP.out rfl (by decide)).mono ?_; rintro e w1 ⟨rfl, h1, hg1⟩; have hx1 := bytes_past h hx hg1)
      | (go_at_call 54; with_reducible refine (take_ext g A len c X F (stp s (1, 1)) ld 6 _ (stp (stp s (1, 1)) (ld, 6)).1 ld _ h1 hx1 HXL.out hl HF.out HE2.out rfl rfl HL6.out).mono ?_; rintro e w2 ⟨rfl, h2, hg2⟩; have hx2 := bytes_past h1 hx1 hg2)
      | (go_at_call 54; with_reducible refine (take_ext g A len c X F (stp (stp s (1, 1)) (ld, 6)) m1 6 _ (stp (stp (stp s (1, 1)) (ld, 6)) (m1, 6)).1 m1 _ h2 hx2 HXL.out hl HF.out HE3.out rfl rfl HM6.out).mono ?_; rintro e w3 ⟨rfl, h3, hg3⟩; have hx3 := bytes_past h2 hx2 hg3)
      | (go_at_call 54; with_reducible refine (take_ext g A len c X F (stp (stp (stp s (1, 1)) (ld, 6)) (m1, 6)) yy (m : Int) _ p' yy _ h3 hx3 HXL.out hl HF.out HE4.out rfl HP'.out HYY.out).mono ?_; rintro e w4 ⟨rfl, h4, hg4⟩))
    go_ret
    exact ⟨rfl, h4, ((hg1.trans hg2).trans hg3).trans hg4⟩
end Go.Proofs.YtocddhokjhfaaaaDoor

namespace BitM
open Go.Proofs.YtocddhokjhfaaaaDoor
def u64 (z : Int) : Nat := (z % 18446744073709551616).toNat
theorem u64_lt (z : Int) : u64 z < 18446744073709551616 := by unfold u64; omega
theorem u64_val (z : Int) : (u64 z : Int) = z % 18446744073709551616 := by unfold u64; omega
/-- The class of a difference of differences. -/
def cls (d : Int) : Nat := if d = 0 then 0 else if -64 ≤ d ∧ d < 64 then 1 else if -256 ≤ d ∧ d < 256 then 2 else if -2048 ≤ d ∧ d < 2048 then 3 else 4
/-- The bits that tell the class, how many, and the bits of the number. -/
def cP : Nat → Nat | 0 => 0 | 1 => 2 | 2 => 6 | 3 => 14 | _ => 15
def cM : Nat → Nat | 0 => 1 | 1 => 2 | 2 => 3 | 3 => 4 | _ => 4
def cB : Nat → Nat | 0 => 0 | 1 => 7 | 2 => 9 | 3 => 12 | _ => 64
def tch (d : Int) : List (Nat × Int) := [(cP (cls d), (cM (cls d) : Int)), (u64 d, (cB (cls d) : Int))]
def i64 (z : Int) : Int := Go.RowKit.wrap64 z
def turn (zs : List Int) (k : Nat) : Int := i64 (i64 (zs.getD (k + 1) 0 - zs.getD k 0) - i64 (zs.getD k 0 - zs.getD (k - 1) 0))
def tt (zs : List Int) : Nat → Nat × Nat
  | 0 => stp (0, 0) (u64 (zs.getD 0 0), 64)
  | 1 => stp (stp (0, 0) (u64 (zs.getD 0 0), 64)) (u64 (i64 (zs.getD 1 0 - zs.getD 0 0)), 64)
  | k + 2 => (tch (turn zs (k + 1))).foldl stp (tt zs (k + 1))
def tby (zs : List Int) : List UInt8 := if zs = [] then [] else bytesW (tt zs (zs.length - 1)).1 (tt zs (zs.length - 1)).2
theorem cls_le (d : Int) : cls d ≤ 4 := by unfold cls; split <;> (try split) <;> (try split) <;> (try split) <;> omega
theorem cM_le (k : Nat) : cM k ≤ 4 := by unfold cM; split <;> omega
theorem cB_le (k : Nat) : cB k ≤ 64 := by unfold cB; split <;> omega
theorem wi_nat (n : Nat) (h : n ≤ 64) : wi (n : Int) = n := by unfold wi; omega
theorem tch_len (d : Int) (s : Nat × Nat) : ((tch d).foldl stp s).1 = s.1 + cM (cls d) + cB (cls d) := by
  show s.1 + wi (cM (cls d) : Int) + wi (cB (cls d) : Int) = _
  rw [wi_nat _ (by have := cM_le (cls d); omega), wi_nat _ (cB_le _)]
theorem tt_le (zs : List Int) : ∀ k, (tt zs k).1 ≤ 64 + 68 * k
  | 0 => by show 0 + wi 64 ≤ _; rw [show wi 64 = 64 by decide]; omega
  | 1 => by show 0 + wi 64 + wi 64 ≤ _; rw [show wi 64 = 64 by decide]; omega
  | k + 2 => by
    have ih := tt_le zs (k + 1)
    show ((tch (turn zs (k + 1))).foldl stp (tt zs (k + 1))).1 ≤ _
    rw [tch_len]
    have h1 := cM_le (cls (turn zs (k + 1)))
    have h2 := cB_le (cls (turn zs (k + 1)))
    omega
theorem tt_ext (zs : List Int) : ∀ k, Ext (tt zs k) (tt zs (k + 1))
  | 0 => ext_stp _ _
  | k + 1 => ext_foldl _ _
theorem tt_exts (zs : List Int) (k : Nat) : ∀ j, Ext (tt zs k) (tt zs (k + j))
  | 0 => Ext.refl _
  | j + 1 => (tt_exts zs k j).trans (tt_ext zs (k + j))
theorem tt_lt (zs : List Int) : ∀ k, (tt zs k).2 < 2 ^ (tt zs k).1
  | 0 => stp_lt _ _ (by decide)
  | 1 => stp_lt _ _ (stp_lt _ _ (by decide))
  | k + 2 => foldl_lt _ _ (tt_lt zs (k + 1))
/-- A part of bits that are known. -/
theorem mid_part (V L p q a b : Nat) (h1 : p ≤ a) (h2 : a ≤ b) (h3 : b ≤ q) (h4 : q ≤ L) : mid V L a b = mid V L p q / 2 ^ (q - b) % 2 ^ (b - a) := by
  unfold mid
  have e1 : 2 ^ (q - p) = 2 ^ (q - b) * 2 ^ (b - p) := by rw [← Nat.pow_add]; congr 1; omega
  rw [e1, Nat.mod_mul_right_div_self, Nat.div_div_eq_div_mul, ← Nat.pow_add, show L - q + (q - b) = L - b by omega]
  have e2 : 2 ^ (b - p) = 2 ^ (b - a) * 2 ^ (a - p) := by rw [← Nat.pow_add]; congr 1; omega
  rw [e2, Nat.mod_mul_right_mod]
theorem cP_one : ∀ k j, k ≤ 4 → j < k → j < 4 → cP k / 2 ^ (cM k - (j + 1)) % 2 ^ 1 = 1 := by
  intro k j hk hj h4
  have : k = 1 ∨ k = 2 ∨ k = 3 ∨ k = 4 := by omega
  have hj4 : j = 0 ∨ j = 1 ∨ j = 2 ∨ j = 3 := by omega
  rcases this with rfl | rfl | rfl | rfl <;> rcases hj4 with rfl | rfl | rfl | rfl <;> first | (exfalso; omega) | decide
theorem cP_zero : ∀ k, k < 4 → cP k / 2 ^ (cM k - (k + 1)) % 2 ^ 1 = 0 := by
  intro k hk
  have : k = 0 ∨ k = 1 ∨ k = 2 ∨ k = 3 := by omega
  rcases this with rfl | rfl | rfl | rfl <;> decide
theorem cP_lt (k : Nat) : cP k % 2 ^ cM k = cP k := by
  unfold cP cM
  split <;> decide
end BitM

namespace BitM
/-- The lowest bits as a number with a sign. -/
def sgn (v n : Nat) : Int := if n = 0 then 0 else if v % 2 ^ n < 2 ^ (n - 1) then ((v % 2 ^ n : Nat) : Int) else ((v % 2 ^ n : Nat) : Int) - ((2 ^ n : Nat) : Int)
end BitM
namespace Go.Proofs.YtocddhokjhfaaaaDoor
open Go.RowKit BitM
set_option linter.unusedVariables false

theorem sg_0 (v : Nat) : wrap64 (IntKind.u64.wrap ((v : Int) * 18446744073709551616)) / 18446744073709551616 = 0 := by
  have e1 : IntKind.u64.wrap ((v : Int) * 18446744073709551616) = 0 := by rw [IntKind.wrap_u64]; omega
  rw [e1, IntWalk.wrap64_in 0 (by constructor <;> omega)]
  rfl
theorem signed_0 (v : Nat) (hv : v < 18446744073709551616) (w : World) :
    Calls Tryd.prog 49 #[.int .u64 (v : Int), .int .i64 0] w fun e w' => e = .returned (.int .i64 0) ∧ w = w' := by
  have hs := sg_0 v
  go_enter Tryd.func49, Tryd.ntmps49
  go_wp2_with fail
  go_ret
  exact ⟨rfl, rfl⟩

set_option maxRecDepth 100000 in
theorem sg_7 (v : Nat) (hv : v < 18446744073709551616) : wrap64 (IntKind.u64.wrap ((v : Int) * 144115188075855872)) / 144115188075855872 = sgn v 7 := by
  obtain ⟨a, b, hb, rfl⟩ : ∃ a b : Nat, b < 128 ∧ v = 128 * a + b := ⟨v / 128, v % 128, Nat.mod_lt _ (by omega), by omega⟩
  have e1 : IntKind.u64.wrap (((128 * a + b : Nat) : Int) * 144115188075855872) = (b : Int) * 144115188075855872 := by rw [IntKind.wrap_u64]; push_cast; omega
  rw [e1]
  have e2 : (128 * a + b) % 2 ^ 7 = b := by omega
  unfold sgn
  rw [if_neg (by omega), e2]
  by_cases h : b < 2 ^ (7 - 1)
  · rw [if_pos h, IntWalk.wrap64_in _ (by constructor <;> omega)]
    omega
  · rw [if_neg h]
    have e3 : wrap64 ((b : Int) * 144115188075855872) = (b : Int) * 144115188075855872 - 18446744073709551616 := by
      have := IntWalk.wrap64_in ((b : Int) * 144115188075855872 - 18446744073709551616) (by constructor <;> omega)
      rw [← this]
      unfold wrap64
      omega
    rw [e3]
    omega
theorem signed_7 (v : Nat) (hv : v < 18446744073709551616) (z : Int) (hz : sgn v 7 = z) (w : World) :
    Calls Tryd.prog 49 #[.int .u64 (v : Int), .int .i64 7] w fun e w' => e = .returned (.int .i64 z) ∧ w = w' := by
  have hs := sg_7 v hv
  rw [hz] at hs
  go_enter Tryd.func49, Tryd.ntmps49
  go_wp2_with fail
  go_ret
  exact ⟨rfl, rfl⟩

set_option maxRecDepth 100000 in
theorem sg_9 (v : Nat) (hv : v < 18446744073709551616) : wrap64 (IntKind.u64.wrap ((v : Int) * 36028797018963968)) / 36028797018963968 = sgn v 9 := by
  obtain ⟨a, b, hb, rfl⟩ : ∃ a b : Nat, b < 512 ∧ v = 512 * a + b := ⟨v / 512, v % 512, Nat.mod_lt _ (by omega), by omega⟩
  have e1 : IntKind.u64.wrap (((512 * a + b : Nat) : Int) * 36028797018963968) = (b : Int) * 36028797018963968 := by rw [IntKind.wrap_u64]; push_cast; omega
  rw [e1]
  have e2 : (512 * a + b) % 2 ^ 9 = b := by omega
  unfold sgn
  rw [if_neg (by omega), e2]
  by_cases h : b < 2 ^ (9 - 1)
  · rw [if_pos h, IntWalk.wrap64_in _ (by constructor <;> omega)]
    omega
  · rw [if_neg h]
    have e3 : wrap64 ((b : Int) * 36028797018963968) = (b : Int) * 36028797018963968 - 18446744073709551616 := by
      have := IntWalk.wrap64_in ((b : Int) * 36028797018963968 - 18446744073709551616) (by constructor <;> omega)
      rw [← this]
      unfold wrap64
      omega
    rw [e3]
    omega
theorem signed_9 (v : Nat) (hv : v < 18446744073709551616) (z : Int) (hz : sgn v 9 = z) (w : World) :
    Calls Tryd.prog 49 #[.int .u64 (v : Int), .int .i64 9] w fun e w' => e = .returned (.int .i64 z) ∧ w = w' := by
  have hs := sg_9 v hv
  rw [hz] at hs
  go_enter Tryd.func49, Tryd.ntmps49
  go_wp2_with fail
  go_ret
  exact ⟨rfl, rfl⟩

set_option maxRecDepth 100000 in
theorem sg_12 (v : Nat) (hv : v < 18446744073709551616) : wrap64 (IntKind.u64.wrap ((v : Int) * 4503599627370496)) / 4503599627370496 = sgn v 12 := by
  obtain ⟨a, b, hb, rfl⟩ : ∃ a b : Nat, b < 4096 ∧ v = 4096 * a + b := ⟨v / 4096, v % 4096, Nat.mod_lt _ (by omega), by omega⟩
  have e1 : IntKind.u64.wrap (((4096 * a + b : Nat) : Int) * 4503599627370496) = (b : Int) * 4503599627370496 := by rw [IntKind.wrap_u64]; push_cast; omega
  rw [e1]
  have e2 : (4096 * a + b) % 2 ^ 12 = b := by omega
  unfold sgn
  rw [if_neg (by omega), e2]
  by_cases h : b < 2 ^ (12 - 1)
  · rw [if_pos h, IntWalk.wrap64_in _ (by constructor <;> omega)]
    omega
  · rw [if_neg h]
    have e3 : wrap64 ((b : Int) * 4503599627370496) = (b : Int) * 4503599627370496 - 18446744073709551616 := by
      have := IntWalk.wrap64_in ((b : Int) * 4503599627370496 - 18446744073709551616) (by constructor <;> omega)
      rw [← this]
      unfold wrap64
      omega
    rw [e3]
    omega
theorem signed_12 (v : Nat) (hv : v < 18446744073709551616) (z : Int) (hz : sgn v 12 = z) (w : World) :
    Calls Tryd.prog 49 #[.int .u64 (v : Int), .int .i64 12] w fun e w' => e = .returned (.int .i64 z) ∧ w = w' := by
  have hs := sg_12 v hv
  rw [hz] at hs
  go_enter Tryd.func49, Tryd.ntmps49
  go_wp2_with fail
  go_ret
  exact ⟨rfl, rfl⟩
end Go.Proofs.YtocddhokjhfaaaaDoor

namespace Go.Proofs.YtocddhokjhfaaaaDoor
open Go.RowKit BitM
set_option linter.unusedVariables false

/-- The table of times stands where it should. -/
def KindsAt (w : World) : Prop := ∃ t fr, w.heap[(0 : Nat)]? = some (.cells #[.int .i64 0, .int .i64 0, .int .i64 1, .int .i64 7, .int .i64 2, .int .i64 9, .int .i64 3, .int .i64 12] t fr)
theorem KindsAt.lt {w : World} (h : KindsAt w) : 0 < w.heap.size := by
  obtain ⟨t, fr, h⟩ := h
  exact (Array.getElem?_eq_some_iff.1 h).1
theorem KindsAt.keep {w w' : World} (h : KindsAt w) (e : w'.heap[(0 : Nat)]? = w.heap[(0 : Nat)]?) : KindsAt w' := by
  obtain ⟨t, fr, h⟩ := h
  exact ⟨t, fr, e.trans h⟩
theorem KindsAt.below {w w' : World} (h : KindsAt w) (hb : Below w.heap.size w w') : KindsAt w' := h.keep (hb.block _ h.lt)
theorem KindsAt.grown {w w' : World} (h : KindsAt w) {g : Nat} (hg : w.grownBy w' (some g)) (hne : 0 < g) : KindsAt w' := h.keep (hg.block _ h.lt (by simp; omega))
theorem KindsAt.cell {w : World} (h : KindsAt w) (i : Nat) (v : Value) (hv : (#[Value.int .i64 0, .int .i64 0, .int .i64 1, .int .i64 7, .int .i64 2, .int .i64 9, .int .i64 3, .int .i64 12])[i]? = some v) : w.cell? ⟨0, i, none⟩ = some v := by
  obtain ⟨t, fr, h⟩ := h
  unfold World.cell?
  simp only [h]
  exact hv
theorem grown_alloc {w w' : World} {r : Option Nat} (h : w.grownBy w' r) (o : Obj) : w.grownBy (w'.alloc o) r :=
  h.trans ⟨rfl, rfl, rfl, by simp, fun k hk _ => Below.heap_alloc w' o k hk⟩

theorem tch_fold (d : Int) (k : Nat) (hk : cls d = k) (L V L1 V1 L2 V2 m b P : Nat) (hm : m = cM k) (hb : b = cB k) (hP : P = cP k) (h1 : L1 = L + m) (v1 : V1 = V * 2 ^ m + P % 2 ^ m) (h2 : L2 = L1 + b) (v2 : V2 = V1 * 2 ^ b + u64 d % 2 ^ b) : (tch d).foldl stp (L, V) = (L2, V2) := by
  subst hm hb hP h1 v1 h2 v2
  unfold tch
  rw [hk]
  simp only [List.foldl_cons, List.foldl_nil, stp]
  rw [wi_nat _ (by have := cM_le k; omega), wi_nat _ (cB_le k)]
theorem sgn_in_7 (d : Int) (h : -64 ≤ d ∧ d < 64) : sgn (u64 d) 7 = d := by
  have e := u64_val d
  have e2 : u64 d % 2 ^ 7 = u64 d % 128 := rfl
  unfold sgn
  rw [if_neg (by omega), e2]
  split <;> omega
theorem sgn_out_7 (d : Int) (h : ¬ (-64 ≤ d ∧ d < 64)) : (sgn (u64 d) 7 == d) = false := by
  have e2 : u64 d % 2 ^ 7 = u64 d % 128 := rfl
  rw [beq_eq_false_iff_ne]
  unfold sgn
  rw [if_neg (by omega), e2]
  split <;> omega
theorem sgn_in_9 (d : Int) (h : -256 ≤ d ∧ d < 256) : sgn (u64 d) 9 = d := by
  have e := u64_val d
  have e2 : u64 d % 2 ^ 9 = u64 d % 512 := rfl
  unfold sgn
  rw [if_neg (by omega), e2]
  split <;> omega
theorem sgn_out_9 (d : Int) (h : ¬ (-256 ≤ d ∧ d < 256)) : (sgn (u64 d) 9 == d) = false := by
  have e2 : u64 d % 2 ^ 9 = u64 d % 512 := rfl
  rw [beq_eq_false_iff_ne]
  unfold sgn
  rw [if_neg (by omega), e2]
  split <;> omega
theorem sgn_in_12 (d : Int) (h : -2048 ≤ d ∧ d < 2048) : sgn (u64 d) 12 = d := by
  have e := u64_val d
  have e2 : u64 d % 2 ^ 12 = u64 d % 4096 := rfl
  unfold sgn
  rw [if_neg (by omega), e2]
  split <;> omega
theorem sgn_out_12 (d : Int) (h : ¬ (-2048 ≤ d ∧ d < 2048)) : (sgn (u64 d) 12 == d) = false := by
  have e2 : u64 d % 2 ^ 12 = u64 d % 4096 := rfl
  rw [beq_eq_false_iff_ne]
  unfold sgn
  rw [if_neg (by omega), e2]
  split <;> omega
set_option maxHeartbeats 1000000 in
set_option maxHeartbeats 1000000 in
theorem idx_0 (w : World) : (Instr.index 85 (.agg #[.int .i64 0, .int .i64 0, .int .i64 1, .int .i64 7, .int .i64 2, .int .i64 9, .int .i64 3, .int .i64 12]) (.int .i64 0)).run Tryd.prog w = .ok (.agg #[.int .i64 0, .int .i64 0]) w := by kernel_rfl
theorem idx_1 (w : World) : (Instr.index 85 (.agg #[.int .i64 0, .int .i64 0, .int .i64 1, .int .i64 7, .int .i64 2, .int .i64 9, .int .i64 3, .int .i64 12]) (.int .i64 1)).run Tryd.prog w = .ok (.agg #[.int .i64 1, .int .i64 7]) w := by kernel_rfl
theorem idx_2 (w : World) : (Instr.index 85 (.agg #[.int .i64 0, .int .i64 0, .int .i64 1, .int .i64 7, .int .i64 2, .int .i64 9, .int .i64 3, .int .i64 12]) (.int .i64 2)).run Tryd.prog w = .ok (.agg #[.int .i64 2, .int .i64 9]) w := by kernel_rfl
theorem idx_3 (w : World) : (Instr.index 85 (.agg #[.int .i64 0, .int .i64 0, .int .i64 1, .int .i64 7, .int .i64 2, .int .i64 9, .int .i64 3, .int .i64 12]) (.int .i64 3)).run Tryd.prog w = .ok (.agg #[.int .i64 3, .int .i64 12]) w := by kernel_rfl
set_option maxHeartbeats 1000000 in
theorem grown_of_below {w w' : World} (h : Below w.heap.size w w') {r : Option Nat} : w.grownBy w' r := ⟨h.os, h.tape, h.output, h.size, fun k hk _ => h.block k hk⟩
theorem below_of_grown {w w' : World} {g : Nat} (h : w.grownBy w' (some g)) (hg : g ≤ w.heap.size := by omega) : Below g w w' := ⟨h.os, h.tape, h.output, h.size, fun k hk => h.block k (by omega) (by simp; omega)⟩
set_option maxHeartbeats 1000000 in
theorem cls_le_1 (d : Int) (h : -64 ≤ d ∧ d < 64) : cls d ≤ 1 := by
  unfold cls
  split <;> (try split) <;> (try split) <;> (try split) <;> omega
theorem cls_le_2 (d : Int) (h : -256 ≤ d ∧ d < 256) : cls d ≤ 2 := by
  unfold cls
  split <;> (try split) <;> (try split) <;> (try split) <;> omega
theorem cls_le_3 (d : Int) (h : -2048 ≤ d ∧ d < 2048) : cls d ≤ 3 := by
  unfold cls
  split <;> (try split) <;> (try split) <;> (try split) <;> omega
set_option maxHeartbeats 1000000 in
set_option maxRecDepth 100000 in
theorem putTurn_any (base g L V : Nat) (d : Int) (hd1 : -9223372036854775808 ≤ d) (hd2 : d ≤ 9223372036854775807) (w : World) (h : WSt w base g L V) (hk : KindsAt w) (hg : 0 < g) :
    Calls Tryd.prog 34 #[.pointer (some ⟨g, 0, none⟩), .int .i64 d] w fun e w' => e = .returned (.tuple #[]) ∧ WSt w' base g ((tch d).foldl stp (L, V)).1 ((tch d).foldl stp (L, V)).2 ∧ w.grownBy w' (some g) := by
  obtain ⟨tk, fk, hkk⟩ := hk
  have hconv : IntKind.u64.wrap d = (u64 d : Int) := by rw [IntKind.wrap_u64, u64_val]
  have HD64 := Lib.hid (u64_lt d)
  have hgw : g < w.heap.size := (WSt.block h).2
  go_enter Tryd.func34, Tryd.ntmps34
  go_wp2_with (refine wpList_load_row rfl 85 _ rfl 0 rfl tk _ fk _ hkk Tryd.underlying85 rfl (by kernel_rfl) ?_)
  go_loopw [7] (fun i wr => ∃ k : Nat, k ≤ cls d ∧ k ≤ 4 ∧ i = .int .i64 k ∧ WSt wr base g L V ∧ w.grownBy wr (some g)) (fun i _ => 4 - (intOf i).toNat)
  case atStart => exact ⟨0, by omega, by omega, rfl, h, World.grownBy.refl _ _⟩
  case round =>
    obtain ⟨k, hkc, hk4, rfl, hw, hgr⟩ := hrel
    have hgs := hgr.size
    by_cases hlt : k < 4
    · have hcase : k = 0 ∨ k = 1 ∨ k = 2 ∨ k = 3 := by omega
      clear hk4 hlt
      rcases hcase with rfl | rfl | rfl | rfl
      · 
        rw [show ((0 : Nat) : Int) = 0 from rfl]
        have hidx := idx_0 wr
        by_cases hc : cls d = 0
        · have hd0 : d = 0 := by unfold cls at hc; split at hc <;> (try split at hc) <;> (try split at hc) <;> (try split at hc) <;> omega
          have hq : ((0 : Int) == d) = true := by rw [hd0]; rfl
          clear hd0
          obtain ⟨L1, h1⟩ : ∃ z, z = L + 1 := ⟨_, rfl⟩
          obtain ⟨V1, v1⟩ : ∃ z, z = V * 2 ^ 1 + 0 % 2 ^ 1 := ⟨_, rfl⟩
          obtain ⟨L2, h2⟩ : ∃ z, z = L1 + 0 := ⟨_, rfl⟩
          obtain ⟨V2, v2⟩ : ∃ z, z = V1 * 2 ^ 0 + u64 d % 2 ^ 0 := ⟨_, rfl⟩
          have HF := Lib.hid (tch_fold d 0 hc L V L1 V1 L2 V2 1 0 0 rfl rfl rfl h1 v1 h2 v2)
          have H1 := Lib.hid h1
          have W1 := Lib.hid v1
          have H2 := Lib.hid h2
          have W2 := Lib.hid v2
          clear h1 v1 h2 v2 hc
          go_wp2_with (first
            | (refine wpList_store_row rfl 84 (.tmp 5) (.tmp 9) rfl wr.heap.size _ rfl rfl 84 Tryd.zeroCells84 (heap_alloc_new _ _) (by kernel_rfl) (by kernel_rfl) (by kernel_rfl) ?_; rw [World.setRow_alloc_new])
            | (go_at_call 49; with_reducible refine (signed_0 (u64 d) HD64.out _).mono ?_; rintro e w3 ⟨rfl, rfl⟩))
          have hw4 : WSt (wr.alloc (.cells #[.int .i64 0, .int .i64 0] 84)) base g L V := hw.below ((Below.refl _ _).alloc (Nat.le_refl _) _)
          have hg4 := grown_alloc hgr (.cells #[.int .i64 0, .int .i64 0] 84)
          have hcA : (wr.alloc (.cells #[.int .i64 0, .int .i64 0] 84)).cell? ⟨wr.heap.size, 0, none⟩ = some (.int .i64 0) := by rw [World.cell?_alloc_new]; rfl
          have hcB : (wr.alloc (.cells #[.int .i64 0, .int .i64 0] 84)).cell? ⟨wr.heap.size, 1, none⟩ = some (.int .i64 0) := by rw [World.cell?_alloc_new]; rfl
          have hgl : g < wr.heap.size := by omega
          refine region_ways g (by simp; omega) (.two [0, 1, 6] 2 (.one [3, 4, 5] 7 (.one [8] 9 (.done []))) 7 (.one [8] 2 (.one [3, 4, 5] 9 (.done [])))) (by kernel_rfl) (by kernel_rfl) ?_
          rintro wd hbd
          have hgd := hg4.trans (grown_of_below hbd)
          have hwd := hw4.below hbd
          have hc0 := (hbd.cell (p := ⟨wr.heap.size, 0, none⟩) (World.block_lt_of_cell? _ _ hcA)).trans hcA
          have hc1 := (hbd.cell (p := ⟨wr.heap.size, 1, none⟩) (World.block_lt_of_cell? _ _ hcB)).trans hcB
          have hgwd : g ≤ wd.heap.size := by have h0 := hbd.size; simp at h0; omega
          have hSd : Below g (wr.alloc (.cells #[.int .i64 0, .int .i64 0] 84)) wd := hbd.mono (by simp; omega)
          clear hcA hcB
          rw [wpWays_two]
          try simp only [List.map_cons, List.map_nil, opAt, List.getElem?_toArray, List.getElem?_cons_zero, List.getElem?_cons_succ, Option.getD_some]
          repeat (go_big_quiet_step (fail))
          refine wpQuiet_nil ⟨?_, ?_⟩
          · go_wp2_with fail
            refine ⟨⟨⟨_, hSd⟩, rfl⟩, ?_⟩
            try simp only [Act.put, List.setIfInBounds_toArray, List.set_cons_zero, List.set_cons_succ]
            rw [wpWays_one]
            try simp only [List.map_cons, List.map_nil, opAt, List.getElem?_toArray, List.getElem?_cons_zero, List.getElem?_cons_succ, Option.getD_some]
            repeat (go_big_quiet_step (fail))
            refine wpQuiet_nil ?_
            go_wp2_with fail
            refine ⟨⟨⟨_, hSd⟩, rfl⟩, ?_⟩
            try simp only [Act.put, List.setIfInBounds_toArray, List.set_cons_zero, List.set_cons_succ]
            rw [wpWays_one]
            try simp only [List.map_cons, List.map_nil, opAt, List.getElem?_toArray, List.getElem?_cons_zero, List.getElem?_cons_succ, Option.getD_some]
            repeat (go_big_quiet_step (fail))
            refine wpQuiet_nil ?_
            go_wp2_with (go_at_call 30; with_reducible refine (wput_to base g L V L1 V1 0 1 0 _ hwd rfl (by omega) 1 (by decide) H1.out W1.out).mono ?_; rintro e w5 ⟨rfl, hw5, hg5⟩)
            refine ⟨⟨⟨_, hSd.trans (below_of_grown hg5 hgwd)⟩, rfl⟩, ?_⟩
            try simp only [Act.put, List.setIfInBounds_toArray, List.set_cons_zero, List.set_cons_succ]
            rw [wpWays_done]
            try simp only [List.map_cons, List.map_nil, opAt, List.getElem?_toArray, List.getElem?_cons_zero, List.getElem?_cons_succ, Option.getD_some]
            repeat (go_big_quiet_step (fail))
            refine wpQuiet_nil ?_
            have hc5 : w5.cell? ⟨wr.heap.size, 1, none⟩ = some (.int .i64 0) := (World.cell?_of_block (a := ⟨wr.heap.size, 1, none⟩) (hg5.block _ (World.block_lt_of_cell? _ _ hc1) (by simp; omega))).trans hc1
            go_wp2_with (go_at_call 30; with_reducible refine (wput_to base g L1 V1 L2 V2 (u64 d) 0 (u64 d : Int) _ hw5 rfl HD64.out 0 (by decide) H2.out W2.out).mono ?_; rintro e w6 ⟨rfl, hw6, hg6⟩)
            refine bodyPost_ret (results_none rfl _ _ _) rfl ?_
            rw [HF.out]
            exact ⟨rfl, hw6, (hgd.trans hg5).trans hg6⟩
          · go_wp2_with fail
            refine ⟨⟨⟨_, hSd⟩, rfl⟩, ?_⟩
            try simp only [Act.put, List.setIfInBounds_toArray, List.set_cons_zero, List.set_cons_succ]
            rw [wpWays_one]
            try simp only [List.map_cons, List.map_nil, opAt, List.getElem?_toArray, List.getElem?_cons_zero, List.getElem?_cons_succ, Option.getD_some]
            repeat (go_big_quiet_step (fail))
            refine wpQuiet_nil ?_
            go_wp2_with fail
            refine ⟨⟨⟨_, hSd⟩, rfl⟩, ?_⟩
            try simp only [Act.put, List.setIfInBounds_toArray, List.set_cons_zero, List.set_cons_succ]
            rw [wpWays_one]
            try simp only [List.map_cons, List.map_nil, opAt, List.getElem?_toArray, List.getElem?_cons_zero, List.getElem?_cons_succ, Option.getD_some]
            repeat (go_big_quiet_step (fail))
            refine wpQuiet_nil ?_
            go_wp2_with (go_at_call 30; with_reducible refine (wput_to base g L V L1 V1 0 1 0 _ hwd rfl (by omega) 1 (by decide) H1.out W1.out).mono ?_; rintro e w5 ⟨rfl, hw5, hg5⟩)
            refine ⟨⟨⟨_, hSd.trans (below_of_grown hg5 hgwd)⟩, rfl⟩, ?_⟩
            try simp only [Act.put, List.setIfInBounds_toArray, List.set_cons_zero, List.set_cons_succ]
            rw [wpWays_done]
            try simp only [List.map_cons, List.map_nil, opAt, List.getElem?_toArray, List.getElem?_cons_zero, List.getElem?_cons_succ, Option.getD_some]
            repeat (go_big_quiet_step (fail))
            refine wpQuiet_nil ?_
            have hc5 : w5.cell? ⟨wr.heap.size, 1, none⟩ = some (.int .i64 0) := (World.cell?_of_block (a := ⟨wr.heap.size, 1, none⟩) (hg5.block _ (World.block_lt_of_cell? _ _ hc1) (by simp; omega))).trans hc1
            go_wp2_with (go_at_call 30; with_reducible refine (wput_to base g L1 V1 L2 V2 (u64 d) 0 (u64 d : Int) _ hw5 rfl HD64.out 0 (by decide) H2.out W2.out).mono ?_; rintro e w6 ⟨rfl, hw6, hg6⟩)
            refine bodyPost_ret (results_none rfl _ _ _) rfl ?_
            rw [HF.out]
            exact ⟨rfl, hw6, (hgd.trans hg5).trans hg6⟩
        · have hq : ((0 : Int) == d) = false := by rw [beq_eq_false_iff_ne]; intro h0; apply hc; unfold cls; rw [if_pos h0.symm]
          go_wp2_with (first
            | (refine wpList_store_row rfl 84 (.tmp 5) (.tmp 9) rfl wr.heap.size _ rfl rfl 84 Tryd.zeroCells84 (heap_alloc_new _ _) (by kernel_rfl) (by kernel_rfl) (by kernel_rfl) ?_; rw [World.setRow_alloc_new])
            | (go_at_call 49; with_reducible refine (signed_0 (u64 d) HD64.out _).mono ?_; rintro e w3 ⟨rfl, rfl⟩))
          go_roundw
          case rel => exact ⟨1, by omega, by omega, rfl, hw.below ((Below.refl _ _).alloc (Nat.le_refl _) _), grown_alloc hgr _⟩
          case measure => simp [intOf]
      · 
        rw [show ((1 : Nat) : Int) = 1 from rfl]
        have hidx := idx_1 wr
        by_cases hc : cls d = 1
        · have hr : -64 ≤ d ∧ d < 64 := by unfold cls at hc; split at hc <;> (try split at hc) <;> (try split at hc) <;> (try split at hc) <;> omega
          have hq : (sgn (u64 d) 7 == d) = true := by rw [sgn_in_7 d hr]; exact beq_self_eq_true d
          clear hr
          obtain ⟨L1, h1⟩ : ∃ z, z = L + 2 := ⟨_, rfl⟩
          obtain ⟨V1, v1⟩ : ∃ z, z = V * 2 ^ 2 + 2 % 2 ^ 2 := ⟨_, rfl⟩
          obtain ⟨L2, h2⟩ : ∃ z, z = L1 + 7 := ⟨_, rfl⟩
          obtain ⟨V2, v2⟩ : ∃ z, z = V1 * 2 ^ 7 + u64 d % 2 ^ 7 := ⟨_, rfl⟩
          have HF := Lib.hid (tch_fold d 1 hc L V L1 V1 L2 V2 2 7 2 rfl rfl rfl h1 v1 h2 v2)
          have H1 := Lib.hid h1
          have W1 := Lib.hid v1
          have H2 := Lib.hid h2
          have W2 := Lib.hid v2
          clear h1 v1 h2 v2 hc
          go_wp2_with (first
            | (refine wpList_store_row rfl 84 (.tmp 5) (.tmp 9) rfl wr.heap.size _ rfl rfl 84 Tryd.zeroCells84 (heap_alloc_new _ _) (by kernel_rfl) (by kernel_rfl) (by kernel_rfl) ?_; rw [World.setRow_alloc_new])
            | (go_at_call 49; with_reducible refine (signed_7 (u64 d) HD64.out _ rfl _).mono ?_; rintro e w3 ⟨rfl, rfl⟩))
          have hw4 : WSt (wr.alloc (.cells #[.int .i64 1, .int .i64 7] 84)) base g L V := hw.below ((Below.refl _ _).alloc (Nat.le_refl _) _)
          have hg4 := grown_alloc hgr (.cells #[.int .i64 1, .int .i64 7] 84)
          have hcA : (wr.alloc (.cells #[.int .i64 1, .int .i64 7] 84)).cell? ⟨wr.heap.size, 0, none⟩ = some (.int .i64 1) := by rw [World.cell?_alloc_new]; rfl
          have hcB : (wr.alloc (.cells #[.int .i64 1, .int .i64 7] 84)).cell? ⟨wr.heap.size, 1, none⟩ = some (.int .i64 7) := by rw [World.cell?_alloc_new]; rfl
          have hgl : g < wr.heap.size := by omega
          refine region_ways g (by simp; omega) (.two [0, 1, 6] 2 (.one [3, 4, 5] 7 (.one [8] 9 (.done []))) 7 (.one [8] 2 (.one [3, 4, 5] 9 (.done [])))) (by kernel_rfl) (by kernel_rfl) ?_
          rintro wd hbd
          have hgd := hg4.trans (grown_of_below hbd)
          have hwd := hw4.below hbd
          have hc0 := (hbd.cell (p := ⟨wr.heap.size, 0, none⟩) (World.block_lt_of_cell? _ _ hcA)).trans hcA
          have hc1 := (hbd.cell (p := ⟨wr.heap.size, 1, none⟩) (World.block_lt_of_cell? _ _ hcB)).trans hcB
          have hgwd : g ≤ wd.heap.size := by have h0 := hbd.size; simp at h0; omega
          have hSd : Below g (wr.alloc (.cells #[.int .i64 1, .int .i64 7] 84)) wd := hbd.mono (by simp; omega)
          clear hcA hcB
          rw [wpWays_two]
          try simp only [List.map_cons, List.map_nil, opAt, List.getElem?_toArray, List.getElem?_cons_zero, List.getElem?_cons_succ, Option.getD_some]
          repeat (go_big_quiet_step (fail))
          refine wpQuiet_nil ⟨?_, ?_⟩
          · go_wp2_with fail
            refine ⟨⟨⟨_, hSd⟩, rfl⟩, ?_⟩
            try simp only [Act.put, List.setIfInBounds_toArray, List.set_cons_zero, List.set_cons_succ]
            rw [wpWays_one]
            try simp only [List.map_cons, List.map_nil, opAt, List.getElem?_toArray, List.getElem?_cons_zero, List.getElem?_cons_succ, Option.getD_some]
            repeat (go_big_quiet_step (fail))
            refine wpQuiet_nil ?_
            go_wp2_with fail
            refine ⟨⟨⟨_, hSd⟩, rfl⟩, ?_⟩
            try simp only [Act.put, List.setIfInBounds_toArray, List.set_cons_zero, List.set_cons_succ]
            rw [wpWays_one]
            try simp only [List.map_cons, List.map_nil, opAt, List.getElem?_toArray, List.getElem?_cons_zero, List.getElem?_cons_succ, Option.getD_some]
            repeat (go_big_quiet_step (fail))
            refine wpQuiet_nil ?_
            go_wp2_with (go_at_call 30; with_reducible refine (wput_to base g L V L1 V1 2 2 2 _ hwd rfl (by omega) 2 (by decide) H1.out W1.out).mono ?_; rintro e w5 ⟨rfl, hw5, hg5⟩)
            refine ⟨⟨⟨_, hSd.trans (below_of_grown hg5 hgwd)⟩, rfl⟩, ?_⟩
            try simp only [Act.put, List.setIfInBounds_toArray, List.set_cons_zero, List.set_cons_succ]
            rw [wpWays_done]
            try simp only [List.map_cons, List.map_nil, opAt, List.getElem?_toArray, List.getElem?_cons_zero, List.getElem?_cons_succ, Option.getD_some]
            repeat (go_big_quiet_step (fail))
            refine wpQuiet_nil ?_
            have hc5 : w5.cell? ⟨wr.heap.size, 1, none⟩ = some (.int .i64 7) := (World.cell?_of_block (a := ⟨wr.heap.size, 1, none⟩) (hg5.block _ (World.block_lt_of_cell? _ _ hc1) (by simp; omega))).trans hc1
            go_wp2_with (go_at_call 30; with_reducible refine (wput_to base g L1 V1 L2 V2 (u64 d) 7 (u64 d : Int) _ hw5 rfl HD64.out 7 (by decide) H2.out W2.out).mono ?_; rintro e w6 ⟨rfl, hw6, hg6⟩)
            refine bodyPost_ret (results_none rfl _ _ _) rfl ?_
            rw [HF.out]
            exact ⟨rfl, hw6, (hgd.trans hg5).trans hg6⟩
          · go_wp2_with fail
            refine ⟨⟨⟨_, hSd⟩, rfl⟩, ?_⟩
            try simp only [Act.put, List.setIfInBounds_toArray, List.set_cons_zero, List.set_cons_succ]
            rw [wpWays_one]
            try simp only [List.map_cons, List.map_nil, opAt, List.getElem?_toArray, List.getElem?_cons_zero, List.getElem?_cons_succ, Option.getD_some]
            repeat (go_big_quiet_step (fail))
            refine wpQuiet_nil ?_
            go_wp2_with fail
            refine ⟨⟨⟨_, hSd⟩, rfl⟩, ?_⟩
            try simp only [Act.put, List.setIfInBounds_toArray, List.set_cons_zero, List.set_cons_succ]
            rw [wpWays_one]
            try simp only [List.map_cons, List.map_nil, opAt, List.getElem?_toArray, List.getElem?_cons_zero, List.getElem?_cons_succ, Option.getD_some]
            repeat (go_big_quiet_step (fail))
            refine wpQuiet_nil ?_
            go_wp2_with (go_at_call 30; with_reducible refine (wput_to base g L V L1 V1 2 2 2 _ hwd rfl (by omega) 2 (by decide) H1.out W1.out).mono ?_; rintro e w5 ⟨rfl, hw5, hg5⟩)
            refine ⟨⟨⟨_, hSd.trans (below_of_grown hg5 hgwd)⟩, rfl⟩, ?_⟩
            try simp only [Act.put, List.setIfInBounds_toArray, List.set_cons_zero, List.set_cons_succ]
            rw [wpWays_done]
            try simp only [List.map_cons, List.map_nil, opAt, List.getElem?_toArray, List.getElem?_cons_zero, List.getElem?_cons_succ, Option.getD_some]
            repeat (go_big_quiet_step (fail))
            refine wpQuiet_nil ?_
            have hc5 : w5.cell? ⟨wr.heap.size, 1, none⟩ = some (.int .i64 7) := (World.cell?_of_block (a := ⟨wr.heap.size, 1, none⟩) (hg5.block _ (World.block_lt_of_cell? _ _ hc1) (by simp; omega))).trans hc1
            go_wp2_with (go_at_call 30; with_reducible refine (wput_to base g L1 V1 L2 V2 (u64 d) 7 (u64 d : Int) _ hw5 rfl HD64.out 7 (by decide) H2.out W2.out).mono ?_; rintro e w6 ⟨rfl, hw6, hg6⟩)
            refine bodyPost_ret (results_none rfl _ _ _) rfl ?_
            rw [HF.out]
            exact ⟨rfl, hw6, (hgd.trans hg5).trans hg6⟩
        · have hr : ¬ (-64 ≤ d ∧ d < 64) := fun h0 => hc (Nat.le_antisymm (cls_le_1 d h0) hkc)
          have hq := sgn_out_7 d hr
          clear hr
          go_wp2_with (first
            | (refine wpList_store_row rfl 84 (.tmp 5) (.tmp 9) rfl wr.heap.size _ rfl rfl 84 Tryd.zeroCells84 (heap_alloc_new _ _) (by kernel_rfl) (by kernel_rfl) (by kernel_rfl) ?_; rw [World.setRow_alloc_new])
            | (go_at_call 49; with_reducible refine (signed_7 (u64 d) HD64.out _ rfl _).mono ?_; rintro e w3 ⟨rfl, rfl⟩))
          go_roundw
          case rel => exact ⟨2, by omega, by omega, rfl, hw.below ((Below.refl _ _).alloc (Nat.le_refl _) _), grown_alloc hgr _⟩
          case measure => simp [intOf]
      · 
        rw [show ((2 : Nat) : Int) = 2 from rfl]
        have hidx := idx_2 wr
        by_cases hc : cls d = 2
        · have hr : -256 ≤ d ∧ d < 256 := by unfold cls at hc; split at hc <;> (try split at hc) <;> (try split at hc) <;> (try split at hc) <;> omega
          have hq : (sgn (u64 d) 9 == d) = true := by rw [sgn_in_9 d hr]; exact beq_self_eq_true d
          clear hr
          obtain ⟨L1, h1⟩ : ∃ z, z = L + 3 := ⟨_, rfl⟩
          obtain ⟨V1, v1⟩ : ∃ z, z = V * 2 ^ 3 + 6 % 2 ^ 3 := ⟨_, rfl⟩
          obtain ⟨L2, h2⟩ : ∃ z, z = L1 + 9 := ⟨_, rfl⟩
          obtain ⟨V2, v2⟩ : ∃ z, z = V1 * 2 ^ 9 + u64 d % 2 ^ 9 := ⟨_, rfl⟩
          have HF := Lib.hid (tch_fold d 2 hc L V L1 V1 L2 V2 3 9 6 rfl rfl rfl h1 v1 h2 v2)
          have H1 := Lib.hid h1
          have W1 := Lib.hid v1
          have H2 := Lib.hid h2
          have W2 := Lib.hid v2
          clear h1 v1 h2 v2 hc
          go_wp2_with (first
            | (refine wpList_store_row rfl 84 (.tmp 5) (.tmp 9) rfl wr.heap.size _ rfl rfl 84 Tryd.zeroCells84 (heap_alloc_new _ _) (by kernel_rfl) (by kernel_rfl) (by kernel_rfl) ?_; rw [World.setRow_alloc_new])
            | (go_at_call 49; with_reducible refine (signed_9 (u64 d) HD64.out _ rfl _).mono ?_; rintro e w3 ⟨rfl, rfl⟩))
          have hw4 : WSt (wr.alloc (.cells #[.int .i64 2, .int .i64 9] 84)) base g L V := hw.below ((Below.refl _ _).alloc (Nat.le_refl _) _)
          have hg4 := grown_alloc hgr (.cells #[.int .i64 2, .int .i64 9] 84)
          have hcA : (wr.alloc (.cells #[.int .i64 2, .int .i64 9] 84)).cell? ⟨wr.heap.size, 0, none⟩ = some (.int .i64 2) := by rw [World.cell?_alloc_new]; rfl
          have hcB : (wr.alloc (.cells #[.int .i64 2, .int .i64 9] 84)).cell? ⟨wr.heap.size, 1, none⟩ = some (.int .i64 9) := by rw [World.cell?_alloc_new]; rfl
          have hgl : g < wr.heap.size := by omega
          refine region_ways g (by simp; omega) (.two [0, 1, 6] 2 (.one [3, 4, 5] 7 (.one [8] 9 (.done []))) 7 (.one [8] 2 (.one [3, 4, 5] 9 (.done [])))) (by kernel_rfl) (by kernel_rfl) ?_
          rintro wd hbd
          have hgd := hg4.trans (grown_of_below hbd)
          have hwd := hw4.below hbd
          have hc0 := (hbd.cell (p := ⟨wr.heap.size, 0, none⟩) (World.block_lt_of_cell? _ _ hcA)).trans hcA
          have hc1 := (hbd.cell (p := ⟨wr.heap.size, 1, none⟩) (World.block_lt_of_cell? _ _ hcB)).trans hcB
          have hgwd : g ≤ wd.heap.size := by have h0 := hbd.size; simp at h0; omega
          have hSd : Below g (wr.alloc (.cells #[.int .i64 2, .int .i64 9] 84)) wd := hbd.mono (by simp; omega)
          clear hcA hcB
          rw [wpWays_two]
          try simp only [List.map_cons, List.map_nil, opAt, List.getElem?_toArray, List.getElem?_cons_zero, List.getElem?_cons_succ, Option.getD_some]
          repeat (go_big_quiet_step (fail))
          refine wpQuiet_nil ⟨?_, ?_⟩
          · go_wp2_with fail
            refine ⟨⟨⟨_, hSd⟩, rfl⟩, ?_⟩
            try simp only [Act.put, List.setIfInBounds_toArray, List.set_cons_zero, List.set_cons_succ]
            rw [wpWays_one]
            try simp only [List.map_cons, List.map_nil, opAt, List.getElem?_toArray, List.getElem?_cons_zero, List.getElem?_cons_succ, Option.getD_some]
            repeat (go_big_quiet_step (fail))
            refine wpQuiet_nil ?_
            go_wp2_with fail
            refine ⟨⟨⟨_, hSd⟩, rfl⟩, ?_⟩
            try simp only [Act.put, List.setIfInBounds_toArray, List.set_cons_zero, List.set_cons_succ]
            rw [wpWays_one]
            try simp only [List.map_cons, List.map_nil, opAt, List.getElem?_toArray, List.getElem?_cons_zero, List.getElem?_cons_succ, Option.getD_some]
            repeat (go_big_quiet_step (fail))
            refine wpQuiet_nil ?_
            go_wp2_with (go_at_call 30; with_reducible refine (wput_to base g L V L1 V1 6 3 6 _ hwd rfl (by omega) 3 (by decide) H1.out W1.out).mono ?_; rintro e w5 ⟨rfl, hw5, hg5⟩)
            refine ⟨⟨⟨_, hSd.trans (below_of_grown hg5 hgwd)⟩, rfl⟩, ?_⟩
            try simp only [Act.put, List.setIfInBounds_toArray, List.set_cons_zero, List.set_cons_succ]
            rw [wpWays_done]
            try simp only [List.map_cons, List.map_nil, opAt, List.getElem?_toArray, List.getElem?_cons_zero, List.getElem?_cons_succ, Option.getD_some]
            repeat (go_big_quiet_step (fail))
            refine wpQuiet_nil ?_
            have hc5 : w5.cell? ⟨wr.heap.size, 1, none⟩ = some (.int .i64 9) := (World.cell?_of_block (a := ⟨wr.heap.size, 1, none⟩) (hg5.block _ (World.block_lt_of_cell? _ _ hc1) (by simp; omega))).trans hc1
            go_wp2_with (go_at_call 30; with_reducible refine (wput_to base g L1 V1 L2 V2 (u64 d) 9 (u64 d : Int) _ hw5 rfl HD64.out 9 (by decide) H2.out W2.out).mono ?_; rintro e w6 ⟨rfl, hw6, hg6⟩)
            refine bodyPost_ret (results_none rfl _ _ _) rfl ?_
            rw [HF.out]
            exact ⟨rfl, hw6, (hgd.trans hg5).trans hg6⟩
          · go_wp2_with fail
            refine ⟨⟨⟨_, hSd⟩, rfl⟩, ?_⟩
            try simp only [Act.put, List.setIfInBounds_toArray, List.set_cons_zero, List.set_cons_succ]
            rw [wpWays_one]
            try simp only [List.map_cons, List.map_nil, opAt, List.getElem?_toArray, List.getElem?_cons_zero, List.getElem?_cons_succ, Option.getD_some]
            repeat (go_big_quiet_step (fail))
            refine wpQuiet_nil ?_
            go_wp2_with fail
            refine ⟨⟨⟨_, hSd⟩, rfl⟩, ?_⟩
            try simp only [Act.put, List.setIfInBounds_toArray, List.set_cons_zero, List.set_cons_succ]
            rw [wpWays_one]
            try simp only [List.map_cons, List.map_nil, opAt, List.getElem?_toArray, List.getElem?_cons_zero, List.getElem?_cons_succ, Option.getD_some]
            repeat (go_big_quiet_step (fail))
            refine wpQuiet_nil ?_
            go_wp2_with (go_at_call 30; with_reducible refine (wput_to base g L V L1 V1 6 3 6 _ hwd rfl (by omega) 3 (by decide) H1.out W1.out).mono ?_; rintro e w5 ⟨rfl, hw5, hg5⟩)
            refine ⟨⟨⟨_, hSd.trans (below_of_grown hg5 hgwd)⟩, rfl⟩, ?_⟩
            try simp only [Act.put, List.setIfInBounds_toArray, List.set_cons_zero, List.set_cons_succ]
            rw [wpWays_done]
            try simp only [List.map_cons, List.map_nil, opAt, List.getElem?_toArray, List.getElem?_cons_zero, List.getElem?_cons_succ, Option.getD_some]
            repeat (go_big_quiet_step (fail))
            refine wpQuiet_nil ?_
            have hc5 : w5.cell? ⟨wr.heap.size, 1, none⟩ = some (.int .i64 9) := (World.cell?_of_block (a := ⟨wr.heap.size, 1, none⟩) (hg5.block _ (World.block_lt_of_cell? _ _ hc1) (by simp; omega))).trans hc1
            go_wp2_with (go_at_call 30; with_reducible refine (wput_to base g L1 V1 L2 V2 (u64 d) 9 (u64 d : Int) _ hw5 rfl HD64.out 9 (by decide) H2.out W2.out).mono ?_; rintro e w6 ⟨rfl, hw6, hg6⟩)
            refine bodyPost_ret (results_none rfl _ _ _) rfl ?_
            rw [HF.out]
            exact ⟨rfl, hw6, (hgd.trans hg5).trans hg6⟩
        · have hr : ¬ (-256 ≤ d ∧ d < 256) := fun h0 => hc (Nat.le_antisymm (cls_le_2 d h0) hkc)
          have hq := sgn_out_9 d hr
          clear hr
          go_wp2_with (first
            | (refine wpList_store_row rfl 84 (.tmp 5) (.tmp 9) rfl wr.heap.size _ rfl rfl 84 Tryd.zeroCells84 (heap_alloc_new _ _) (by kernel_rfl) (by kernel_rfl) (by kernel_rfl) ?_; rw [World.setRow_alloc_new])
            | (go_at_call 49; with_reducible refine (signed_9 (u64 d) HD64.out _ rfl _).mono ?_; rintro e w3 ⟨rfl, rfl⟩))
          go_roundw
          case rel => exact ⟨3, by omega, by omega, rfl, hw.below ((Below.refl _ _).alloc (Nat.le_refl _) _), grown_alloc hgr _⟩
          case measure => simp [intOf]
      · 
        rw [show ((3 : Nat) : Int) = 3 from rfl]
        have hidx := idx_3 wr
        by_cases hc : cls d = 3
        · have hr : -2048 ≤ d ∧ d < 2048 := by unfold cls at hc; split at hc <;> (try split at hc) <;> (try split at hc) <;> (try split at hc) <;> omega
          have hq : (sgn (u64 d) 12 == d) = true := by rw [sgn_in_12 d hr]; exact beq_self_eq_true d
          clear hr
          obtain ⟨L1, h1⟩ : ∃ z, z = L + 4 := ⟨_, rfl⟩
          obtain ⟨V1, v1⟩ : ∃ z, z = V * 2 ^ 4 + 14 % 2 ^ 4 := ⟨_, rfl⟩
          obtain ⟨L2, h2⟩ : ∃ z, z = L1 + 12 := ⟨_, rfl⟩
          obtain ⟨V2, v2⟩ : ∃ z, z = V1 * 2 ^ 12 + u64 d % 2 ^ 12 := ⟨_, rfl⟩
          have HF := Lib.hid (tch_fold d 3 hc L V L1 V1 L2 V2 4 12 14 rfl rfl rfl h1 v1 h2 v2)
          have H1 := Lib.hid h1
          have W1 := Lib.hid v1
          have H2 := Lib.hid h2
          have W2 := Lib.hid v2
          clear h1 v1 h2 v2 hc
          go_wp2_with (first
            | (refine wpList_store_row rfl 84 (.tmp 5) (.tmp 9) rfl wr.heap.size _ rfl rfl 84 Tryd.zeroCells84 (heap_alloc_new _ _) (by kernel_rfl) (by kernel_rfl) (by kernel_rfl) ?_; rw [World.setRow_alloc_new])
            | (go_at_call 49; with_reducible refine (signed_12 (u64 d) HD64.out _ rfl _).mono ?_; rintro e w3 ⟨rfl, rfl⟩))
          have hw4 : WSt (wr.alloc (.cells #[.int .i64 3, .int .i64 12] 84)) base g L V := hw.below ((Below.refl _ _).alloc (Nat.le_refl _) _)
          have hg4 := grown_alloc hgr (.cells #[.int .i64 3, .int .i64 12] 84)
          have hcA : (wr.alloc (.cells #[.int .i64 3, .int .i64 12] 84)).cell? ⟨wr.heap.size, 0, none⟩ = some (.int .i64 3) := by rw [World.cell?_alloc_new]; rfl
          have hcB : (wr.alloc (.cells #[.int .i64 3, .int .i64 12] 84)).cell? ⟨wr.heap.size, 1, none⟩ = some (.int .i64 12) := by rw [World.cell?_alloc_new]; rfl
          have hgl : g < wr.heap.size := by omega
          refine region_ways g (by simp; omega) (.two [0, 1, 6] 2 (.one [3, 4, 5] 7 (.one [8] 9 (.done []))) 7 (.one [8] 2 (.one [3, 4, 5] 9 (.done [])))) (by kernel_rfl) (by kernel_rfl) ?_
          rintro wd hbd
          have hgd := hg4.trans (grown_of_below hbd)
          have hwd := hw4.below hbd
          have hc0 := (hbd.cell (p := ⟨wr.heap.size, 0, none⟩) (World.block_lt_of_cell? _ _ hcA)).trans hcA
          have hc1 := (hbd.cell (p := ⟨wr.heap.size, 1, none⟩) (World.block_lt_of_cell? _ _ hcB)).trans hcB
          have hgwd : g ≤ wd.heap.size := by have h0 := hbd.size; simp at h0; omega
          have hSd : Below g (wr.alloc (.cells #[.int .i64 3, .int .i64 12] 84)) wd := hbd.mono (by simp; omega)
          clear hcA hcB
          rw [wpWays_two]
          try simp only [List.map_cons, List.map_nil, opAt, List.getElem?_toArray, List.getElem?_cons_zero, List.getElem?_cons_succ, Option.getD_some]
          repeat (go_big_quiet_step (fail))
          refine wpQuiet_nil ⟨?_, ?_⟩
          · go_wp2_with fail
            refine ⟨⟨⟨_, hSd⟩, rfl⟩, ?_⟩
            try simp only [Act.put, List.setIfInBounds_toArray, List.set_cons_zero, List.set_cons_succ]
            rw [wpWays_one]
            try simp only [List.map_cons, List.map_nil, opAt, List.getElem?_toArray, List.getElem?_cons_zero, List.getElem?_cons_succ, Option.getD_some]
            repeat (go_big_quiet_step (fail))
            refine wpQuiet_nil ?_
            go_wp2_with fail
            refine ⟨⟨⟨_, hSd⟩, rfl⟩, ?_⟩
            try simp only [Act.put, List.setIfInBounds_toArray, List.set_cons_zero, List.set_cons_succ]
            rw [wpWays_one]
            try simp only [List.map_cons, List.map_nil, opAt, List.getElem?_toArray, List.getElem?_cons_zero, List.getElem?_cons_succ, Option.getD_some]
            repeat (go_big_quiet_step (fail))
            refine wpQuiet_nil ?_
            go_wp2_with (go_at_call 30; with_reducible refine (wput_to base g L V L1 V1 14 4 14 _ hwd rfl (by omega) 4 (by decide) H1.out W1.out).mono ?_; rintro e w5 ⟨rfl, hw5, hg5⟩)
            refine ⟨⟨⟨_, hSd.trans (below_of_grown hg5 hgwd)⟩, rfl⟩, ?_⟩
            try simp only [Act.put, List.setIfInBounds_toArray, List.set_cons_zero, List.set_cons_succ]
            rw [wpWays_done]
            try simp only [List.map_cons, List.map_nil, opAt, List.getElem?_toArray, List.getElem?_cons_zero, List.getElem?_cons_succ, Option.getD_some]
            repeat (go_big_quiet_step (fail))
            refine wpQuiet_nil ?_
            have hc5 : w5.cell? ⟨wr.heap.size, 1, none⟩ = some (.int .i64 12) := (World.cell?_of_block (a := ⟨wr.heap.size, 1, none⟩) (hg5.block _ (World.block_lt_of_cell? _ _ hc1) (by simp; omega))).trans hc1
            go_wp2_with (go_at_call 30; with_reducible refine (wput_to base g L1 V1 L2 V2 (u64 d) 12 (u64 d : Int) _ hw5 rfl HD64.out 12 (by decide) H2.out W2.out).mono ?_; rintro e w6 ⟨rfl, hw6, hg6⟩)
            refine bodyPost_ret (results_none rfl _ _ _) rfl ?_
            rw [HF.out]
            exact ⟨rfl, hw6, (hgd.trans hg5).trans hg6⟩
          · go_wp2_with fail
            refine ⟨⟨⟨_, hSd⟩, rfl⟩, ?_⟩
            try simp only [Act.put, List.setIfInBounds_toArray, List.set_cons_zero, List.set_cons_succ]
            rw [wpWays_one]
            try simp only [List.map_cons, List.map_nil, opAt, List.getElem?_toArray, List.getElem?_cons_zero, List.getElem?_cons_succ, Option.getD_some]
            repeat (go_big_quiet_step (fail))
            refine wpQuiet_nil ?_
            go_wp2_with fail
            refine ⟨⟨⟨_, hSd⟩, rfl⟩, ?_⟩
            try simp only [Act.put, List.setIfInBounds_toArray, List.set_cons_zero, List.set_cons_succ]
            rw [wpWays_one]
            try simp only [List.map_cons, List.map_nil, opAt, List.getElem?_toArray, List.getElem?_cons_zero, List.getElem?_cons_succ, Option.getD_some]
            repeat (go_big_quiet_step (fail))
            refine wpQuiet_nil ?_
            go_wp2_with (go_at_call 30; with_reducible refine (wput_to base g L V L1 V1 14 4 14 _ hwd rfl (by omega) 4 (by decide) H1.out W1.out).mono ?_; rintro e w5 ⟨rfl, hw5, hg5⟩)
            refine ⟨⟨⟨_, hSd.trans (below_of_grown hg5 hgwd)⟩, rfl⟩, ?_⟩
            try simp only [Act.put, List.setIfInBounds_toArray, List.set_cons_zero, List.set_cons_succ]
            rw [wpWays_done]
            try simp only [List.map_cons, List.map_nil, opAt, List.getElem?_toArray, List.getElem?_cons_zero, List.getElem?_cons_succ, Option.getD_some]
            repeat (go_big_quiet_step (fail))
            refine wpQuiet_nil ?_
            have hc5 : w5.cell? ⟨wr.heap.size, 1, none⟩ = some (.int .i64 12) := (World.cell?_of_block (a := ⟨wr.heap.size, 1, none⟩) (hg5.block _ (World.block_lt_of_cell? _ _ hc1) (by simp; omega))).trans hc1
            go_wp2_with (go_at_call 30; with_reducible refine (wput_to base g L1 V1 L2 V2 (u64 d) 12 (u64 d : Int) _ hw5 rfl HD64.out 12 (by decide) H2.out W2.out).mono ?_; rintro e w6 ⟨rfl, hw6, hg6⟩)
            refine bodyPost_ret (results_none rfl _ _ _) rfl ?_
            rw [HF.out]
            exact ⟨rfl, hw6, (hgd.trans hg5).trans hg6⟩
        · have hr : ¬ (-2048 ≤ d ∧ d < 2048) := fun h0 => hc (Nat.le_antisymm (cls_le_3 d h0) hkc)
          have hq := sgn_out_12 d hr
          clear hr
          go_wp2_with (first
            | (refine wpList_store_row rfl 84 (.tmp 5) (.tmp 9) rfl wr.heap.size _ rfl rfl 84 Tryd.zeroCells84 (heap_alloc_new _ _) (by kernel_rfl) (by kernel_rfl) (by kernel_rfl) ?_; rw [World.setRow_alloc_new])
            | (go_at_call 49; with_reducible refine (signed_12 (u64 d) HD64.out _ rfl _).mono ?_; rintro e w3 ⟨rfl, rfl⟩))
          go_roundw
          case rel => exact ⟨4, by omega, by omega, rfl, hw.below ((Below.refl _ _).alloc (Nat.le_refl _) _), grown_alloc hgr _⟩
          case measure => simp [intOf]
    · obtain rfl : k = 4 := by omega
      have hc : cls d = 4 := by have := cls_le d; omega
      obtain ⟨L1, h1⟩ : ∃ z, z = L + 4 := ⟨_, rfl⟩
      obtain ⟨V1, v1⟩ : ∃ z, z = V * 2 ^ 4 + 15 % 2 ^ 4 := ⟨_, rfl⟩
      obtain ⟨L2, h2⟩ : ∃ z, z = L1 + 64 := ⟨_, rfl⟩
      obtain ⟨V2, v2⟩ : ∃ z, z = V1 * 2 ^ 64 + u64 d % 2 ^ 64 := ⟨_, rfl⟩
      have HF := Lib.hid (tch_fold d 4 hc L V L1 V1 L2 V2 4 64 15 rfl rfl rfl h1 v1 h2 v2)
      have H1 := Lib.hid h1
      have W1 := Lib.hid v1
      have H2 := Lib.hid h2
      have W2 := Lib.hid v2
      clear h1 v1 h2 v2 hc
      rw [show ((4 : Nat) : Int) = 4 from rfl]
      go_wp2_with (first
        | (go_at_call 30; with_reducible refine (wput_to base g L V L1 V1 15 4 15 _ hw rfl (by omega) 4 (by decide) H1.out W1.out).mono ?_; rintro e w5 ⟨rfl, hw5, hg5⟩)
        | (go_at_call 30; with_reducible refine (wput_to base g L1 V1 L2 V2 (u64 d) 64 (u64 d : Int) _ hw5 rfl HD64.out 64 (by decide) H2.out W2.out).mono ?_; rintro e w6 ⟨rfl, hw6, hg6⟩))
      refine bodyPost_end (results_none rfl _ _ _) rfl ?_
      rw [HF.out]
      exact ⟨rfl, hw6, (hgr.trans hg5).trans hg6⟩
end Go.Proofs.YtocddhokjhfaaaaDoor

namespace BitM
open Go.Proofs.YtocddhokjhfaaaaDoor
theorem i64_range (z : Int) : -9223372036854775808 ≤ i64 z ∧ i64 z ≤ 9223372036854775807 := by
  unfold i64 Go.RowKit.wrap64
  omega
end BitM
namespace Go.Proofs.YtocddhokjhfaaaaDoor
open Go.RowKit BitM
set_option linter.unusedVariables false

def iv (z : Int) : Value := .int .i64 z
def TimesAt (w : World) (A : Option Addr) (zs : List Int) : Prop := CellsAt w A (zs.map iv)
theorem TimesAt.below {w w' : World} {A : Option Addr} {zs : List Int} (h : TimesAt w A zs) (hb : Below w.heap.size w w') : TimesAt w' A zs := CellsAt.below h hb
theorem TimesAt.addr {w : World} {A : Option Addr} {zs : List Int} (h : TimesAt w A zs) (hne : zs ≠ []) : ∃ b off, A = some ⟨b, off, none⟩ := by
  obtain ⟨b, off, h1, _⟩ := h (by simpa using hne)
  exact ⟨b, off, h1⟩
theorem TimesAt.cell {w : World} {b off : Nat} {zs : List Int} (h : TimesAt w (some ⟨b, off, none⟩) zs) (k : Nat) (hk : k < zs.length) : w.cell? ⟨b, off + k, none⟩ = some (.int .i64 (zs.getD k 0)) := by
  obtain ⟨b', off', e, hc⟩ := h (by intro h0; have := congrArg List.length h0; rw [List.length_map] at this; simp at this; rw [this] at hk; simp at hk)
  injection e with e
  injection e with e1 e2
  subst e1 e2
  have := hc k (by rw [List.length_map]; exact hk)
  rw [this, List.getElem_map, List.getD_eq_getElem?_getD, List.getElem?_eq_getElem hk]
  rfl

set_option maxHeartbeats 1000000 in
set_option maxRecDepth 100000 in
theorem putTwice_any (A : Option Addr) (n c : Nat) (zs : List Int) (w : World) (hn : zs.length = n) (hx : TimesAt w A zs) (hpos : 0 < n) (hl : n ≤ 200) (hk : KindsAt w) :
    Calls Tryd.prog 22 #[.slice A n c] w fun e w' => ∃ A' c', e = .returned (.slice A' (tby zs).length c') ∧ BytesAt w' A' (tby zs) ∧ Below w.heap.size w w' ∧ (tby zs).length ≤ c' ∧ c' ≤ maxLen := by
  have hne : zs ≠ [] := by intro h; subst h; simp at hn; omega
  obtain ⟨b, off, rfl⟩ := hx.addr hne
  have hcell := hx.cell
  have hce : ∀ j, j < n → w.cell? ⟨b, off + j, none⟩ = some (.int .i64 (zs.getD j 0)) := fun j hj => hcell j (by omega)
  have hbl := World.block_lt_of_cell? _ _ (hce 0 hpos)
  have hc0 := hce 0 hpos
  rw [Nat.add_zero] at hc0
  obtain ⟨z0, hz0⟩ : ∃ z, z = zs.getD 0 0 := ⟨_, rfl⟩
  rw [← hz0] at hc0
  have hconv : IntKind.u64.wrap z0 = (u64 z0 : Int) := by rw [IntKind.wrap_u64, u64_val]
  have hlt0 := u64_lt z0
  have ht0 : tt zs 0 = (0 + 64, 0 * 2 ^ 64 + u64 z0 % 2 ^ 64) := by rw [hz0]; rfl
  have hby : tby zs = bytesW (tt zs (n - 1)).1 (tt zs (n - 1)).2 := by unfold tby; rw [if_neg hne, hn]
  have hle := tt_le zs
  have HBY := Lib.hid hby
  have HT0 := Lib.hid ht0
  have HLE := Lib.hid hle
  have HCE := Lib.hid hce
  have HK := Lib.hid hk
  have HZ0 := Lib.hid hz0
  have hgl := hk.lt
  clear hby ht0 hle hce hk hz0 hcell hx hn
  have hb0 : Below w.heap.size w (w.alloc (.cells #[.pointer none, .int .u64 0, .int .i64 0] 64)) := (Below.refl _ _).alloc (Nat.le_refl _) _
  have hw0 := WSt.new w w.heap.size (Nat.le_refl _)
  by_cases h1 : n = 1
  · subst h1
    have hlen : (tby zs).length = (64 + 7) / 8 := by rw [HBY.out, HT0.out, length_bytesW]
    have hxb2 : tby zs = bytesW (0 + 64) (0 * 2 ^ 64 + u64 z0 % 2 ^ 64) := by rw [HBY.out, HT0.out]
    have HLEN := Lib.hid hlen
    have HXB2 := Lib.hid hxb2
    clear hlen hxb2
    go_enter Tryd.func22, Tryd.ntmps22
    go_wp2_with (first
      | (go_at_call 30; with_reducible refine (wput_to w.heap.size w.heap.size 0 0 _ _ (u64 z0) 64 (u64 z0 : Int) _ hw0 rfl hlt0 64 (by decide) rfl rfl).mono ?_; rintro e w1 ⟨rfl, hw1, hg1⟩; have hb1 := below_some (by simp) (Nat.le_refl _) hb0 hg1)
      | (go_at_call 31; with_reducible refine (wbytes_st w.heap.size w.heap.size (0 + 64) (0 * 2 ^ 64 + u64 z0 % 2 ^ 64) (tby zs).length _ hw1 (by omega) HLEN.out).mono ?_; rw [← HXB2.out]; rintro e w4 ⟨A4, c4, rfl, hx4, hc4, hm4, _, hb4⟩))
    go_ret
    exact ⟨A4, c4, rfl, hx4, hb1.trans (hb4.mono hb1.size), hc4, hm4⟩
  · have hn1 : ((n : Int) == 1) = false := by rw [beq_eq_false_iff_ne]; omega
    go_enter Tryd.func22, Tryd.ntmps22
    go_wp2_with (first
      | (go_at_call 30; with_reducible refine (wput_to w.heap.size w.heap.size 0 0 _ _ (u64 z0) 64 (u64 z0 : Int) _ hw0 rfl hlt0 64 (by decide) rfl rfl).mono ?_; rintro e w1 ⟨rfl, hw1, hg1⟩; have hb1 := below_some (by simp) (Nat.le_refl _) hb0 hg1))
    obtain ⟨z1, hz1⟩ : ∃ z, z = zs.getD 1 0 := ⟨_, rfl⟩
    obtain ⟨s1, hs1⟩ : ∃ s, s = i64 (z1 - z0) := ⟨_, rfl⟩
    have hst : wrap64 (z1 - z0) = s1 := hs1.symm
    have hconv1 : IntKind.u64.wrap s1 = (u64 s1 : Int) := by rw [IntKind.wrap_u64, u64_val]
    have hlt1 := u64_lt s1
    obtain ⟨L1, hL1⟩ : ∃ z, z = 0 + 64 + 64 := ⟨_, rfl⟩
    obtain ⟨V1, hV1⟩ : ∃ z, z = (0 * 2 ^ 64 + u64 z0 % 2 ^ 64) * 2 ^ 64 + u64 s1 % 2 ^ 64 := ⟨_, rfl⟩
    have ht1 : (L1, V1) = tt zs 1 := by rw [hL1, hV1, hs1, hz1, HZ0.out]; rfl
    have HT1 := Lib.hid ht1
    have HL1 := Lib.hid hL1
    have HV1 := Lib.hid hV1
    have HS1 : Hid (s1 = i64 (zs.getD 1 0 - zs.getD 0 0)) := Lib.hid (by rw [hs1, hz1, HZ0.out])
    have HZ1 := Lib.hid hz1
    clear ht1 hL1 hV1 hs1
    have c0 := (hb1.cell (p := ⟨b, off, none⟩) (World.block_lt_of_cell? _ _ hc0)).trans hc0
    have c1 := (hb1.cell (p := ⟨b, off + 1, none⟩) (World.block_lt_of_cell? _ _ (HCE.out 1 (by omega)))).trans (HCE.out 1 (by omega))
    rw [← hz1] at c1
    clear hz1
    have hbl1 := World.block_lt_of_cell? _ _ c0
    have k0 : ∀ y : SubW w1.heap.size w1, y.at_.cell? ⟨b, off, none⟩ = some (.int .i64 z0) := fun y => (World.cell?_of_block (a := ⟨b, off, none⟩) (y.ok_.block _ hbl1)).trans c0
    have k1 : ∀ y : SubW w1.heap.size w1, y.at_.cell? ⟨b, off + 1, none⟩ = some (.int .i64 z1) := fun y => (World.cell?_of_block (a := ⟨b, off + 1, none⟩) (y.ok_.block _ hbl1)).trans c1
    refine region_over [] [0, 1, 2, 3, 4, 5, 6, 7] (by kernel_rfl) (by kernel_rfl) ?_
    rintro wd hbd
    rw [wpBl_nil]
    simp only [List.map_cons, List.map_nil, opAt, List.getElem?_toArray, List.getElem?_cons_zero, List.getElem?_cons_succ, Option.getD_some]
    repeat (go_big_quiet_step (fail))
    refine wpQuiet_nil ?_
    have hbd1 := hb1.trans (hbd.mono hb1.size)
    have hwd := hw1.below hbd
    go_wp2_with (go_at_call 30; with_reducible refine (wput_to w.heap.size w.heap.size (0 + 64) (0 * 2 ^ 64 + u64 z0 % 2 ^ 64) L1 V1 (u64 s1) 64 (u64 s1 : Int) _ hwd rfl hlt1 64 (by decide) HL1.out HV1.out).mono ?_; rintro e w2 ⟨rfl, hw2, hg2⟩; have hb2 := below_some hbd1.size (Nat.le_refl _) hbd1 hg2)
    clear c0 c1 k0 k1
    go_loopw [4, 5] (fun st i wr => ∃ (k L V : Nat) (s : Int), k + 2 ≤ n ∧ i = .int .i64 ((k + 2 : Nat) : Int) ∧ st = .int .i64 s ∧ Hid (s = i64 (zs.getD (k + 1) 0 - zs.getD k 0)) ∧ Hid ((L, V) = tt zs (k + 1)) ∧ WSt wr w.heap.size w.heap.size L V ∧ Below w.heap.size w wr) (fun _ i _ => n - (intOf i).toNat)
    case atStart => exact ⟨0, L1, V1, s1, by omega, rfl, rfl, HS1, HT1, hw2, hb2⟩
    case round =>
      obtain ⟨k, L, V, s, hk, rfl, rfl, HS, HLV, hw, hb⟩ := hrel
      obtain ⟨i, hi⟩ : ∃ i, i = k + 2 := ⟨_, rfl⟩
      rw [← hi]
      by_cases hlt : i < n
      · obtain ⟨j, hj⟩ : ∃ j, j = k + 1 := ⟨_, rfl⟩
        obtain ⟨za, hza⟩ : ∃ z, z = zs.getD i 0 := ⟨_, rfl⟩
        obtain ⟨zb, hzb⟩ : ∃ z, z = zs.getD j 0 := ⟨_, rfl⟩
        have ca0 := HCE.out i hlt
        have cb0 := HCE.out j (by omega)
        have ca := (hb.cell (p := ⟨b, off + i, none⟩) (World.block_lt_of_cell? _ _ ca0)).trans ca0
        have cb := (hb.cell (p := ⟨b, off + j, none⟩) (World.block_lt_of_cell? _ _ cb0)).trans cb0
        rw [← hza] at ca
        rw [← hzb] at cb
        have hbl2 := World.block_lt_of_cell? _ _ ca
        have ka : ∀ y : SubW wr.heap.size wr, y.at_.cell? ⟨b, off + i, none⟩ = some (.int .i64 za) := fun y => (World.cell?_of_block (a := ⟨b, off + i, none⟩) (y.ok_.block _ hbl2)).trans ca
        have kb : ∀ y : SubW wr.heap.size wr, y.at_.cell? ⟨b, off + j, none⟩ = some (.int .i64 zb) := fun y => (World.cell?_of_block (a := ⟨b, off + j, none⟩) (y.ok_.block _ hbl2)).trans cb
        obtain ⟨nx, hnx⟩ : ∃ s, s = i64 (za - zb) := ⟨_, rfl⟩
        have hnx2 : wrap64 (za - zb) = nx := hnx.symm
        obtain ⟨d, hd⟩ : ∃ d, d = i64 (nx - s) := ⟨_, rfl⟩
        have hd2 : wrap64 (nx - s) = d := hd.symm
        have hij : (i : Int) - 1 = (j : Int) := by omega
        have hdr := i64_range (nx - s)
        rw [← hd] at hdr
        have HD : Hid (d = turn zs (k + 1)) := Lib.hid (by rw [hd, hnx, hza, hzb, HS.out, hi, hj]; rfl)
        have HNX : Hid (nx = i64 (zs.getD (k + 1 + 1) 0 - zs.getD (k + 1) 0)) := Lib.hid (by rw [hnx, hza, hzb, hi, hj])
        have HI := Lib.hid hi
        have hkn : KindsAt wr := HK.out.below hb
        have hdr1 := hdr.1
        have hdr3 := hdr.2
        clear ca0 cb0 hza hzb hnx hd hi hj hdr ca cb
        go_wp2_with fail
        refine region_over [] [0, 1, 2, 3, 4, 5, 6, 7, 8, 9, 10] (by kernel_rfl) (by kernel_rfl) ?_
        rintro we hbe
        rw [wpBl_nil]
        simp only [List.map_cons, List.map_nil, opAt, List.getElem?_toArray, List.getElem?_cons_zero, List.getElem?_cons_succ, Option.getD_some]
        repeat (go_big_quiet_step (fail))
        refine wpQuiet_nil ?_
        have hbe1 := hb.trans (hbe.mono hb.size)
        have hwe := hw.below hbe
        go_wp2_with (go_at_call 34; with_reducible refine (putTurn_any w.heap.size w.heap.size L V d hdr1 hdr3 _ hwe (hkn.below hbe) hgl).mono ?_; rintro e w5 ⟨rfl, hw5, hg5⟩; have hb5 := below_some hbe1.size (Nat.le_refl _) hbe1 hg5)
        go_roundw
        case rel => exact ⟨k + 1, _, _, nx, by have := HI.out; omega, by rw [HI.out]; go_num, rfl, HNX, Lib.hid (by rw [HD.out, HLV.out]; rfl), hw5, hb5⟩
        case measure => simp [intOf]; omega
      · obtain rfl : i = n := by omega
        have hk1 : i - 1 = k + 1 := by omega
        have hlen : (tby zs).length = (L + 7) / 8 := by rw [HBY.out, hk1, ← HLV.out, length_bytesW]
        have hxb2 : tby zs = bytesW L V := by rw [HBY.out, hk1, ← HLV.out]
        have hL : L ≤ 64 + 68 * (k + 1) := by have := HLE.out (k + 1); rw [← HLV.out] at this; exact this
        have HLEN := Lib.hid hlen
        have HXB2 := Lib.hid hxb2
        clear hlen hxb2 hi hk1
        go_wp2_with (go_at_call 31; with_reducible refine (wbytes_st w.heap.size w.heap.size L V (tby zs).length _ hw (by omega) HLEN.out).mono ?_; rw [← HXB2.out]; rintro e w4 ⟨A4, c4, rfl, hx4, hc4, hm4, _, hb4⟩)
        go_ret
        exact ⟨A4, c4, rfl, hx4, hb.trans (hb4.mono hb.size), hc4, hm4⟩
end Go.Proofs.YtocddhokjhfaaaaDoor

namespace BitM
theorem sgn_mod (v n : Nat) : sgn (v % 2 ^ n) n = sgn v n := by
  unfold sgn
  rw [Nat.mod_mod]
theorem cM_lt (k : Nat) (h : k < 4) : cM k = k + 1 := by
  have : k = 0 ∨ k = 1 ∨ k = 2 ∨ k = 3 := by omega
  rcases this with rfl | rfl | rfl | rfl <;> rfl
theorem i64_u64 (d : Int) (h1 : -9223372036854775808 ≤ d) (h2 : d ≤ 9223372036854775807) : Go.RowKit.wrap64 ((u64 d : Nat) : Int) = d := by
  rw [u64_val]
  unfold Go.RowKit.wrap64
  omega
end BitM
namespace Go.Proofs.YtocddhokjhfaaaaDoor
open Go.RowKit BitM
set_option linter.unusedVariables false

set_option maxHeartbeats 1000000 in
set_option maxRecDepth 100000 in
theorem takeTurn_good (g : Nat) (A : Option Addr) (len c : Nat) (d : Int) (hd1 : -9223372036854775808 ≤ d) (hd2 : d ≤ 9223372036854775807) (X : List UInt8) (F s : Nat × Nat) (p p' : Nat) (w : World) (h : RdAt w g A len c p false) (hx : BytesAt w A X) (hxl : X.length = len) (hl : len ≤ 1000000)
    (hF : Bits X len F) (hE : Ext ((tch d).foldl stp s) F) (hp : p = s.1) (hp' : p' = ((tch d).foldl stp s).1) (hk : KindsAt w) (hg : 0 < g) :
    Calls Tryd.prog 58 #[.pointer (some ⟨g, 0, none⟩)] w fun e w' => e = .returned (.int .i64 d) ∧ RdAt w' g A len c p' false ∧ w.grownBy w' (some g) := by
  obtain ⟨k, hkd⟩ : ∃ k, k = cls d := ⟨_, rfl⟩
  have hk4 : k ≤ 4 := by rw [hkd]; exact cls_le d
  have hE2 : Ext (stp (stp s (cP k, (cM k : Int))) (u64 d, (cB k : Int))) F := by rw [hkd]; exact hE
  have hE1 : Ext (stp s (cP k, (cM k : Int))) F := (ext_stp _ _).trans hE2
  have hm4 := cM_le k
  have hb64 := cB_le k
  have hwm := wi_nat (cM k) (by omega)
  have hwb := wi_nat (cB k) hb64
  have f1 := ext_mid hE1
  have f2 := ext_mid hE2
  simp only [hwm, hwb] at f1 f2
  rw [cP_lt] at f1
  have hs1 : (stp s (cP k, (cM k : Int))).1 = s.1 + cM k := by show s.1 + wi _ = _; rw [hwm]
  rw [hs1, ← hp] at f2
  rw [← hp] at f1
  have hFl : p + cM k + cB k ≤ F.1 := by
    have h1 := hE2.1
    have h2 : (stp (stp s (cP k, (cM k : Int))) (u64 d, (cB k : Int))).1 = p + cM k + cB k := by show (stp s (cP k, (cM k : Int))).1 + wi _ = _; rw [hs1, hwb, hp]
    omega
  have hF8 := hF.1
  have hpe : p' = p + cM k + cB k := by rw [hp', tch_len, ← hkd, hp]
  have hone : ∀ j, j < k → j < 4 → mid (valB X) (8 * len) (p + j) (p + j + 1) = 1 := by
    intro j hj hj4
    have hjm : j + 1 ≤ cM k := by
      rcases Nat.lt_or_ge k 4 with h | h
      · rw [cM_lt k h]; omega
      · obtain rfl : k = 4 := by omega
        show j + 1 ≤ 4; omega
    rw [hF.2 _ _ (by omega) (by omega), mid_part F.2 F.1 p (p + cM k) (p + j) (p + j + 1) (by omega) (by omega) (by omega) (by omega), f1, show p + cM k - (p + j + 1) = cM k - (j + 1) by omega, show p + j + 1 - (p + j) = 1 by omega]
    exact cP_one k j hk4 hj hj4
  have hzero : k < 4 → mid (valB X) (8 * len) (p + k) (p + k + 1) = 0 := by
    intro hk
    have hjm := cM_lt k hk
    rw [hF.2 _ _ (by omega) (by omega), mid_part F.2 F.1 p (p + cM k) (p + k) (p + k + 1) (by omega) (by omega) (by omega) (by omega), f1, show p + cM k - (p + k + 1) = cM k - (k + 1) by omega, show p + k + 1 - (p + k) = 1 by omega]
    exact cP_zero k hk
  have hlast : mid (valB X) (8 * len) (p + cM k) (p + cM k + cB k) = u64 d % 2 ^ cB k := by
    rw [hF.2 _ _ (by omega) (by omega)]
    exact f2
  have hbound : p + cM k + cB k ≤ 8 * len := by omega
  have hq1 : ∀ q : Nat, q + 1 = q + wi 1 := fun q => by rw [show wi 1 = 1 by decide]
  have HONE := Lib.hid hone
  have HZERO := Lib.hid hzero
  have HLAST := Lib.hid hlast
  have HBND := Lib.hid hbound
  have HQ1 := Lib.hid hq1
  have HXL := Lib.hid hxl
  have HKD := Lib.hid hkd
  have HPE := Lib.hid hpe
  clear hone hzero hlast hbound hq1 hxl hkd hE hE1 hE2 f1 f2 hs1 hFl hF hF8 hpe hp' hp hm4 hb64 hwm hwb
  go_enter Tryd.func58, Tryd.ntmps58
  go_wp2_with fail
  go_loopw [3] (fun i wr => ∃ j P : Nat, j ≤ k ∧ i = .int .i64 j ∧ Hid (P = p + j) ∧ RdAt wr g A len c P false ∧ w.grownBy wr (some g)) (fun i _ => 4 - (intOf i).toNat)
  case atStart => exact ⟨0, p, by omega, rfl, Lib.hid rfl, h, World.grownBy.refl _ _⟩
  case round =>
    obtain ⟨j, P, hj, rfl, HP, hr, hgr⟩ := hrel
    have hxr := bytes_past h hx hgr
    have hcm : k < 4 → cM k = k + 1 := cM_lt k
    by_cases hlt : j < k
    · have hj4 : j < 4 := by omega
      have h1 := HONE.out j hlt hj4
      rw [← HP.out] at h1
      have hPb : P + 1 ≤ 8 * len := by
        have := HBND.out
        have := HP.out
        rcases Nat.lt_or_ge k 4 with h | h
        · have := hcm h; omega
        · obtain rfl : k = 4 := by omega
          have : cM 4 = 4 := rfl
          omega
      have H1 := Lib.hid h1
      have HPB := Lib.hid hPb
      clear h1 hPb hcm
      go_wp2_with (go_at_call 54; with_reducible refine (take_q g A len c P (P + 1) 1 X 1 _ hr hxr HXL.out (by omega) (HQ1.out P) HPB.out H1.out).mono ?_; rintro e w2 ⟨rfl, hr2, hg2⟩)
      go_roundw
      case rel => exact ⟨j + 1, P + 1, by omega, by go_num, Lib.hid (by have := HP.out; omega), hr2, hgr.trans hg2⟩
      case measure => simp [intOf]; omega
    · obtain rfl : j = k := by omega
      have hcase : j = 0 ∨ j = 1 ∨ j = 2 ∨ j = 3 ∨ j = 4 := by omega
      rcases hcase with rfl | rfl | rfl | rfl | rfl
      · rw [show ((0 : Nat) : Int) = 0 from rfl]
        have h0 := HZERO.out (by omega)
        rw [← HP.out] at h0
        have hl0 := HLAST.out
        have hb0 := HBND.out
        rw [show cM 0 = 1 from rfl, show cB 0 = 0 from rfl] at hl0 hb0
        obtain ⟨P1, hP1⟩ : ∃ P1, P1 = P + 1 := ⟨_, rfl⟩
        obtain ⟨P2, hP2⟩ : ∃ P2, P2 = P1 + 0 := ⟨_, rfl⟩
        have hPe : P1 = p + 1 := by rw [hP1, HP.out]
        rw [← hPe] at hl0 hb0
        replace hl0 : mid (valB X) (8 * len) P1 P2 = u64 d % 2 ^ 0 := by rw [show P2 = P1 by omega]; exact hl0
        replace hb0 : P2 ≤ 8 * len := by omega
        obtain ⟨M, hM⟩ : ∃ M, M = u64 d % 2 ^ 0 := ⟨_, rfl⟩
        rw [← hM] at hl0
        have hM64 : M < 18446744073709551616 := by have := u64_lt d; have := Nat.mod_le (u64 d) (2 ^ 0); omega
        have hd0 : d = 0 := by have h0 : 0 = cls d := HKD.out; unfold cls at h0; split at h0 <;> (try split at h0) <;> (try split at h0) <;> (try split at h0) <;> omega
        have hPb : P + 1 ≤ 8 * len := by omega
        have hq2 : P2 = P1 + wi 0 := by rw [show wi 0 = 0 by decide]; exact hP2
        have hPf : p' = P2 := by rw [HPE.out, hP2, hPe]; rfl
        have H0 := Lib.hid h0
        have HL0 := Lib.hid hl0
        have HB0 := Lib.hid hb0
        have HPB := Lib.hid hPb
        have HQ2 := Lib.hid hq2
        have HM64 := Lib.hid hM64
        have HPF := Lib.hid hPf
        have HP1 := Lib.hid hP1
        have hkr : KindsAt wr := hk.grown hgr hg
        clear h0 hl0 hb0 hPb hq2 hM64 hPf hP1 hP2 hPe hM hcm
        go_wp2_with (first
          | (go_at_call 54; with_reducible refine (take_q g A len c P (P + 1) 1 X 0 _ hr hxr HXL.out (by omega) (HQ1.out P) HPB.out H0.out).mono ?_; rintro e w2 ⟨rfl, hr2, hg2⟩; have hx2 := bytes_past hr hxr hg2; have hcB := (hkr.grown hg2 hg).cell 1 _ rfl; rw [← HP1.out] at hr2)
          | (go_at_call 54; with_reducible refine (take_q g A len c P1 P2 0 X M _ hr2 hx2 HXL.out (by omega) HQ2.out HB0.out HL0.out).mono ?_; rintro e w3 ⟨rfl, hr3, hg3⟩)
          | (go_at_call 49; with_reducible refine (signed_0 M HM64.out _).mono ?_; rintro e w4 ⟨rfl, rfl⟩))
        go_ret
        rw [HPF.out]
        exact ⟨by rw [hd0]; rfl, hr3, (hgr.trans hg2).trans hg3⟩
      · rw [show ((1 : Nat) : Int) = 1 from rfl]
        have h0 := HZERO.out (by omega)
        rw [← HP.out] at h0
        have hl0 := HLAST.out
        have hb0 := HBND.out
        rw [show cM 1 = 2 from rfl, show cB 1 = 7 from rfl] at hl0 hb0
        obtain ⟨P1, hP1⟩ : ∃ P1, P1 = P + 1 := ⟨_, rfl⟩
        obtain ⟨P2, hP2⟩ : ∃ P2, P2 = P1 + 7 := ⟨_, rfl⟩
        have hPe : P1 = p + 2 := by rw [hP1, HP.out]
        rw [← hPe, ← hP2] at hl0 hb0
        skip
        skip
        obtain ⟨M, hM⟩ : ∃ M, M = u64 d % 2 ^ 7 := ⟨_, rfl⟩
        rw [← hM] at hl0
        have hM64 : M < 18446744073709551616 := by have := u64_lt d; have := Nat.mod_le (u64 d) (2 ^ 7); omega
        have hin : -64 ≤ d ∧ d < 64 := by have h0 : 1 = cls d := HKD.out; unfold cls at h0; split at h0 <;> (try split at h0) <;> (try split at h0) <;> (try split at h0) <;> omega
        have hsg : sgn M 7 = d := by rw [hM]; exact (sgn_mod (u64 d) 7).trans (sgn_in_7 d hin)
        have HSG := Lib.hid hsg
        clear hin hsg
        have hPb : P + 1 ≤ 8 * len := by omega
        have hq2 : P2 = P1 + wi 7 := by rw [show wi 7 = 7 by decide]; exact hP2
        have hPf : p' = P2 := by rw [HPE.out, hP2, hPe]; rfl
        have H0 := Lib.hid h0
        have HL0 := Lib.hid hl0
        have HB0 := Lib.hid hb0
        have HPB := Lib.hid hPb
        have HQ2 := Lib.hid hq2
        have HM64 := Lib.hid hM64
        have HPF := Lib.hid hPf
        have HP1 := Lib.hid hP1
        have hkr : KindsAt wr := hk.grown hgr hg
        clear h0 hl0 hb0 hPb hq2 hM64 hPf hP1 hP2 hPe hM hcm
        go_wp2_with (first
          | (go_at_call 54; with_reducible refine (take_q g A len c P (P + 1) 1 X 0 _ hr hxr HXL.out (by omega) (HQ1.out P) HPB.out H0.out).mono ?_; rintro e w2 ⟨rfl, hr2, hg2⟩; have hx2 := bytes_past hr hxr hg2; have hcB := (hkr.grown hg2 hg).cell 3 _ rfl; rw [← HP1.out] at hr2)
          | (go_at_call 54; with_reducible refine (take_q g A len c P1 P2 7 X M _ hr2 hx2 HXL.out (by omega) HQ2.out HB0.out HL0.out).mono ?_; rintro e w3 ⟨rfl, hr3, hg3⟩)
          | (go_at_call 49; with_reducible refine (signed_7 M HM64.out d HSG.out _).mono ?_; rintro e w4 ⟨rfl, rfl⟩))
        go_ret
        rw [HPF.out]
        exact ⟨rfl, hr3, (hgr.trans hg2).trans hg3⟩
      · rw [show ((2 : Nat) : Int) = 2 from rfl]
        have h0 := HZERO.out (by omega)
        rw [← HP.out] at h0
        have hl0 := HLAST.out
        have hb0 := HBND.out
        rw [show cM 2 = 3 from rfl, show cB 2 = 9 from rfl] at hl0 hb0
        obtain ⟨P1, hP1⟩ : ∃ P1, P1 = P + 1 := ⟨_, rfl⟩
        obtain ⟨P2, hP2⟩ : ∃ P2, P2 = P1 + 9 := ⟨_, rfl⟩
        have hPe : P1 = p + 3 := by rw [hP1, HP.out]
        rw [← hPe, ← hP2] at hl0 hb0
        skip
        skip
        obtain ⟨M, hM⟩ : ∃ M, M = u64 d % 2 ^ 9 := ⟨_, rfl⟩
        rw [← hM] at hl0
        have hM64 : M < 18446744073709551616 := by have := u64_lt d; have := Nat.mod_le (u64 d) (2 ^ 9); omega
        have hin : -256 ≤ d ∧ d < 256 := by have h0 : 2 = cls d := HKD.out; unfold cls at h0; split at h0 <;> (try split at h0) <;> (try split at h0) <;> (try split at h0) <;> omega
        have hsg : sgn M 9 = d := by rw [hM]; exact (sgn_mod (u64 d) 9).trans (sgn_in_9 d hin)
        have HSG := Lib.hid hsg
        clear hin hsg
        have hPb : P + 1 ≤ 8 * len := by omega
        have hq2 : P2 = P1 + wi 9 := by rw [show wi 9 = 9 by decide]; exact hP2
        have hPf : p' = P2 := by rw [HPE.out, hP2, hPe]; rfl
        have H0 := Lib.hid h0
        have HL0 := Lib.hid hl0
        have HB0 := Lib.hid hb0
        have HPB := Lib.hid hPb
        have HQ2 := Lib.hid hq2
        have HM64 := Lib.hid hM64
        have HPF := Lib.hid hPf
        have HP1 := Lib.hid hP1
        have hkr : KindsAt wr := hk.grown hgr hg
        clear h0 hl0 hb0 hPb hq2 hM64 hPf hP1 hP2 hPe hM hcm
        go_wp2_with (first
          | (go_at_call 54; with_reducible refine (take_q g A len c P (P + 1) 1 X 0 _ hr hxr HXL.out (by omega) (HQ1.out P) HPB.out H0.out).mono ?_; rintro e w2 ⟨rfl, hr2, hg2⟩; have hx2 := bytes_past hr hxr hg2; have hcB := (hkr.grown hg2 hg).cell 5 _ rfl; rw [← HP1.out] at hr2)
          | (go_at_call 54; with_reducible refine (take_q g A len c P1 P2 9 X M _ hr2 hx2 HXL.out (by omega) HQ2.out HB0.out HL0.out).mono ?_; rintro e w3 ⟨rfl, hr3, hg3⟩)
          | (go_at_call 49; with_reducible refine (signed_9 M HM64.out d HSG.out _).mono ?_; rintro e w4 ⟨rfl, rfl⟩))
        go_ret
        rw [HPF.out]
        exact ⟨rfl, hr3, (hgr.trans hg2).trans hg3⟩
      · rw [show ((3 : Nat) : Int) = 3 from rfl]
        have h0 := HZERO.out (by omega)
        rw [← HP.out] at h0
        have hl0 := HLAST.out
        have hb0 := HBND.out
        rw [show cM 3 = 4 from rfl, show cB 3 = 12 from rfl] at hl0 hb0
        obtain ⟨P1, hP1⟩ : ∃ P1, P1 = P + 1 := ⟨_, rfl⟩
        obtain ⟨P2, hP2⟩ : ∃ P2, P2 = P1 + 12 := ⟨_, rfl⟩
        have hPe : P1 = p + 4 := by rw [hP1, HP.out]
        rw [← hPe, ← hP2] at hl0 hb0
        skip
        skip
        obtain ⟨M, hM⟩ : ∃ M, M = u64 d % 2 ^ 12 := ⟨_, rfl⟩
        rw [← hM] at hl0
        have hM64 : M < 18446744073709551616 := by have := u64_lt d; have := Nat.mod_le (u64 d) (2 ^ 12); omega
        have hin : -2048 ≤ d ∧ d < 2048 := by have h0 : 3 = cls d := HKD.out; unfold cls at h0; split at h0 <;> (try split at h0) <;> (try split at h0) <;> (try split at h0) <;> omega
        have hsg : sgn M 12 = d := by rw [hM]; exact (sgn_mod (u64 d) 12).trans (sgn_in_12 d hin)
        have HSG := Lib.hid hsg
        clear hin hsg
        have hPb : P + 1 ≤ 8 * len := by omega
        have hq2 : P2 = P1 + wi 12 := by rw [show wi 12 = 12 by decide]; exact hP2
        have hPf : p' = P2 := by rw [HPE.out, hP2, hPe]; rfl
        have H0 := Lib.hid h0
        have HL0 := Lib.hid hl0
        have HB0 := Lib.hid hb0
        have HPB := Lib.hid hPb
        have HQ2 := Lib.hid hq2
        have HM64 := Lib.hid hM64
        have HPF := Lib.hid hPf
        have HP1 := Lib.hid hP1
        have hkr : KindsAt wr := hk.grown hgr hg
        clear h0 hl0 hb0 hPb hq2 hM64 hPf hP1 hP2 hPe hM hcm
        go_wp2_with (first
          | (go_at_call 54; with_reducible refine (take_q g A len c P (P + 1) 1 X 0 _ hr hxr HXL.out (by omega) (HQ1.out P) HPB.out H0.out).mono ?_; rintro e w2 ⟨rfl, hr2, hg2⟩; have hx2 := bytes_past hr hxr hg2; have hcB := (hkr.grown hg2 hg).cell 7 _ rfl; rw [← HP1.out] at hr2)
          | (go_at_call 54; with_reducible refine (take_q g A len c P1 P2 12 X M _ hr2 hx2 HXL.out (by omega) HQ2.out HB0.out HL0.out).mono ?_; rintro e w3 ⟨rfl, hr3, hg3⟩)
          | (go_at_call 49; with_reducible refine (signed_12 M HM64.out d HSG.out _).mono ?_; rintro e w4 ⟨rfl, rfl⟩))
        go_ret
        rw [HPF.out]
        exact ⟨rfl, hr3, (hgr.trans hg2).trans hg3⟩
      · rw [show ((4 : Nat) : Int) = 4 from rfl]
        have hl0 := HLAST.out
        have hb0 := HBND.out
        rw [show cM 4 = 4 from rfl, show cB 4 = 64 from rfl, ← HP.out, Nat.mod_eq_of_lt (u64_lt d)] at hl0
        rw [show cM 4 = 4 from rfl, show cB 4 = 64 from rfl, ← HP.out] at hb0
        have hq2 : P + 64 = P + wi 64 := by rw [show wi 64 = 64 by decide]
        have hPf : p' = P + 64 := by rw [HPE.out, HP.out]; rfl
        have hw := i64_u64 d hd1 hd2
        have HL0 := Lib.hid hl0
        have HB0 := Lib.hid hb0
        have HQ2 := Lib.hid hq2
        have HPF := Lib.hid hPf
        clear hl0 hb0 hq2 hPf hcm
        go_wp2_with (go_at_call 54; with_reducible refine (take_q g A len c P (P + 64) 64 X (u64 d) _ hr hxr HXL.out (by omega) HQ2.out HB0.out HL0.out).mono ?_; rintro e w3 ⟨rfl, hr3, hg3⟩)
        go_ret
        rw [HPF.out]
        refine ⟨?_, hr3, hgr.trans hg3⟩
        show Ending.returned (.int .i64 (wrap64 ((u64 d : Nat) : Int))) = _
        rw [hw]
end Go.Proofs.YtocddhokjhfaaaaDoor

namespace BitM
open Go.Proofs.YtocddhokjhfaaaaDoor (wi)
def fl (l : List Nat) : List (Nat × Int) := (lmin l, 64) :: (wid l, 8) :: pks l
theorem length_fl (l : List Nat) : (fl l).length = l.length + 2 := by simp [fl, length_pks]
theorem wi_64 : wi (64 : Int) = 64 := by decide
theorem wi_8 : wi (8 : Int) = 8 := by decide
theorem tot_pks1 (l : List Nat) (hw : wid l ≤ 64) : ∀ k, k ≤ l.length → (tot ((pks l).take k)).1 = k * wid l
  | 0, _ => by simp [tot]
  | k + 1, h => by
    rw [pks_succ l k (by omega) hw]
    simp only
    rw [tot_pks1 l hw k (by omega), Nat.add_mul, Nat.one_mul]
theorem lmin_lt {l : List Nat} (hne : l ≠ []) (hm : ∀ v ∈ l, v < 18446744073709551616) : lmin l < 18446744073709551616 := by
  cases l with
  | nil => exact absurd rfl hne
  | cons x r =>
    have h1 := lmin_le (l := x :: r) (y := x) (by simp)
    have h2 := hm x (by simp)
    omega
theorem tot_two (l : List Nat) (h64 : lmin l < 18446744073709551616) (hw : wid l ≤ 64) : tot ((fl l).take 2) = (72, lmin l * 256 + wid l) := by
  simp only [fl, List.take_succ_cons, List.take_zero, tot, List.foldl_cons, List.foldl_nil, wi_64, wi_8]
  rw [Nat.mod_eq_of_lt (show lmin l < 2 ^ 64 by simpa using h64), Nat.mod_eq_of_lt (show wid l < 2 ^ 8 by omega)]
  simp
theorem tot_fl (l : List Nat) (h64 : lmin l < 18446744073709551616) (hw : wid l ≤ 64) : ∀ k, k ≤ l.length →
    tot ((fl l).take (k + 2)) = (72 + (tot ((pks l).take k)).1, (lmin l * 256 + wid l) * 2 ^ (tot ((pks l).take k)).1 + (tot ((pks l).take k)).2)
  | 0, _ => by
    rw [tot_two l h64 hw]
    simp [tot]
  | k + 1, h => by
    have ih := tot_fl l h64 hw k (by omega)
    have hk : k + 2 < (fl l).length := by rw [length_fl]; omega
    have e := tot_succ (fl l) (k + 2) hk
    have hq : (fl l)[k + 2] = (l[k]'(by omega) - lmin l, (wid l : Int)) := by simp [fl, pks]
    have hwi : wi (wid l : Int) = wid l := by unfold wi; omega
    rw [hq, ih] at e
    simp only [hwi] at e
    rw [show k + 1 + 2 = k + 2 + 1 by omega, e, pks_succ l k (by omega) hw]
    simp only
    rw [pks_step, Nat.add_assoc]
theorem pk_tot {l : List Nat} (hne : l ≠ []) (hm : ∀ v ∈ l, v < 18446744073709551616) : pk l = bytesW (tot (fl l)).1 (tot (fl l)).2 := by
  have e := tot_fl l (lmin_lt hne hm) (wid_le l hm) l.length (Nat.le_refl _)
  rw [← length_fl, List.take_length, ← length_pks, List.take_length] at e
  rw [e]
  exact pk_cons hne hm
theorem pk_mid {l : List Nat} (hne : l ≠ []) (hm : ∀ v ∈ l, v < 18446744073709551616) (i : Nat) (hi : i < (fl l).length) :
    mid (valB (pk l)) (8 * (pk l).length) (tot ((fl l).take i)).1 ((tot ((fl l).take i)).1 + wi (fl l)[i].2) = (fl l)[i].1 % 2 ^ wi (fl l)[i].2 ∧ (tot ((fl l).take i)).1 + wi (fl l)[i].2 ≤ 8 * (pk l).length := by
  have hV := tot_lt (fl l) (fl l).length (Nat.le_refl _)
  have hmid := tot_mid (fl l) i (fl l).length hi (Nat.le_refl _)
  have hle := (tot_mono (fl l) (i + 1) ((fl l).length - (i + 1)) (by omega)).1
  rw [show i + 1 + ((fl l).length - (i + 1)) = (fl l).length by omega, tot_succ (fl l) i hi] at hle
  rw [List.take_length] at hV hmid hle
  simp only at hle
  have hl : (pk l).length = ((tot (fl l)).1 + 7) / 8 := by rw [pk_tot hne hm, length_bytesW]
  refine ⟨?_, by rw [hl]; omega⟩
  rw [hl, pk_tot hne hm, mid_bytesW _ _ _ _ hV hle]
  exact hmid
theorem pk_len {l : List Nat} (hne : l ≠ []) (hm : ∀ v ∈ l, v < 18446744073709551616) : (pk l).length = 9 + (l.length * wid l + 7) / 8 := by
  rw [pk_cons hne hm, length_bytesW]
  have e := tot_pks1 l (wid_le l hm) l.length (Nat.le_refl _)
  rw [← length_pks, List.take_length, length_pks] at e
  rw [e]
  omega
theorem pk_back {l : List Nat} (hne : l ≠ []) (hm : ∀ v ∈ l, v < 18446744073709551616) :
    mid (valB (pk l)) (8 * (pk l).length) 0 64 = lmin l ∧ mid (valB (pk l)) (8 * (pk l).length) 64 72 = wid l ∧
    ∀ k (h : k < l.length), (lmin l + mid (valB (pk l)) (8 * (pk l).length) (72 + k * wid l) (72 + k * wid l + wid l)) % 18446744073709551616 = l[k] ∧ 72 + k * wid l + wid l ≤ 8 * (pk l).length := by
  have h64 := lmin_lt hne hm
  have hw := wid_le l hm
  refine ⟨?_, ?_, fun k h => ?_⟩
  · have e := (pk_mid hne hm 0 (by rw [length_fl]; omega)).1
    have e0 : (fl l)[0]'(by rw [length_fl]; omega) = (lmin l, 64) := rfl
    simp only [e0, wi_64, List.take_zero] at e
    rw [show (tot []).1 = 0 from rfl] at e
    rw [e, Nat.mod_eq_of_lt (show lmin l < 2 ^ 64 by simpa using h64)]
  · have e := (pk_mid hne hm 1 (by rw [length_fl]; omega)).1
    have e0 : (fl l)[1]'(by rw [length_fl]; omega) = (wid l, 8) := rfl
    have e1 : (tot ((fl l).take 1)).1 = 64 := by simp [fl, tot, wi_64]
    simp only [e0, wi_8, e1] at e
    rw [e, Nat.mod_eq_of_lt (show wid l < 2 ^ 8 by omega)]
  · obtain ⟨e, e'⟩ := pk_mid hne hm (k + 2) (by rw [length_fl]; omega)
    have e0 : (fl l)[k + 2]'(by rw [length_fl]; omega) = (l[k] - lmin l, (wid l : Int)) := by simp [fl, pks]
    have hwi : wi (wid l : Int) = wid l := by unfold wi; omega
    have e1 : (tot ((fl l).take (k + 2))).1 = 72 + k * wid l := by
      rw [tot_fl l h64 hw k (by omega)]
      simp only
      rw [tot_pks1 l hw k (by omega)]
    simp only [e0, hwi, e1] at e e'
    refine ⟨?_, e'⟩
    have h1 := lmin_le (List.getElem_mem h)
    have h2 := le_lmax (List.getElem_mem h)
    have h3 : l[k] - lmin l < 2 ^ wid l := Nat.lt_of_le_of_lt (by omega) (lenB_lt (lmax l - lmin l))
    have h4 := hm _ (List.getElem_mem h)
    rw [e, Nat.mod_eq_of_lt h3]
    omega
end BitM
namespace Go.Proofs.YtocddhokjhfaaaaDoor
open Go.RowKit BitM RunM
set_option linter.unusedVariables false

/-- Get of what Put laid, whatever stands behind. -/
theorem packGet_pk (A : Option Addr) (len c n : Nat) (ns : List Nat) (rest X : List UInt8) (w : World) (hX : BytesAt w A X) (hXe : X = pk ns ++ rest) (hlen : X.length = len) (hl : len ≤ 1000000) (hc : len ≤ c) (hcm : c ≤ maxLen) (hpos : 0 < n) (hn2 : n ≤ 200) (hns : ns.length = n) (hm64 : ∀ v ∈ ns, v < 18446744073709551616) :
    Calls Tryd.prog 59 #[.slice A len c, .int .i64 (n : Int)] w fun e w' => ∃ A' c', e = .returned (.tuple #[.slice A' n c', .int .i64 ((pk ns).length : Int), .int .i64 0]) ∧ NatsAt w' A' ns ∧ Below w.heap.size w w' := by
  have hne : ns ≠ [] := by intro h; subst h; simp at hns; omega
  obtain ⟨b1, b2, b3⟩ := pk_back hne hm64
  have hpl := pk_len hne hm64
  have hw := wid_le ns hm64
  have hlen2 : len = (pk ns).length + rest.length := by rw [← hlen, hXe, List.length_append]
  have hfr : ∀ p q, q ≤ 8 * (pk ns).length → mid (valB X) (8 * len) p q = mid (valB (pk ns)) (8 * (pk ns).length) p q := fun p q hq => by
    rw [hXe, hlen2]
    exact mid_front _ _ _ _ hq
  rw [hns] at hpl
  have h72 : 72 ≤ 8 * (pk ns).length := by omega
  refine packGet_good A len c n X ns (lmin ns) (wid ns) (pk ns).length w hX hlen hl hc hcm hpos hn2 ((hfr _ _ (by omega)).trans b1) ((hfr _ _ h72).trans b2) hw hpl (by omega) hns hm64 (fun k h => ?_) ?_
  · obtain ⟨c1, c2⟩ := b3 k h
    rw [hfr _ _ c2]
    exact c1
  · rw [hXe, List.take_left]
end Go.Proofs.YtocddhokjhfaaaaDoor

namespace BitM
theorem pk77 : pk [7, 7] = [0, 0, 0, 0, 0, 0, 0, 7, 0] := by decide +kernel
end BitM
namespace Go.Proofs.YtocddhokjhfaaaaDoor
open Go.RowKit BitM RunM
set_option linter.unusedVariables false

theorem nats_two (w : World) (a b : Nat) (x y : Int) (t : TypeId) (hx : x = (a : Int)) (hy : y = (b : Int)) : NatsAt (w.alloc (.cells #[.int .u64 x, .int .u64 y] t)) (some ⟨w.heap.size, 0, none⟩) [a, b] := fun _ => by
  subst hx hy
  refine ⟨w.heap.size, 0, rfl, fun k hk => ?_⟩
  have : k = 0 ∨ k = 1 := by simp at hk; omega
  rcases this with rfl | rfl
  · rw [World.cell?_alloc_new]; rfl
  · rw [World.cell?_alloc_new]; rfl

theorem packGet_z (A : Option Addr) (len c n : Nat) (z : Int) (ns : List Nat) (rest X : List UInt8) (q : Nat) (w : World) (hz : z = (n : Int)) (hX : BytesAt w A X) (hXe : X = pk ns ++ rest) (hlen : X.length = len) (hq : (pk ns).length = q) (hl : len ≤ 1000000) (hc : len ≤ c) (hcm : c ≤ maxLen) (hpos : 0 < n) (hn2 : n ≤ 200) (hns : ns.length = n) (hm64 : ∀ v ∈ ns, v < 18446744073709551616) :
    Calls Tryd.prog 59 #[.slice A len c, .int .i64 z] w fun e w' => ∃ A' c', e = .returned (.tuple #[.slice A' n c', .int .i64 (q : Int), .int .i64 0]) ∧ NatsAt w' A' ns ∧ Below w.heap.size w w' := by
  subst hz hq
  exact packGet_pk A len c n ns rest X w hX hXe hlen hl hc hcm hpos hn2 hns hm64

end Go.Proofs.YtocddhokjhfaaaaDoor

namespace BitM
theorem mid_byte0 (X : List UInt8) (i : Nat) (h : i < X.length) : mid (valB X) (8 * X.length) (8 * i) (8 * i + 8) = X[i].toNat := by
  have hq : 8 * i / 8 = i := by omega
  have h1 := mid_byte X (8 * i) 8 (by omega) (by omega)
  rw [h1]
  have : (X[8 * i / 8]'(by omega)).toNat = X[i].toNat := by simp only [hq]
  rw [this, show 8 - 8 * i % 8 - 8 = 0 by omega, Nat.pow_zero, Nat.div_one]
  exact Nat.mod_eq_of_lt (X[i].toNat_lt)
/-- The number k of those that are laid in so many bits behind the header. -/
def numAt (X : List UInt8) (m W k : Nat) : Nat := (m + mid (valB X) (8 * X.length) (72 + k * W) (72 + k * W + W)) % 18446744073709551616
def numsAt (X : List UInt8) (m W n : Nat) : List Nat := (List.range n).map (numAt X m W)
theorem numsAt_length (X : List UInt8) (m W n : Nat) : (numsAt X m W n).length = n := by simp [numsAt]
theorem numsAt_get (X : List UInt8) (m W n k : Nat) (h : k < (numsAt X m W n).length) : (numsAt X m W n)[k] = numAt X m W k := by simp [numsAt]
theorem numsAt_lt (X : List UInt8) (m W n : Nat) : ∀ v ∈ numsAt X m W n, v < 18446744073709551616 := by
  intro v hv
  simp only [numsAt, List.mem_map, List.mem_range] at hv
  obtain ⟨k, _, rfl⟩ := hv
  exact Nat.mod_lt _ (by omega)
/-- The error, the numbers and the size that n numbers of bytes come to. -/
def unpk (X : List UInt8) (n : Nat) : List Nat × Nat × Nat :=
  if n = 0 then ([], 0, 0) else
  if X.length < 9 then ([], 0, 4) else
  let m := mid (valB X) (8 * X.length) 0 64
  let W := mid (valB X) (8 * X.length) 64 72
  if 64 < W then ([], 0, 3) else
  if X.length < 9 + (n * W + 7) / 8 then ([], 0, 4) else
  if pk (numsAt X m W n) = X.take (9 + (n * W + 7) / 8) then (numsAt X m W n, 9 + (n * W + 7) / 8, 0) else ([], 0, 3)
end BitM
namespace Go.Proofs.YtocddhokjhfaaaaDoor
open Go.RowKit BitM RunM
set_option linter.unusedVariables false

theorem equal_ne (A B : Option Addr) (c d n m : Nat) (xs ys : List UInt8) (w : World) (hn : xs.length = n) (hm : ys.length = m) (hx : BytesAt w A xs) (hy : BytesAt w B ys) (he : xs ≠ ys) :
    Calls Tryd.prog 25 #[.slice A n c, .slice B m d] w fun e w' => e = .returned (.bool false) ∧ w = w' := by
  have e1 := text_n A n c xs hn hx
  have e2 := text_n B m d ys hm hy
  have hs : (xs == ys) = false := by rw [beq_eq_false_iff_ne]; exact he
  go_enter Tryd.func25, Tryd.ntmps25
  go_wp2_with fail
  try rw [hs]
  go_ret
  exact ⟨rfl, rfl⟩

set_option maxHeartbeats 800000 in
set_option maxRecDepth 100000 in
theorem packGet_bad (A : Option Addr) (len c n : Nat) (X : List UInt8) (ns : List Nat) (m W sz : Nat) (w : World) (hX : BytesAt w A X) (hlen : X.length = len) (hl : len ≤ 1000000) (hc : len ≤ c) (hcm : c ≤ maxLen) (hpos : 0 < n) (hn2 : n ≤ 200)
    (h0 : mid (valB X) (8 * len) 0 64 = m) (h1 : mid (valB X) (8 * len) 64 72 = W) (hW : W ≤ 64) (hsz : sz = 9 + (n * W + 7) / 8) (hszl : sz ≤ len) (hns : ns.length = n) (hm64 : ∀ v ∈ ns, v < 18446744073709551616)
    (hk : ∀ k (h : k < ns.length), (m + mid (valB X) (8 * len) (72 + k * W) (72 + k * W + W)) % 18446744073709551616 = ns[k]) (hneq : pk ns ≠ X.take sz) :
    Calls Tryd.prog 59 #[.slice A len c, .int .i64 (n : Int)] w fun e w' => e = .returned (.tuple #[.slice none 0 0, .int .i64 0, .int .i64 3]) ∧ Below w.heap.size w w' := by
  have hlen9 : 9 ≤ len := by omega
  have hnw : n * W ≤ 200 * 64 := Nat.mul_le_mul hn2 hW
  obtain ⟨s, hs⟩ : ∃ s, s = n * W := ⟨_, rfl⟩
  have hsi : (n : Int) * (W : Int) = (s : Int) := by rw [hs]; push_cast; rfl
  rw [← hs] at hsz hnw
  have hszi : (9 : Int) + ((s : Int) + 7) / 8 = (sz : Int) := by omega
  have hwi : W = wi (W : Int) := by unfold wi; omega
  obtain ⟨iu, hiu, hz0, hz1, hz2⟩ := info_parts infoU64
  have hz3 : iu.bytes * n ≤ 281474976710656 := by rw [hz2]; omega
  have hxt : BytesAt w A (X.take sz) := hX.take sz
  have hxtl : (X.take sz).length = sz := by rw [List.length_take, hlen]; omega
  have HX := Lib.hid hlen
  have H0 := Lib.hid h0
  have H1 := Lib.hid h1
  have HK := Lib.hid hk
  have HNEQ := Lib.hid hneq
  have HNS := Lib.hid hns
  have HM64 := Lib.hid hm64
  have HWI := Lib.hid hwi
  have HS := Lib.hid hs
  have HSZ := Lib.hid hsz
  have HXT := Lib.hid hxt
  have HXTL := Lib.hid hxtl
  unfold maxLen at hcm
  clear hlen h0 h1 hk hneq hns hm64 hwi hs hsz hxt hxtl hz2
  go_enter Tryd.func59, Tryd.ntmps59
  go_wp2_with (first
    | (go_at_call 53; with_reducible refine (new_any A len c _).mono ?_; rintro e w1 ⟨rfl, hr1, hl1, hb1⟩; have hx1 := hX.below hb1)
    | (go_at_call 54; with_reducible refine (take_q w.heap.size A len c 0 64 64 X m _ hr1 hx1 HX.out (by omega) (by decide) (by omega) H0.out).mono ?_; rintro e w2 ⟨rfl, hr2, hg2⟩; have hx2 := bytes_past hr1 hx1 hg2; have hb2 := below_some hb1.size (Nat.le_refl _) hb1 hg2)
    | (go_at_call 54; with_reducible refine (take_q w.heap.size A len c 64 72 8 X W _ hr2 hx2 HX.out (by omega) (by decide) (by omega) H1.out).mono ?_; rintro e w3 ⟨rfl, hr3, hg3⟩; have hx3 := bytes_past hr2 hx2 hg3; have hb3 := below_some hb2.size (Nat.le_refl _) hb2 hg3)
    | (at_make; refine wpList_make_full _ rfl (.tmp 45) (.tmp 45) 55 rfl w.heap.size 22 iu (.int .u64 0) 1 Tryd.underlying55 hiu hz0 hz1 .i64 .i64 n n n rfl rfl rfl rfl hz3 (by unfold maxLen; omega) (by exact hb3.size) ?_; intro w4 ho4 hg4))
  have hb4 := below_grown (Nat.le_refl _) hb3 hg4
  have ho4' := own_made ho4
  have hbel := grown_below hg4
  have hr4 := hr3.below hbel
  have hg0 := hr3.cells.2.2.2.2.2.2
  have hne : w.heap.size ≠ w3.heap.size := by omega
  have hne2 : w3.heap.size ≠ w.heap.size := fun h => hne h.symm
  have hw3 : w.heap.size ≤ w3.heap.size := hb3.size
  obtain ⟨f, hf⟩ : ∃ f : Nat → Nat, f = fun j => ns.getD j 0 := ⟨_, rfl⟩
  have hpa : part f n n = ns := by rw [hf, ← HNS.out]; exact part_of ns
  have HPA := Lib.hid hpa
  have HF := Lib.hid hf
  rw [← part_zero f] at ho4'
  clear hpa hf
  clear hg4 ho4 hbel hr3 hx3 hb3 hg3 hr2 hx2 hb2 hg2 hr1 hx1 hb1 hl1
  generalize w3.heap.size = ga at *
  go_loopw [49] (fun i wr => ∃ k P : Nat, k ≤ n ∧ i = .int .i64 k ∧ Hid (P = 72 + k * W) ∧ RdAt wr w.heap.size A len c P false ∧ OwnN wr w.heap.size (.slice (some ⟨ga, 0, none⟩) n n) (part f n k) ∧ Below w.heap.size w wr) (fun i _ => n - (intOf i).toNat)
  case atStart => exact ⟨0, 72, by omega, rfl, Lib.hid (by omega), hr4, ho4', hb4⟩
  case round =>
    obtain ⟨k, P, hkn, rfl, HP, hr, ho, hb⟩ := hrel
    by_cases hlt : k < n
    · have hkl : k < ns.length := by rw [HNS.out]; exact hlt
      have h2 := HK.out k hkl
      rw [← HP.out] at h2
      obtain ⟨M, hM⟩ : ∃ M, M = mid (valB X) (8 * len) P (P + W) := ⟨_, rfl⟩
      rw [← hM] at h2
      obtain ⟨v, hv⟩ : ∃ v, v = ns[k] := ⟨_, rfl⟩
      rw [← hv] at h2
      have hgd : f k = v := by rw [HF.out]; simp [List.getElem?_eq_getElem hkl, hv]
      have hadd : IntKind.u64.wrap ((m : Int) + (M : Int)) = (v : Int) := by rw [IntKind.wrap_u64]; omega
      have HGD := Lib.hid hgd
      have hkW : (k + 1) * W ≤ n * W := Nat.mul_le_mul_right W (by omega)
      have hkW2 : (k + 1) * W = k * W + W := by rw [Nat.add_mul, Nat.one_mul]
      have hPb : P + W ≤ 8 * len := by have := HP.out; have := HSZ.out; have := HS.out; omega
      have HPB := Lib.hid hPb
      have hP2 : P + W = 72 + (k + 1) * W := by have := HP.out; omega
      have HP2 := Lib.hid hP2
      have HM := Lib.hid hM.symm
      have hq : P + W = P + wi (W : Int) := by rw [← HWI.out]
      have HQ := Lib.hid hq
      clear h2 hM hv hgd hkW hkW2 hPb hP2 hq
      go_wp2_with fail
      go_loud (with_reducible refine (take_q w.heap.size A len c P (P + W) W X M _ hr (hX.below hb) HX.out (by omega) HQ.out HPB.out HM.out).mono ?_)
      rintro e w7 ⟨rfl, hr7, hg7⟩
      have hb7 := below_some hb.size (Nat.le_refl _) hb hg7
      have ho7 : OwnN w7 w.heap.size (.slice (some ⟨ga, 0, none⟩) n n) (part f n k) := OwnV.keep ho (fun g hg => by simp [Value.ownBlock] at hg; subst hg; exact hg7.block ga ((OwnV.block ho _ rfl).2) (by simp; omega))
      obtain ⟨ra1, ra2, ra3, ra4, ra5, ra6, ra7⟩ := OwnV.row ho7
      have ca := ra6 k (by rw [ra2]; exact hlt)
      have fa := ra7 k
      clear ra6 ra7
      go_wp2_with fail
      go_roundw
      case rel =>
        have e := OwnV.stored ho7 k (uv (f k))
        rw [part_set f n k hlt, HGD.out] at e
        refine ⟨k + 1, P + W, by omega, by go_num, HP2, ?_, e, hb7.setCell ra1 _⟩
        unfold RdAt
        rw [heap_setCell_other _ _ _ _ hne]
        exact hr7
      case measure => simp [intOf]; omega
    · obtain rfl : k = n := by omega
      rw [HPA.out] at ho
      have hnats := OwnN.nats ho
      clear hr
      go_wp2_with (first
        | (go_at_call 35; with_reducible refine (packPut_any (some ⟨ga, 0, none⟩) k k ns _ HNS.out hnats hn2 HM64.out).mono ?_; rintro e w8 ⟨A8, c8, rfl, hx8, hb8, _, _⟩; have hxt8 := (HXT.out.below hb).below hb8)
        | (go_at_call 25; with_reducible refine (equal_ne A8 A c8 c _ sz (pk ns) (X.take sz) _ rfl HXTL.out hx8 hxt8 HNEQ.out).mono ?_; rintro e w9 ⟨rfl, rfl⟩))
      go_ret3
      exact ⟨rfl, hb.trans (hb8.mono hb.size)⟩

theorem packGet_zero (A : Option Addr) (len c : Nat) (w : World) :
    Calls Tryd.prog 59 #[.slice A len c, .int .i64 0] w fun e w' => e = .returned (.tuple #[.slice none 0 0, .int .i64 0, .int .i64 0]) ∧ w = w' := by
  go_enter Tryd.func59, Tryd.ntmps59
  go_wp2_with fail
  go_ret3
  exact ⟨rfl, rfl⟩
theorem packGet_arg (A : Option Addr) (len c : Nat) (z : Int) (w : World) (hz : z < 0 ∨ 200 < z) :
    Calls Tryd.prog 59 #[.slice A len c, .int .i64 z] w fun e w' => e = .returned (.tuple #[.slice none 0 0, .int .i64 0, .int .i64 1]) ∧ w = w' := by
  rcases hz with h | h
  · go_enter Tryd.func59, Tryd.ntmps59
    go_wp2_with fail
    go_ret3
    exact ⟨rfl, rfl⟩
  · have h0 : decide (z < 0) = false := by rw [decide_eq_false_iff_not]; omega
    go_enter Tryd.func59, Tryd.ntmps59
    go_wp2_with fail
    go_ret3
    exact ⟨rfl, rfl⟩

theorem packGet_few (A : Option Addr) (len c n : Nat) (w : World) (hpos : 0 < n) (hn2 : n ≤ 200) (hl : len < 9) :
    Calls Tryd.prog 59 #[.slice A len c, .int .i64 (n : Int)] w fun e w' => e = .returned (.tuple #[.slice none 0 0, .int .i64 0, .int .i64 4]) ∧ w = w' := by
  go_enter Tryd.func59, Tryd.ntmps59
  go_wp2_with fail
  go_ret3
  exact ⟨rfl, rfl⟩

set_option maxRecDepth 100000 in
theorem packGet_wide (A : Option Addr) (len c n : Nat) (X : List UInt8) (m W : Nat) (w : World) (hX : BytesAt w A X) (hlen : X.length = len) (hl : len ≤ 1000000) (hl9 : 9 ≤ len) (hpos : 0 < n) (hn2 : n ≤ 200)
    (h0 : mid (valB X) (8 * len) 0 64 = m) (h1 : mid (valB X) (8 * len) 64 72 = W) (hW : 64 < W) (hW2 : W < 256) :
    Calls Tryd.prog 59 #[.slice A len c, .int .i64 (n : Int)] w fun e w' => e = .returned (.tuple #[.slice none 0 0, .int .i64 0, .int .i64 3]) ∧ Below w.heap.size w w' := by
  have HX := Lib.hid hlen
  have H0 := Lib.hid h0
  have H1 := Lib.hid h1
  clear hlen h0 h1
  go_enter Tryd.func59, Tryd.ntmps59
  go_wp2_with (first
    | (go_at_call 53; with_reducible refine (new_any A len c _).mono ?_; rintro e w1 ⟨rfl, hr1, hl1, hb1⟩; have hx1 := hX.below hb1)
    | (go_at_call 54; with_reducible refine (take_q w.heap.size A len c 0 64 64 X m _ hr1 hx1 HX.out (by omega) (by decide) (by omega) H0.out).mono ?_; rintro e w2 ⟨rfl, hr2, hg2⟩; have hx2 := bytes_past hr1 hx1 hg2; have hb2 := below_some hb1.size (Nat.le_refl _) hb1 hg2)
    | (go_at_call 54; with_reducible refine (take_q w.heap.size A len c 64 72 8 X W _ hr2 hx2 HX.out (by omega) (by decide) (by omega) H1.out).mono ?_; rintro e w3 ⟨rfl, hr3, hg3⟩; have hx3 := bytes_past hr2 hx2 hg3; have hb3 := below_some hb2.size (Nat.le_refl _) hb2 hg3))
  go_ret3
  exact ⟨rfl, hb3⟩

set_option maxRecDepth 100000 in
theorem packGet_short (A : Option Addr) (len c n : Nat) (X : List UInt8) (m W : Nat) (w : World) (hX : BytesAt w A X) (hlen : X.length = len) (hl : len ≤ 1000000) (hl9 : 9 ≤ len) (hpos : 0 < n) (hn2 : n ≤ 200)
    (h0 : mid (valB X) (8 * len) 0 64 = m) (h1 : mid (valB X) (8 * len) 64 72 = W) (hW : W ≤ 64) (hs : len < 9 + (n * W + 7) / 8) :
    Calls Tryd.prog 59 #[.slice A len c, .int .i64 (n : Int)] w fun e w' => e = .returned (.tuple #[.slice none 0 0, .int .i64 0, .int .i64 4]) ∧ Below w.heap.size w w' := by
  have hnw : n * W ≤ 200 * 64 := Nat.mul_le_mul hn2 hW
  obtain ⟨s, hs2⟩ : ∃ s, s = n * W := ⟨_, rfl⟩
  have hsi : (n : Int) * (W : Int) = (s : Int) := by rw [hs2]; push_cast; rfl
  rw [← hs2] at hs hnw
  have HX := Lib.hid hlen
  have H0 := Lib.hid h0
  have H1 := Lib.hid h1
  have HS2 := Lib.hid hs2
  clear hlen h0 h1 hs2
  go_enter Tryd.func59, Tryd.ntmps59
  go_wp2_with (first
    | (go_at_call 53; with_reducible refine (new_any A len c _).mono ?_; rintro e w1 ⟨rfl, hr1, hl1, hb1⟩; have hx1 := hX.below hb1)
    | (go_at_call 54; with_reducible refine (take_q w.heap.size A len c 0 64 64 X m _ hr1 hx1 HX.out (by omega) (by decide) (by omega) H0.out).mono ?_; rintro e w2 ⟨rfl, hr2, hg2⟩; have hx2 := bytes_past hr1 hx1 hg2; have hb2 := below_some hb1.size (Nat.le_refl _) hb1 hg2)
    | (go_at_call 54; with_reducible refine (take_q w.heap.size A len c 64 72 8 X W _ hr2 hx2 HX.out (by omega) (by decide) (by omega) H1.out).mono ?_; rintro e w3 ⟨rfl, hr3, hg3⟩; have hx3 := bytes_past hr2 hx2 hg3; have hb3 := below_some hb2.size (Nat.le_refl _) hb2 hg3))
  go_ret3
  exact ⟨rfl, hb3⟩

/-- pack.Get of whatever bytes and count up to 200. -/
theorem packGet_any (A : Option Addr) (len c n : Nat) (X : List UInt8) (w : World) (hX : BytesAt w A X) (hlen : X.length = len) (hl : len ≤ 1000000) (hc : len ≤ c) (hcm : c ≤ maxLen) (hn2 : n ≤ 200) (ns : List Nat) (k er : Nat) (hu : unpk X n = (ns, k, er)) :
    Calls Tryd.prog 59 #[.slice A len c, .int .i64 (n : Int)] w fun e w' => ∃ A' c', e = .returned (.tuple #[.slice A' ns.length c', .int .i64 (k : Int), .int .i64 (er : Int)]) ∧ NatsAt w' A' ns ∧ Below w.heap.size w w' := by
  subst hlen
  have hnone : ∀ w' : World, NatsAt w' none [] := fun _ h => absurd rfl h
  unfold unpk at hu
  by_cases h0 : n = 0
  · subst h0
    simp only [if_true, Prod.mk.injEq] at hu
    obtain ⟨rfl, rfl, rfl⟩ := hu
    refine (packGet_zero A _ c w).mono ?_
    rintro e w' ⟨rfl, rfl⟩
    exact ⟨none, 0, rfl, hnone _, Below.refl _ _⟩
  rw [if_neg h0] at hu
  by_cases h9 : X.length < 9
  · rw [if_pos h9] at hu
    simp only [Prod.mk.injEq] at hu
    obtain ⟨rfl, rfl, rfl⟩ := hu
    refine (packGet_few A _ c n w (by omega) hn2 h9).mono ?_
    rintro e w' ⟨rfl, rfl⟩
    exact ⟨none, 0, rfl, hnone _, Below.refl _ _⟩
  rw [if_neg h9] at hu
  obtain ⟨m, hm⟩ : ∃ m, mid (valB X) (8 * X.length) 0 64 = m := ⟨_, rfl⟩
  obtain ⟨W, hW⟩ : ∃ W, mid (valB X) (8 * X.length) 64 72 = W := ⟨_, rfl⟩
  have hW2 : W < 256 := by rw [← hW]; exact mid_lt _ _ _ _
  simp only [hm, hW] at hu
  by_cases h64 : 64 < W
  · rw [if_pos h64] at hu
    simp only [Prod.mk.injEq] at hu
    obtain ⟨rfl, rfl, rfl⟩ := hu
    refine (packGet_wide A _ c n X m W w hX rfl hl (by omega) (by omega) hn2 hm hW h64 hW2).mono ?_
    rintro e w' ⟨rfl, hb⟩
    exact ⟨none, 0, rfl, hnone _, hb⟩
  rw [if_neg h64] at hu
  by_cases hs : X.length < 9 + (n * W + 7) / 8
  · rw [if_pos hs] at hu
    simp only [Prod.mk.injEq] at hu
    obtain ⟨rfl, rfl, rfl⟩ := hu
    refine (packGet_short A _ c n X m W w hX rfl hl (by omega) (by omega) hn2 hm hW (by omega) hs).mono ?_
    rintro e w' ⟨rfl, hb⟩
    exact ⟨none, 0, rfl, hnone _, hb⟩
  rw [if_neg hs] at hu
  have hk : ∀ k (h : k < (numsAt X m W n).length), (m + mid (valB X) (8 * X.length) (72 + k * W) (72 + k * W + W)) % 18446744073709551616 = (numsAt X m W n)[k] := fun k h => by rw [numsAt_get]; rfl
  by_cases he : pk (numsAt X m W n) = X.take (9 + (n * W + 7) / 8)
  · rw [if_pos he] at hu
    simp only [Prod.mk.injEq] at hu
    obtain ⟨rfl, rfl, rfl⟩ := hu
    rw [numsAt_length]
    exact packGet_good A _ c n X _ m W _ w hX rfl hl hc hcm (by omega) hn2 hm hW (by omega) rfl (by omega) (numsAt_length _ _ _ _) (numsAt_lt _ _ _ _) hk he
  · rw [if_neg he] at hu
    simp only [Prod.mk.injEq] at hu
    obtain ⟨rfl, rfl, rfl⟩ := hu
    refine (packGet_bad A _ c n X _ m W _ w hX rfl hl hc hcm (by omega) hn2 hm hW (by omega) rfl (by omega) (numsAt_length _ _ _ _) (numsAt_lt _ _ _ _) hk he).mono ?_
    rintro e w' ⟨rfl, hb⟩
    exact ⟨none, 0, rfl, hnone _, hb⟩
end Go.Proofs.YtocddhokjhfaaaaDoor

namespace BitM
theorem sub_back (a b : Int) (hb : -9223372036854775808 ≤ b ∧ b ≤ 9223372036854775807) : Go.RowKit.wrap64 (a + Go.RowKit.wrap64 (b - a)) = b := by
  unfold Go.RowKit.wrap64
  omega
theorem tby_len {zs : List Int} (hne : zs ≠ []) : (tby zs).length = ((tt zs (zs.length - 1)).1 + 7) / 8 := by unfold tby; rw [if_neg hne, length_bytesW]
end BitM
namespace Go.Proofs.YtocddhokjhfaaaaDoor
open Go.RowKit BitM
set_option linter.unusedVariables false

theorem infoI64 : (Tryd.prog.info? 2).map (fun i => (i.zero, i.size, i.bytes)) = some (some (.int .i64 0), 1, 8) := by kernel_rfl
theorem iv_one (zs : List Int) : ∀ u ∈ zs.map iv, u.oneCell' = true := by
  intro u hu
  obtain ⟨z, _, rfl⟩ := List.mem_map.1 hu
  rfl
def OwnT (w : World) (base : Nat) (v : Value) (zs : List Int) : Prop := OwnV w base v 2 (zs.map iv)
theorem OwnT.addr {w : World} {base n c : Nat} {A : Option Addr} {zs : List Int} (h : OwnT w base (.slice A n c) zs) (hn : 0 < n) : ∃ gl, A = some ⟨gl, 0, none⟩ := by
  rcases OwnV.cases h with ⟨h1, _⟩ | ⟨g, cap, cur, h1, _⟩
  · injection h1 with h1 h2 h3
    omega
  · injection h1 with h1 h2 h3
    exact ⟨g, h1⟩
theorem OwnT.cellk {w : World} {base gl n cl : Nat} {zs : List Int} (h : OwnT w base (.slice (some ⟨gl, 0, none⟩) n cl) zs) (k : Nat) (lv : Int) (hk : k < n) (hlv : zs.getD k 0 = lv) : w.cell? ⟨gl, k, none⟩ = some (.int .i64 lv) := by
  obtain ⟨_, h2, _, _, _, h6, _⟩ := OwnV.row h
  have hk2 : k < zs.length := by rw [List.length_map] at h2; omega
  have := h6 k (by rw [List.length_map]; exact hk2)
  rw [this, ← hlv, List.getD_eq_getElem?_getD, List.getElem?_eq_getElem hk2]
  simp [iv]
theorem OwnT.besideR {w w' : World} {base g : Nat} {v : Value} {zs : List Int} (h : OwnT w base v zs) (hg : w.grownBy w' (some g)) (hlt : g < base) : OwnT w' base v zs :=
  OwnV.beside h hg (fun q hq e => by injection e with e; have := (OwnV.block h q hq).1; omega)
theorem RdAt.besideT {w w' : World} {base g : Nat} {A : Option Addr} {n c p : Nat} {bad : Bool} {v : Value} {zs : List Int} (hr : RdAt w g A n c p bad) (h : OwnT w base v zs) (hg : w.grownBy w' v.ownBlock) (hlt : g < base) : RdAt w' g A n c p bad := by
  unfold RdAt at *
  rw [hg.block g (Array.getElem?_eq_some_iff.1 hr).1 (fun e => by have := (OwnV.block h g e.symm).1; omega)]
  exact hr
theorem RdAt.allocT {w : World} {g : Nat} {A : Option Addr} {n c p : Nat} {bad : Bool} (hr : RdAt w g A n c p bad) (o : Obj) : RdAt (w.alloc o) g A n c p bad := by
  unfold RdAt at *
  rw [Below.heap_alloc w o g (Array.getElem?_eq_some_iff.1 hr).1]
  exact hr
theorem take_snocT (zs : List Int) (k : Nat) (h : k + 1 < zs.length) : zs.take (k + 1) ++ [zs.getD (k + 1) 0] = zs.take (k + 2) := by
  rw [List.take_add_one (i := k + 1), List.getD_eq_getElem?_getD, List.getElem?_eq_getElem h]
  rfl
theorem take_getDT (zs : List Int) (k : Nat) (h : k < zs.length) : (zs.take (k + 1)).getD k 0 = zs.getD k 0 := by
  rw [List.getD_eq_getElem?_getD, List.getD_eq_getElem?_getD, List.getElem?_take]
  rw [if_pos (by omega)]

theorem taken_ok (Al : Option Addr) (nl cl : Nat) (A : Option Addr) (len c g P sz : Nat) (w : World) (hr : RdAt w g A len c P false) (hl : len ≤ 1000000) (hP : P ≤ 8 * len) (hsz : sz = (P + 7) / 8) :
    Calls Tryd.prog 55 #[.slice Al nl cl, .slice A len c, .pointer (some ⟨g, 0, none⟩)] w fun e w' => e = .returned (.tuple #[.slice Al nl cl, .int .i64 (sz : Int), .int .i64 0]) ∧ Below w.heap.size w w' := by
  obtain ⟨q, hq⟩ : ∃ q, q = 8 * len - P := ⟨_, rfl⟩
  have hqi : ((8 * len - P : Nat) : Int) = (q : Int) := by rw [hq]
  have hszi : (len : Int) - (q : Int) / 8 = (sz : Int) := by omega
  have HQ := Lib.hid hqi
  clear hq hqi hsz
  go_enter Tryd.func55, Tryd.ntmps55
  go_wp2_with (first
    | (go_at_call 66; with_reducible refine (bad_any g A len c P false _ hr).mono ?_; rintro e w7 ⟨rfl, rfl⟩)
    | (go_at_call 65; with_reducible refine (left_lit g A len c P false (q : Int) _ HQ.out.symm hr (by omega) hP).mono ?_; rintro e w8 ⟨rfl, hb8⟩))
  go_ret3
  exact ⟨rfl, hb8⟩

set_option maxHeartbeats 1000000 in
set_option maxRecDepth 100000 in
theorem getTwice_good (A : Option Addr) (len c n : Nat) (X : List UInt8) (zs : List Int) (sz : Nat) (w : World) (hX : BytesAt w A X) (hlen : X.length = len) (hl : len ≤ 1000000) (hpos : 0 < n) (hn2 : n ≤ 200)
    (hns : zs.length = n) (hm : ∀ v ∈ zs, -9223372036854775808 ≤ v ∧ v ≤ 9223372036854775807) (hF : Bits X len (tt zs (n - 1))) (hsz : sz = (tby zs).length) (hk : KindsAt w) :
    Calls Tryd.prog 38 #[.slice A len c, .int .i64 (n : Int)] w fun e w' => ∃ A' c', e = .returned (.tuple #[.slice A' n c', .int .i64 (sz : Int), .int .i64 0]) ∧ TimesAt w' A' zs ∧ n ≤ c' ∧ c' ≤ maxLen ∧ Below w.heap.size w w' := by
  obtain ⟨n1, hn1⟩ : ∃ n1, n1 = n - 1 := ⟨_, rfl⟩
  have hsub : (n : Int) - 1 = (n1 : Int) := by omega
  rw [← hn1] at hF
  have hgD : ∀ j, -9223372036854775808 ≤ zs.getD j 0 ∧ zs.getD j 0 ≤ 9223372036854775807 := by
    intro j
    rcases Nat.lt_or_ge j zs.length with h | h
    · rw [List.getD_eq_getElem?_getD, List.getElem?_eq_getElem h]
      exact hm _ (List.getElem_mem h)
    · rw [List.getD_eq_getElem?_getD, List.getElem?_eq_none h]
      decide
  obtain ⟨z0, hz0⟩ : ∃ v, v = zs.getD 0 0 := ⟨_, rfl⟩
  have hne : zs ≠ [] := by intro h; subst h; simp at hns; omega
  have hE0 : Ext (stp (0, 0) (u64 z0, 64)) (tt zs n1) := by
    have := tt_exts zs 0 n1
    rw [Nat.zero_add] at this
    rw [hz0]
    exact this
  have hv064 : u64 z0 = u64 z0 % 2 ^ wi 64 := by
    rw [show wi 64 = 64 by decide]
    exact (Nat.mod_eq_of_lt (u64_lt z0)).symm
  have hxtz : (stp (0, 0) (u64 z0, 64)).1 = (tt zs 0).1 := by rw [hz0]; rfl
  have htk1 : [z0].map iv = (zs.take 1).map iv := by
    rw [hz0]
    cases zs with
    | nil => exact absurd rfl hne
    | cons a r => rfl
  have hszF : sz = ((tt zs n1).1 + 7) / 8 := by rw [hsz, tby_len hne, hns, ← hn1]
  have hr0 : -9223372036854775808 ≤ z0 ∧ z0 ≤ 9223372036854775807 := by rw [hz0]; exact hgD 0
  have hcv0 : wrap64 ((u64 z0 : Nat) : Int) = z0 := i64_u64 z0 hr0.1 hr0.2
  have HXB := Lib.hid hX
  have HXL := Lib.hid hlen
  have HNS := Lib.hid hns
  have HF := Lib.hid hF
  have HK := Lib.hid hk
  have HN1 := Lib.hid hn1
  have HGD := Lib.hid hgD
  have HE0 := Lib.hid hE0
  have HV064 := Lib.hid hv064
  have HXTZ := Lib.hid hxtz
  have HTK1 := Lib.hid htk1
  have HSZF := Lib.hid hszF
  have hgk := hk.lt
  clear hX hlen hns hm hF hsz hk hn1 hgD hE0 hv064 hxtz htk1 hszF hz0 hne hr0
  go_enter Tryd.func38, Tryd.ntmps38
  go_wp2_with (first
    | (go_at_call 53; with_reducible refine (new_any A len c _).mono ?_; rintro e w1 ⟨rfl, hr1, hl1, hb1⟩; have hx1 := HXB.out.below hb1)
    | (go_at_call 54; with_reducible refine (take_ext w.heap.size A len c X (tt zs n1) (0, 0) (u64 z0) 64 0 (tt zs 0).1 (u64 z0) _ hr1 hx1 HXL.out hl HF.out HE0.out rfl HXTZ.out.symm HV064.out).mono ?_; rintro e w2 ⟨rfl, hr2, hg2⟩; have hb2 := below_some hb1.size (Nat.le_refl _) hb1 hg2; have hs2 := hg2.size))
  try rw [hcv0]
  have hle2 : w.heap.size + 1 ≤ w2.heap.size := by omega
  have ho2 : OwnT (w2.alloc (.cells #[.int .i64 z0] 2)) (w.heap.size + 1) (.slice (some ⟨w2.heap.size, 0, none⟩) 1 1) (zs.take 1) := by
    unfold OwnT
    rw [← HTK1.out]
    exact OwnV.new w2 2 [iv z0] (w.heap.size + 1) hle2 (by unfold maxLen; simp)
  have hr2' := RdAt.allocT hr2 (.cells #[.int .i64 z0] 2)
  have hb2' : Below w.heap.size w (w2.alloc (.cells #[.int .i64 z0] 2)) := hb2.alloc hb2.size _
  clear hr1 hx1 hb1 hg2 hr2 hb2
  go_loopw [8, 9, 19] (fun l st i wr => ∃ (k P cl : Nat) (s : Int) (Al : Option Addr), k ≤ n1 ∧ i = .int .i64 k ∧ st = .int .i64 s ∧ l = .slice Al (k + 1) cl ∧ Hid (1 ≤ k → s = i64 (zs.getD k 0 - zs.getD (k - 1) 0)) ∧ Hid (P = (tt zs k).1) ∧ RdAt wr w.heap.size A len c P false ∧ OwnT wr (w.heap.size + 1) (.slice Al (k + 1) cl) (zs.take (k + 1)) ∧ Below w.heap.size w wr) (fun _ _ i _ => n1 - (intOf i).toNat)
  case atStart => exact ⟨0, _, 1, 0, _, by omega, rfl, rfl, rfl, Lib.hid (fun h => by omega), Lib.hid rfl, hr2', ho2, hb2'⟩
  case round =>
    obtain ⟨k, P, cl, s, Al, hk, rfl, rfl, rfl, HS, HP, hr, ho, hb⟩ := hrel
    obtain ⟨gl, rfl⟩ := OwnT.addr ho (by omega)
    by_cases hlt : k < n1
    · have hkn : k + 1 < zs.length := by rw [HNS.out]; have := HN1.out; omega
      obtain ⟨ds, hds⟩ : ∃ ds, ds = zs.take (k + 1) := ⟨_, rfl⟩
      obtain ⟨ds2, hds2⟩ : ∃ ds, ds = zs.take (k + 2) := ⟨_, rfl⟩
      obtain ⟨lv, hlv⟩ : ∃ lv, lv = zs.getD k 0 := ⟨_, rfl⟩
      obtain ⟨nv, hnv⟩ : ∃ nv, nv = zs.getD (k + 1) 0 := ⟨_, rfl⟩
      obtain ⟨s2, hs2⟩ : ∃ s2, s2 = i64 (nv - lv) := ⟨_, rfl⟩
      have hrn : -9223372036854775808 ≤ nv ∧ nv ≤ 9223372036854775807 := by rw [hnv]; exact HGD.out (k + 1)
      have hadd : wrap64 (lv + s2) = nv := by rw [hs2]; exact sub_back lv nv hrn
      have HLV : Hid (ds.getD k 0 = lv) := Lib.hid (by rw [hds, take_getDT zs k (by omega), hlv])
      have HDS2 : Hid (ds.map iv ++ [iv nv] = ds2.map iv) := Lib.hid (by rw [hds2, ← take_snocT zs k hkn, hds, hnv]; simp)
      have hdl : ds.length = k + 1 := by rw [hds, List.length_take]; omega
      have HL3 : Hid ((ds2.map iv).length = k + 1 + 1) := Lib.hid (by rw [hds2, List.length_map, List.length_take]; omega)
      have hl1 : ((ds.map iv).length + 1) * 8 ≤ 140737488355328 := by rw [List.length_map, hdl]; omega
      have hl2 : (ds.map iv).length + 1 ≤ maxLen := by rw [List.length_map, hdl]; unfold maxLen; omega
      have HS2 : Hid (1 ≤ k + 1 → s2 = i64 (zs.getD (k + 1) 0 - zs.getD (k + 1 - 1) 0)) := Lib.hid (fun _ => by rw [hs2, hnv, hlv]; rfl)
      have HDSE := Lib.hid hds
      have HDS2E := Lib.hid hds2
      have hE := tt_exts zs (k + 1) (n1 - (k + 1))
      rw [show k + 1 + (n1 - (k + 1)) = n1 by omega] at hE
      rw [← hds] at ho
      have hxr := HXB.out.below hb
      have hkr := HK.out.below hb
      by_cases hk0 : k = 0
      · subst hk0
        have hE1 : Ext (stp (tt zs 0) (u64 s2, 64)) (tt zs n1) := by rw [hs2, hnv, hlv]; exact hE
        have hq : (tt zs 1).1 = (stp (tt zs 0) (u64 s2, 64)).1 := by rw [hs2, hnv, hlv]; rfl
        have hM : u64 s2 = u64 s2 % 2 ^ wi 64 := by rw [show wi 64 = 64 by decide]; exact (Nat.mod_eq_of_lt (u64_lt s2)).symm
        have hsr := i64_range (nv - lv)
        rw [← hs2] at hsr
        have hcs : wrap64 ((u64 s2 : Nat) : Int) = s2 := i64_u64 s2 hsr.1 hsr.2
        have HE1 := Lib.hid hE1
        have HQ := Lib.hid hq
        have HM := Lib.hid hM
        clear hds hds2 hlv hnv hs2 hE hE1 hq hM hsr hdl
        rw [show ((0 : Nat) : Int) = 0 from rfl]
        have hc60 : True := trivial
        go_wp2_with (first
          | (go_at_call 54; with_reducible refine (take_ext w.heap.size A len c X (tt zs n1) (tt zs 0) (u64 s2) 64 P (tt zs 1).1 (u64 s2) _ hr hxr HXL.out hl HF.out HE1.out HP.out HQ.out HM.out).mono ?_; rintro e w6 ⟨rfl, hr6, hg6⟩; have hb6 := below_some hb.size (Nat.le_refl _) hb hg6; have ho6 := OwnT.besideR ho hg6 (by omega); have hc6 := OwnT.cellk ho6 0 lv (by omega) HLV.out)
          | (at_builtin; refine wpList_append_vz rfl (.tmp 31) (.tmp 38) 23 rfl Tryd.underlying23 _ 8 infoI64 rfl rfl (OwnV.alloc ho6 _) _ _ 1 [iv nv] (ds2.map iv) rfl rfl (cellsAt_one _ _ _ _ rfl) (iv_one [nv]) HDS2.out hl1 hl2 (by have := hb6.size; have := hg6.size; simp; omega) ?_; rw [HL3.out]; intro A3 c3 w7 ho7 hg7))
        go_roundw
        case rel =>
          have hbA : Below w.heap.size w (w6.alloc (.cells #[.int .i64 nv] 2)) := hb6.alloc hb6.size _
          have hb7 := (OwnV.alloc ho6 _).belowGrown (B := w.heap.size) (by omega) (by have := hbA.size; exact this) hbA hg7
          have hr7 := RdAt.besideT (RdAt.allocT hr6 _) (OwnV.alloc ho6 _) hg7 (by omega)
          exact ⟨0 + 1, _, c3, s2, A3, by omega, by go_num, rfl, rfl, HS2, Lib.hid rfl, hr7, by rw [← HDS2E.out]; exact ho7, hb7⟩
        case measure => simp [intOf]; omega
      · have hE1 : Ext ((tch (turn zs k)).foldl stp (tt zs k)) (tt zs n1) := by
          obtain ⟨j, rfl⟩ : ∃ j, k = j + 1 := ⟨k - 1, by omega⟩
          exact hE
        have hq : (tt zs (k + 1)).1 = ((tch (turn zs k)).foldl stp (tt zs k)).1 := by
          obtain ⟨j, rfl⟩ : ∃ j, k = j + 1 := ⟨k - 1, by omega⟩
          rfl
        obtain ⟨d, hd⟩ : ∃ d, d = turn zs k := ⟨_, rfl⟩
        rw [← hd] at hE1 hq
        have hdr : -9223372036854775808 ≤ d ∧ d ≤ 9223372036854775807 := by rw [hd]; exact i64_range _
        have hsr := i64_range (nv - lv)
        rw [← hs2] at hsr
        have hss := HS.out (by omega)
        have hsd : wrap64 (s + d) = s2 := by
          have h1 : d = i64 (s2 - s) := by rw [hd, hs2, hnv, hlv, hss]; rfl
          rw [h1]
          exact sub_back s s2 hsr
        have hkz : ((k : Int) == 0) = false := by rw [beq_eq_false_iff_ne]; omega
        have hd1 := hdr.1
        have hd2 := hdr.2
        have HE1 := Lib.hid hE1
        have HQ := Lib.hid hq
        clear hds hds2 hlv hnv hs2 hE hE1 hq hd hdr hsr hss hdl
        go_wp2_with (first
          | (go_at_call 58; with_reducible refine (takeTurn_good w.heap.size A len c d hd1 hd2 X (tt zs n1) (tt zs k) P (tt zs (k + 1)).1 _ hr hxr HXL.out hl HF.out HE1.out HP.out HQ.out hkr hgk).mono ?_; rintro e w6 ⟨rfl, hr6, hg6⟩; have hb6 := below_some hb.size (Nat.le_refl _) hb hg6; have ho6 := OwnT.besideR ho hg6 (by omega); have hc6 := OwnT.cellk ho6 k lv (by omega) HLV.out)
          | (at_builtin; refine wpList_append_vz rfl (.tmp 31) (.tmp 38) 23 rfl Tryd.underlying23 _ 8 infoI64 rfl rfl (OwnV.alloc ho6 _) _ _ 1 [iv nv] (ds2.map iv) rfl rfl (cellsAt_one _ _ _ _ rfl) (iv_one [nv]) HDS2.out hl1 hl2 (by have := hb6.size; have := hg6.size; simp; omega) ?_; rw [HL3.out]; intro A3 c3 w7 ho7 hg7))
        go_roundw
        case rel =>
          have hbA : Below w.heap.size w (w6.alloc (.cells #[.int .i64 nv] 2)) := hb6.alloc hb6.size _
          have hb7 := (OwnV.alloc ho6 _).belowGrown (B := w.heap.size) (by omega) (by have := hbA.size; exact this) hbA hg7
          have hr7 := RdAt.besideT (RdAt.allocT hr6 _) (OwnV.alloc ho6 _) hg7 (by omega)
          exact ⟨k + 1, _, c3, s2, A3, by omega, by go_num, rfl, rfl, HS2, Lib.hid rfl, hr7, by rw [← HDS2E.out]; exact ho7, hb7⟩
        case measure => simp [intOf]; omega
    · obtain rfl : k = n1 := by omega
      have hkn : k + 1 = n := by have := HN1.out; omega
      have htk : zs.take (k + 1) = zs := by rw [hkn, ← HNS.out, List.take_length]
      rw [htk] at ho
      have htimes : TimesAt wr (some ⟨gl, 0, none⟩) zs := OwnV.bytes ho
      have hcap := OwnV.caps ho
      have hszP : sz = (P + 7) / 8 := by rw [HP.out]; exact HSZF.out
      have hPl : P ≤ 8 * len := by rw [HP.out]; exact HF.out.1
      have HKN := Lib.hid hkn
      have HSZP := Lib.hid hszP
      have HPL := Lib.hid hPl
      have HCAP := Lib.hid hcap
      clear hkn htk hszP hPl hcap
      go_wp2_with (go_at_call 55; with_reducible refine (taken_ok (some ⟨gl, 0, none⟩) (k + 1) cl A len c w.heap.size P sz _ hr hl HPL.out HSZP.out).mono ?_; rintro e w7 ⟨rfl, hb7⟩)
      go_ret3
      exact ⟨_, cl, by rw [← HKN.out]; rfl, htimes.below hb7, by rw [← HKN.out]; exact HCAP.out.2.1, HCAP.out.2.2.1, hb.trans (hb7.mono hb.size)⟩
end Go.Proofs.YtocddhokjhfaaaaDoor

namespace Go.Proofs.YtocddhokjhfaaaaDoor
open Go.RowKit BitM VarM
set_option linter.unusedVariables false

theorem isWay_any (z : Int) (h0 : 0 ≤ z) (h3 : z ≤ 3) (w : World) : Calls Tryd.prog 19 #[.int .i64 z] w fun e w' => e = .returned (.bool true) ∧ w = w' := by
  have d0 : decide (0 ≤ z) = true := by rw [decide_eq_true_iff]; exact h0
  have d3 : decide (z ≤ 3) = true := by rw [decide_eq_true_iff]; exact h3
  go_enter Tryd.func19, Tryd.ntmps19
  go_wp2_with fail
  go_ret
  exact ⟨rfl, rfl⟩

theorem same_times (A B : Option Addr) (n c d : Nat) (zs : List Int) (w : World) (hn : zs.length = n) (hx : TimesAt w A zs) (hy : TimesAt w B zs) (hl : n ≤ 100000000) :
    Calls Tryd.prog 11 #[.slice A n c, .slice B n d] w fun e w' => e = .returned (.bool true) ∧ Below w.heap.size w w' := by
  subst hn
  go_enter Tryd.func11, Tryd.ntmps11
  go_wp2_with fail
  go_loopw [5] (fun i wr => ∃ k : Nat, k ≤ zs.length ∧ i = .int .i64 k ∧ Below w.heap.size w wr) (fun i _ => zs.length - (intOf i).toNat)
  case atStart => exact ⟨0, by omega, rfl, Below.refl _ _⟩
  case round =>
    obtain ⟨k, hk, rfl, hb⟩ := hrel
    by_cases hlt : k < zs.length
    · have hne : zs ≠ [] := by intro h; subst h; simp at hlt
      obtain ⟨b, off, rfl⟩ := hx.addr hne
      obtain ⟨b2, off2, rfl⟩ := hy.addr hne
      have h1 := (hx.below hb).cell k hlt
      have h2 := (hy.below hb).cell k hlt
      obtain ⟨v, hv⟩ : ∃ v, v = zs.getD k 0 := ⟨_, rfl⟩
      rw [← hv] at h1 h2
      clear hne hv
      go_wp2_with fail
      go_quiet (fail)
      go_wp2_with fail
      go_roundw
      case rel => exact ⟨k + 1, by omega, by go_num, below_drewN hb _⟩
      case measure => simp [intOf]; omega
    · go_wp2_with fail
      go_ret
      exact ⟨rfl, hb⟩

theorem zig10 (w : World) : Calls Tryd.prog 33 #[.int .i64 10] w fun e w' => e = .returned (.int .u64 20) ∧ w = w' := zig_any' 10 (by omega) (by omega) 20 rfl w
theorem zag20 (w : World) : Calls Tryd.prog 57 #[.int .u64 20] w fun e w' => e = .returned (.int .i64 10) ∧ w = w' := zag_any' 20 (by omega) 10 rfl w
theorem vput20 : vput 20 = [20] := by rw [vput_low (by omega)]; rfl
theorem vput3 : vput 3 = [3] := by rw [vput_low (by omega)]; rfl
theorem put20 (w : World) : Calls Tryd.prog 32 #[.slice none 0 0, .int .u64 20] w fun e w' => ∃ A' c', e = .returned (.slice A' 1 c') ∧ BytesAt w' A' [20] ∧ 1 ≤ c' ∧ c' ≤ maxLen ∧ Below w.heap.size w w' := put_nil w 20 (by omega) [20] vput20
theorem put3 (A : Option Addr) (c : Nat) (w : World) (hx : BytesAt w A [20]) : Calls Tryd.prog 32 #[.slice A 1 c, .int .u64 3] w fun e w' => ∃ A' c', e = .returned (.slice A' 2 c') ∧ BytesAt w' A' [20, 3] ∧ 2 ≤ c' ∧ c' ≤ maxLen ∧ Below w.heap.size w w' := by
  have h0 : A = none → 1 = 0 ∧ c = 0 := by
    intro h
    obtain ⟨b, off, e, _⟩ := hx (by simp)
    rw [h] at e
    cases e
  refine (put_more A 1 c [20] w rfl hx (by omega) h0 3 (by omega)).mono ?_
  rintro e w' ⟨A', c', he, h1, h2, h3, _, h5⟩
  rw [vput3] at he h1 h2
  exact ⟨A', c', he, h1, h2, h3, h5⟩
theorem get20 (A : Option Addr) (c : Nat) (w : World) (hx : BytesAt w A [20, 3]) : Calls Tryd.prog 56 #[.slice A 2 c] w fun e w' => e = .returned (.tuple #[.int .u64 20, .int .i64 1, .int .i64 0]) ∧ w = w' :=
  get_more A 2 c [20, 3] [3] w 20 1 (by rw [vput20]; rfl) (by rw [vput20]; rfl) rfl hx (by omega)
theorem get3 (A : Option Addr) (c : Nat) (w : World) (hx : BytesAt w A [3]) : Calls Tryd.prog 56 #[.slice A 1 c] w fun e w' => e = .returned (.tuple #[.int .u64 3, .int .i64 1, .int .i64 0]) ∧ w = w' :=
  get_more A 1 c [3] [] w 3 1 (by rw [vput3]; rfl) (by rw [vput3]; rfl) rfl hx (by omega)

set_option maxRecDepth 100000 in
theorem putDelta_ex (A : Option Addr) (c : Nat) (w : World) (hx : TimesAt w A [10, 13]) (hc : 2 ≤ c) (hcm : c ≤ maxLen) :
    Calls Tryd.prog 21 #[.slice A 2 c] w fun e w' => ∃ A' c', e = .returned (.slice A' 2 c') ∧ BytesAt w' A' [20, 3] ∧ 2 ≤ c' ∧ c' ≤ maxLen ∧ Below w.heap.size w w' := by
  obtain ⟨b, off, rfl⟩ := hx.addr (by simp)
  have c0 : w.cell? ⟨b, off, none⟩ = some (.int .i64 10) := hx.cell 0 (by decide)
  have c1 : w.cell? ⟨b, off + 1, none⟩ = some (.int .i64 13) := hx.cell 1 (by decide)
  have hbl := World.block_lt_of_cell? _ _ c0
  have hc1 : ¬ c = 1 := by omega
  unfold maxLen at hcm
  clear hx
  go_enter Tryd.func21, Tryd.ntmps21
  go_wp2_with (first
    | (go_at_call 33; refine (zig10 _).mono ?_; rintro e w1 ⟨rfl, rfl⟩)
    | (go_at_call 32; with_reducible refine (put20 _).mono ?_; rintro e w1 ⟨A1, c1', rfl, hx1, hl1, hm1, hb1⟩))
  go_loopw [3, 14] (fun b i wr => Below w.heap.size w wr ∧ ((i = .int .i64 0 ∧ ∃ A' c', b = .slice A' 1 c' ∧ BytesAt wr A' [20] ∧ 1 ≤ c' ∧ c' ≤ maxLen) ∨ (i = .int .i64 1 ∧ ∃ A' c', b = .slice A' 2 c' ∧ BytesAt wr A' [20, 3] ∧ 2 ≤ c' ∧ c' ≤ maxLen))) (fun _ i _ => 1 - (intOf i).toNat)
  case atStart => exact ⟨hb1, .inl ⟨rfl, A1, c1', rfl, hx1, hl1, hm1⟩⟩
  case round =>
    obtain ⟨hb, ⟨rfl, A', c', rfl, hx', hl', hm'⟩ | ⟨rfl, A', c', rfl, hx', hl', hm'⟩⟩ := hrel
    · have d0 := (hb.cell (p := ⟨b, off, none⟩) hbl).trans c0
      have d1 := (hb.cell (p := ⟨b, off + 1, none⟩) hbl).trans c1
      go_wp2_with (go_at_call 32; with_reducible refine (put3 A' c' _ hx').mono ?_; rintro e w2 ⟨A2, c2, rfl, hx2, hl2, hm2, hb2⟩)
      go_roundw
      case rel => exact ⟨hb.trans (hb2.mono hb.size), .inr ⟨rfl, A2, c2, rfl, hx2, hl2, hm2⟩⟩
      case measure => simp [intOf]
    · go_wp2_with fail
      go_ret
      exact ⟨A', c', rfl, hx', hl', hm', hb⟩

set_option maxRecDepth 100000 in
theorem getDelta_ex (A : Option Addr) (c : Nat) (w : World) (hx : BytesAt w A [20, 3]) (hc : 2 ≤ c) (hcm : c ≤ maxLen) :
    Calls Tryd.prog 37 #[.slice A 2 c, .int .i64 2] w fun e w' => ∃ A' c', e = .returned (.tuple #[.slice A' 2 c', .int .i64 2, .int .i64 0]) ∧ TimesAt w' A' [10, 13] ∧ 2 ≤ c' ∧ c' ≤ maxLen ∧ Below w.heap.size w w' := by
  obtain ⟨b, off, rfl, _⟩ := hx (by simp)
  have hx1 : BytesAt w (some ⟨b, off + 1, none⟩) [3] := hx.cut 1 (some ⟨b, off + 1, none⟩) (fun _ => by rw [Option.map_some, Addr.add_lit])
  have hc1 : ¬ c = 1 := by omega
  unfold maxLen at hcm
  have ho2 : OwnT (w.alloc (.cells #[.int .i64 10] 2)) w.heap.size (.slice (some ⟨w.heap.size, 0, none⟩) 1 1) [10] := OwnV.new w 2 [iv 10] w.heap.size (Nat.le_refl _) (by unfold maxLen; simp)
  have hb0 : Below w.heap.size w (w.alloc (.cells #[.int .i64 10] 2)) := (Below.refl _ _).alloc (Nat.le_refl _) _
  go_enter Tryd.func37, Tryd.ntmps37
  go_wp2_with (first
    | (go_at_call 56; with_reducible refine (get20 _ c _ hx).mono ?_; rintro e w1 ⟨rfl, rfl⟩)
    | (go_at_call 57; refine (zag20 _).mono ?_; rintro e w1 ⟨rfl, rfl⟩))
  go_loopw [8, 10, 29] (fun sz l i wr => Below w.heap.size w wr ∧ ((i = .int .i64 0 ∧ sz = .int .i64 1 ∧ ∃ A' c', l = .slice A' 1 c' ∧ OwnT wr w.heap.size (.slice A' 1 c') [10]) ∨ (i = .int .i64 1 ∧ sz = .int .i64 2 ∧ ∃ A' c', l = .slice A' 2 c' ∧ OwnT wr w.heap.size (.slice A' 2 c') [10, 13]))) (fun _ _ i _ => 1 - (intOf i).toNat)
  case atStart => exact ⟨hb0, .inl ⟨rfl, rfl, _, _, rfl, ho2⟩⟩
  case round =>
    obtain ⟨hb, ⟨rfl, rfl, A', c', rfl, ho⟩ | ⟨rfl, rfl, A', c', rfl, ho⟩⟩ := hrel
    · obtain ⟨gl, rfl⟩ := OwnT.addr ho (by omega)
      have hcl := OwnT.cellk ho 0 10 (by omega) rfl
      have hx1r := hx1.below hb
      have HDS2 : Hid (([10] : List Int).map iv ++ [iv 13] = ([10, 13] : List Int).map iv) := Lib.hid rfl
      have HL3 : Hid ((([10, 13] : List Int).map iv).length = 2) := Lib.hid rfl
      go_wp2_with (first
        | (go_at_call 56; with_reducible refine (get3 _ _ _ hx1r).mono ?_; rintro e w1 ⟨rfl, rfl⟩)
        | (at_builtin; refine wpList_append_vz rfl (.tmp 43) (.tmp 51) 23 rfl Tryd.underlying23 _ 8 infoI64 rfl rfl (OwnV.alloc ho _) _ _ 1 [iv 13] (([10, 13] : List Int).map iv) rfl rfl (cellsAt_one _ _ _ _ rfl) (iv_one [13]) HDS2.out (by simp) (by unfold maxLen; simp) (by have := hb.size; simp; omega) ?_; rw [HL3.out]; intro A3 c3 w7 ho7 hg7))
      go_roundw
      case rel =>
        have hbA : Below w.heap.size w (wr.alloc (.cells #[.int .i64 13] 2)) := hb.alloc hb.size _
        have hb7 := (OwnV.alloc ho _).belowGrown (B := w.heap.size) (by omega) (by have := hbA.size; exact this) hbA hg7
        exact ⟨hb7, .inr ⟨rfl, rfl, A3, c3, rfl, ho7⟩⟩
      case measure => simp [intOf]
    · have hcp := OwnV.caps ho
      have hby : TimesAt wr A' [10, 13] := OwnV.bytes ho
      go_wp2_with fail
      go_ret3
      exact ⟨A', c', rfl, hby, hcp.2.1, hcp.2.2.1, hb⟩
end Go.Proofs.YtocddhokjhfaaaaDoor

namespace BitM
open Go.Proofs.YtocddhokjhfaaaaDoor
theorem bits_frontT (F : Nat × Nat) (hV : F.2 < 2 ^ F.1) (rest : List UInt8) (len : Nat) (hlen : (bytesW F.1 F.2 ++ rest).length = len) : Bits (bytesW F.1 F.2 ++ rest) len F := by
  subst hlen
  have hl := length_bytesW F.1 F.2
  refine ⟨by rw [List.length_append, hl]; omega, fun p q hpq hq => ?_⟩
  rw [List.length_append, mid_front _ _ _ _ (by rw [hl]; omega), hl]
  exact mid_bytesW F.1 F.2 p q hV hq
theorem tby_le (n : Nat) (zs : List Int) (hn : zs.length ≤ n) (hl : n ≤ 200) : (tby zs).length ≤ 4000 := by
  by_cases hne : zs = []
  · subst hne
    simp [tby]
  · rw [tby_len hne]
    have := tt_le zs (zs.length - 1)
    omega
end BitM
namespace Go.Proofs.YtocddhokjhfaaaaDoor
open Go.RowKit BitM
set_option linter.unusedVariables false

theorem timesPut2 (A : Option Addr) (n c : Nat) (zs : List Int) (Z : List UInt8) (sz : Nat) (w : World) (hZ : tby zs = Z) (hsz : Z.length = sz) (hn : zs.length = n) (hx : TimesAt w A zs) (hl : n ≤ 200) (hk : KindsAt w) :
    Calls Tryd.prog 8 #[.slice A n c, .int .i64 2] w fun e w' => ∃ A' c', e = .returned (.tuple #[.slice A' sz c', .int .i64 0]) ∧ BytesAt w' A' Z ∧ sz ≤ c' ∧ c' ≤ maxLen ∧ Below w.heap.size w w' := by
  by_cases h0 : n = 0
  · subst h0
    obtain rfl : zs = [] := List.eq_nil_of_length_eq_zero hn
    have hz0 : Z = [] := by rw [← hZ]; rfl
    subst hz0
    obtain rfl : sz = 0 := by rw [← hsz]; rfl
    go_enter Tryd.func8, Tryd.ntmps8
    go_wp2_with (go_at_call 19; refine (isWay_any 2 (by omega) (by omega) _).mono ?_; rintro e w1 ⟨rfl, rfl⟩)
    go_ret2
    exact ⟨none, 0, rfl, fun h => absurd rfl h, Nat.le_refl _, by unfold maxLen; omega, Below.refl _ _⟩
  · have hnz : ((n : Int) == 0) = false := by rw [beq_eq_false_iff_ne]; omega
    have HZ := Lib.hid hZ
    have HN := Lib.hid hn
    have HX := Lib.hid hx
    have HK := Lib.hid hk
    have HSZ := Lib.hid hsz
    have hpos : 0 < n := by omega
    have h4 := putTwice_any A n c zs w hn hx hpos hl hk
    rw [hZ, hsz] at h4
    have H4 := Lib.hid h4
    clear hZ hn hx hk hsz h4
    go_enter Tryd.func8, Tryd.ntmps8
    go_wp2_with (first
      | (go_at_call 19; refine (isWay_any 2 (by omega) (by omega) _).mono ?_; rintro e w1 ⟨rfl, rfl⟩)
      | (go_at_call 22; with_reducible refine H4.out.mono ?_; rintro e w2 ⟨A2, c2, rfl, hx2, hb2, hc2, hm2⟩))
    go_ret2
    exact ⟨A2, c2, rfl, hx2, hc2, hm2, hb2⟩

theorem get2 (A : Option Addr) (len c n : Nat) (X : List UInt8) (zs : List Int) (sz : Nat) (w : World) (hX : BytesAt w A X) (hlen : X.length = len) (hl : len ≤ 1000000) (hpos : 0 < n) (hn2 : n ≤ 200)
    (hns : zs.length = n) (hm : ∀ v ∈ zs, -9223372036854775808 ≤ v ∧ v ≤ 9223372036854775807) (hF : Bits X len (tt zs (n - 1))) (hsz : sz = (tby zs).length) (hk : KindsAt w) :
    Calls Tryd.prog 24 #[.slice A len c, .int .i64 (n : Int), .int .i64 2] w fun e w' => ∃ A' c', e = .returned (.tuple #[.slice A' n c', .int .i64 (sz : Int), .int .i64 0]) ∧ TimesAt w' A' zs ∧ n ≤ c' ∧ c' ≤ maxLen ∧ Below w.heap.size w w' := by
  have H4 := Lib.hid (getTwice_good A len c n X zs sz w hX hlen hl hpos hn2 hns hm hF hsz hk)
  clear hX hlen hns hm hF hsz hk
  go_enter Tryd.func24, Tryd.ntmps24
  go_wp2_with (go_at_call 38; with_reducible refine H4.out.mono ?_; rintro e w2 ⟨A2, c2, rfl, hx2, hc2, hm2, hb2⟩)
  go_ret3
  exact ⟨A2, c2, rfl, hx2, hc2, hm2, hb2⟩

set_option maxRecDepth 100000 in
theorem timesGet2 (A : Option Addr) (len c n : Nat) (z : Int) (X rest Z : List UInt8) (zs : List Int) (sz : Nat) (w : World) (hz : z = (n : Int)) (hZ : tby zs = Z) (hXe : X = Z ++ rest) (hlen : X.length = len) (hl : len ≤ 1000000) (hX : BytesAt w A X) (hc : len ≤ c) (hcm : c ≤ maxLen)
    (hns : zs.length = n) (hn2 : n ≤ 200) (hm : ∀ v ∈ zs, -9223372036854775808 ≤ v ∧ v ≤ 9223372036854775807) (hsz : Z.length = sz) (hk : KindsAt w) :
    Calls Tryd.prog 9 #[.slice A len c, .int .i64 z, .int .i64 2] w fun e w' => ∃ A' c', e = .returned (.tuple #[.slice A' n c', .int .i64 (sz : Int), .int .i64 0]) ∧ TimesAt w' A' zs ∧ Below w.heap.size w w' := by
  subst hz
  by_cases h0 : n = 0
  · subst h0
    obtain rfl : zs = [] := List.eq_nil_of_length_eq_zero hns
    have hz0 : Z = [] := by rw [← hZ]; rfl
    obtain rfl : sz = 0 := by rw [← hsz, hz0]; rfl
    clear hXe hlen hX hZ hsz hz0 hm hns hk
    go_enter Tryd.func9, Tryd.ntmps9
    go_wp2_with (go_at_call 19; refine (isWay_any 2 (by omega) (by omega) _).mono ?_; rintro e w1 ⟨rfl, rfl⟩)
    go_ret3
    exact ⟨none, 0, rfl, fun h => absurd rfl h, Below.refl _ _⟩
  · have hpos : 0 < n := by omega
    have hnz : ((n : Int) == 0) = false := by rw [beq_eq_false_iff_ne]; omega
    have hne : zs ≠ [] := by intro h; subst h; simp at hns; omega
    have hxe : tby zs = bytesW (tt zs (n - 1)).1 (tt zs (n - 1)).2 := by unfold tby; rw [if_neg hne, hns]
    have hF : Bits X len (tt zs (n - 1)) := by
      subst hXe
      rw [← hZ, hxe] at hlen ⊢
      exact bits_frontT _ (tt_lt zs _) rest len hlen
    have hszl : sz ≤ len := by rw [← hlen, hXe, List.length_append, hsz]; omega
    have htake : X.take sz = Z := by rw [hXe, ← hsz, List.take_left]
    have hxt : BytesAt w A Z := by rw [← htake]; exact hX.take sz
    have H4 := Lib.hid (get2 A len c n X zs sz w hX hlen hl hpos hn2 hns hm hF (by rw [hZ, hsz]) hk)
    have HZ := Lib.hid hZ
    have HSZ := Lib.hid hsz
    have HNS := Lib.hid hns
    have HK := Lib.hid hk
    have HXT := Lib.hid hxt
    unfold maxLen at hcm
    clear hX hlen hns hm hF hZ hsz hk hXe hxe hne htake hxt
    go_enter Tryd.func9, Tryd.ntmps9
    go_wp2_with (first
      | (go_at_call 19; refine (isWay_any 2 (by omega) (by omega) _).mono ?_; rintro e w1 ⟨rfl, rfl⟩)
      | (go_at_call 24; with_reducible refine H4.out.mono ?_; rintro e w2 ⟨A2, c2, rfl, hx2, hc2, hm2, hb2⟩)
      | (go_at_call 8; with_reducible refine (timesPut2 A2 n c2 zs Z sz _ HZ.out HSZ.out HNS.out hx2 hn2 (HK.out.below hb2)).mono ?_; rintro e w3 ⟨A3, c3, rfl, hx3, _, _, hb3⟩; have hxt3 := (HXT.out.below hb2).below hb3)
      | (go_at_call 25; with_reducible refine (equal_b A3 A c3 c sz sz Z Z _ HSZ.out HSZ.out hx3 hxt3 rfl).mono ?_; rintro e wa ⟨rfl, rfl⟩))
    go_ret3
    exact ⟨A2, c2, rfl, hx2.below hb3, hb2.trans (hb3.mono hb2.size)⟩

theorem timesPut1_ex (A : Option Addr) (c : Nat) (w : World) (hx : TimesAt w A [10, 13]) (hc : 2 ≤ c) (hcm : c ≤ maxLen) :
    Calls Tryd.prog 8 #[.slice A 2 c, .int .i64 1] w fun e w' => ∃ A' c', e = .returned (.tuple #[.slice A' 2 c', .int .i64 0]) ∧ BytesAt w' A' [20, 3] ∧ 2 ≤ c' ∧ c' ≤ maxLen ∧ Below w.heap.size w w' := by
  have H4 := Lib.hid (putDelta_ex A c w hx hc hcm)
  clear hx
  go_enter Tryd.func8, Tryd.ntmps8
  go_wp2_with (first
    | (go_at_call 19; refine (isWay_any 1 (by omega) (by omega) _).mono ?_; rintro e w1 ⟨rfl, rfl⟩)
    | (go_at_call 21; with_reducible refine H4.out.mono ?_; rintro e w2 ⟨A2, c2, rfl, hx2, hc2, hm2, hb2⟩))
  go_ret2
  exact ⟨A2, c2, rfl, hx2, hc2, hm2, hb2⟩
theorem get1_ex (A : Option Addr) (c : Nat) (w : World) (hx : BytesAt w A [20, 3]) (hc : 2 ≤ c) (hcm : c ≤ maxLen) :
    Calls Tryd.prog 24 #[.slice A 2 c, .int .i64 2, .int .i64 1] w fun e w' => ∃ A' c', e = .returned (.tuple #[.slice A' 2 c', .int .i64 2, .int .i64 0]) ∧ TimesAt w' A' [10, 13] ∧ 2 ≤ c' ∧ c' ≤ maxLen ∧ Below w.heap.size w w' := by
  have H4 := Lib.hid (getDelta_ex A c w hx hc hcm)
  clear hx
  go_enter Tryd.func24, Tryd.ntmps24
  go_wp2_with (go_at_call 37; with_reducible refine H4.out.mono ?_; rintro e w2 ⟨A2, c2, rfl, hx2, hc2, hm2, hb2⟩)
  go_ret3
  exact ⟨A2, c2, rfl, hx2, hc2, hm2, hb2⟩
theorem timesGet1_ex (A : Option Addr) (c : Nat) (w : World) (hx : BytesAt w A [20, 3]) (hc : 2 ≤ c) (hcm : c ≤ maxLen) :
    Calls Tryd.prog 9 #[.slice A 2 c, .int .i64 2, .int .i64 1] w fun e w' => ∃ A' c', e = .returned (.tuple #[.slice A' 2 c', .int .i64 2, .int .i64 0]) ∧ TimesAt w' A' [10, 13] ∧ Below w.heap.size w w' := by
  have H4 := Lib.hid (get1_ex A c w hx hc hcm)
  have HX := Lib.hid hx
  unfold maxLen at hcm
  clear hx
  go_enter Tryd.func9, Tryd.ntmps9
  go_wp2_with (first
    | (go_at_call 19; refine (isWay_any 1 (by omega) (by omega) _).mono ?_; rintro e w1 ⟨rfl, rfl⟩)
    | (go_at_call 24; with_reducible refine H4.out.mono ?_; rintro e w2 ⟨A2, c2, rfl, hx2, hc2, hm2, hb2⟩)
    | (go_at_call 8; with_reducible refine (timesPut1_ex A2 c2 _ hx2 hc2 hm2).mono ?_; rintro e w3 ⟨A3, c3, rfl, hx3, _, _, hb3⟩; have hxt3 := (HX.out.below hb2).below hb3)
    | (go_at_call 25; with_reducible refine (equal_b A3 A c3 c 2 2 [20, 3] [20, 3] _ rfl rfl hx3 hxt3 rfl).mono ?_; rintro e wa ⟨rfl, rfl⟩))
  go_ret3
  exact ⟨A2, c2, rfl, hx2.below hb3, hb2.trans (hb3.mono hb2.size)⟩

theorem times_two (w : World) (a b : Int) (t : TypeId) : TimesAt (w.alloc (.cells #[.int .i64 a, .int .i64 b] t)) (some ⟨w.heap.size, 0, none⟩) [a, b] := fun _ => by
  refine ⟨w.heap.size, 0, rfl, fun k hk => ?_⟩
  have : k = 0 ∨ k = 1 := by simp at hk; omega
  rcases this with rfl | rfl
  · rw [World.cell?_alloc_new]; rfl
  · rw [World.cell?_alloc_new]; rfl

set_option maxRecDepth 100000 in
theorem twputs_any (w : World) : Calls Tryd.prog 10 #[] w fun e w' => e = .returned (.bool true) ∧ Below w.heap.size w w' := by
  have hb0 : Below w.heap.size w (w.alloc (.cells #[.int .i64 10, .int .i64 13] 2)) := (Below.refl _ _).alloc (Nat.le_refl _) _
  have hx0 := times_two w 10 13 2
  go_enter Tryd.func10, Tryd.ntmps10
  go_wp2_with (first
    | (go_at_call 8; with_reducible refine (timesPut1_ex (some ⟨w.heap.size, 0, none⟩) 2 _ hx0 (by omega) (by unfold maxLen; omega)).mono ?_; rintro e w1 ⟨A1, c1, rfl, hx1, hc1, hm1, hb1⟩; have hb01 := hb0.trans (hb1.mono hb0.size)))
  go_loud (with_reducible refine (timesGet1_ex A1 c1 _ hx1 hc1 hm1).mono ?_)
  rintro e w2 ⟨A2, c2, rfl, hx2, hb2⟩
  obtain ⟨b2, o2, rfl⟩ := hx2.addr (by simp)
  have l1 : w2.cell? ⟨b2, o2 + 1, none⟩ = some (.int .i64 13) := hx2.cell 1 (by decide)
  have t1 := text_n A1 2 c1 [20, 3] rfl (hx1.below hb2)
  go_wp2_with fail
  go_ret
  exact ⟨rfl, hb01.trans (hb2.mono hb01.size)⟩
end Go.Proofs.YtocddhokjhfaaaaDoor
