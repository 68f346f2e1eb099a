/- run, continues and Get of package runs: their contracts over what Put laid. -/
import Derived.Test.YtanljjpjhihgcaaDoorRunRef
namespace Go.Proofs.YtanljjpjhihgcaaDoor
open Go.RowKit VarM RunM
set_option linter.unusedVariables false

/-- An own slice of numbers. -/
def OwnN (w : World) (base : Nat) (v : Value) (ns : List Nat) : Prop := OwnV w base v 22 (ns.map uv)
theorem OwnN.nats {w : World} {base : Nat} {A : Option Addr} {n c : Nat} {ns : List Nat} (h : OwnN w base (.slice A n c) ns) : NatsAt w A ns := h.bytes
theorem OwnN.caps {w : World} {base : Nat} {A : Option Addr} {n c : Nat} {ns : List Nat} (h : OwnN w base (.slice A n c) ns) : ns.length = n ∧ n ≤ c ∧ c ≤ maxLen ∧ (A = none → n = 0 ∧ c = 0) := by
  have := OwnV.caps h
  simpa using this

theorem results_tmp4 {fn : Func} {t u v x : Tmp} (h : fn.results = #[.tmp t, .tmp u, .tmp v, .tmp x]) (tmps : Array Value) (P : Program) (w : World) :
    (results fn tmps).run P w = .ok (.tuple #[tmps.getD t undef, tmps.getD u undef, tmps.getD v undef, tmps.getD x undef]) w := by
  simp [results, h]

set_option maxRecDepth 100000 in
theorem run_any (A : Option Addr) (n c : Nat) (X rest : List UInt8) (w : World) (m v q : Nat) (hX : X = vput m ++ (vput v ++ rest)) (hq : q = (vput m).length + (vput v).length) (hn : X.length = n) (hx : BytesAt w A X) (hm : m < 18446744073709551616) (hv : v < 18446744073709551616) (hc : n ≤ c) (hcm : c ≤ maxLen) :
    Calls Tryd.prog 79 #[.slice A n c] w fun e w' => e = .returned (.tuple #[.int .u64 (m : Int), .int .u64 (v : Int), .int .i64 (q : Int), .int .i64 0]) ∧ w = w' := by
  obtain ⟨q1, hq1⟩ : ∃ q1, q1 = (vput m).length := ⟨_, rfl⟩
  obtain ⟨q2, hq2⟩ : ∃ q2, q2 = (vput v).length := ⟨_, rfl⟩
  have hp1 := vput_len_pos m
  have hp2 := vput_len_pos v
  have hXl : n = q1 + (q2 + rest.length) := by rw [← hn, hX, List.length_append, List.length_append, hq1, hq2]
  obtain ⟨b, off, rfl, hcc⟩ := hx (by intro h; rw [h] at hn; simp at hn; omega)
  have hx : BytesAt w (some ⟨b, off, none⟩) X := fun _ => ⟨b, off, rfl, hcc⟩
  have hcut := hx.cut q1 (some ⟨b, off + q1, none⟩) (fun _ => by rw [Option.map_some, Addr.add_lit])
  have hdr : X.drop q1 = vput v ++ rest := by rw [hX, hq1, List.drop_left']; rfl
  rw [hdr] at hcut
  rw [← hq1, ← hq2] at hq
  rw [← hq1] at hp1
  rw [← hq2] at hp2
  unfold maxLen at hcm
  have h1 : q1 ≤ n := by omega
  have h2 : ¬ c = q1 := by omega
  have h3 : (q1 : Int) + (q2 : Int) = (q : Int) := by omega
  have hln : (vput v ++ rest).length = n - q1 := by rw [List.length_append, ← hq2]; omega
  have hq20 : q ≤ 20 := by have := vput_len10 hm; have := vput_len10 hv; omega
  have HX := Lib.hid hX
  have HN := Lib.hid hn
  have HQ1 := Lib.hid hq1
  have HQ2 := Lib.hid hq2
  have HXL := Lib.hid hXl
  have HLN := Lib.hid hln
  have HQ := Lib.hid hq
  clear hX hn hq1 hq2 hXl hcc hdr hln hq
  go_enter Tryd.func79, Tryd.ntmps79
  go_wp2_with (first
    | (go_at_call 72; with_reducible refine (get_more (some ⟨b, off, none⟩) n c X (vput v ++ rest) _ m q1 HQ1.out HX.out HN.out hx hm).mono ?_; rintro e w1 ⟨rfl, rfl⟩)
    | (go_at_call 72; with_reducible refine (get_more (some ⟨b, off + q1, none⟩) (n - q1) (c - q1) (vput v ++ rest) rest _ v q2 HQ2.out rfl HLN.out hcut hv).mono ?_; rintro e w2 ⟨rfl, rfl⟩))
  refine bodyPost_ret (results_tmp4 rfl _ _ _) rfl ?_
  exact ⟨rfl, rfl⟩

set_option maxRecDepth 100000 in
theorem continues_no (A : Option Addr) (n c : Nat) (ns : List Nat) (w : World) (v : Nat) (hn : ns.length = n) (hx : NatsAt w A ns) (hl : n ≤ 100000000) (hv : v < 18446744073709551616) (hlast : ∀ y, ns.getLast? = some y → y ≠ v) :
    Calls Tryd.prog 80 #[.slice A n c, .int .u64 (v : Int)] w fun e w' => e = .returned (.bool false) ∧ w = w' := by
  subst hn
  by_cases h0 : ns = []
  · subst h0
    go_enter Tryd.func80, Tryd.ntmps80
    go_wp2_with fail
    go_ret
    exact ⟨rfl, rfl⟩
  · obtain ⟨b, off, rfl⟩ := hx.addr h0
    have hpos : 0 < ns.length := List.length_pos_iff.2 h0
    have hc := hx.cell (ns.length - 1) (by omega)
    have hy := hlast (ns[ns.length - 1]) (by rw [List.getLast?_eq_getElem?]; simp [hpos])
    generalize ns[ns.length - 1] = y at *
    have hne : ((y : Int) == (v : Int)) = false := by simp; omega
    obtain ⟨t, ht⟩ : ∃ t, t = ns.length - 1 := ⟨_, rfl⟩
    rw [← ht] at hc
    have ht2 : (ns.length : Int) - 1 = (t : Int) := by omega
    have ht3 : t < ns.length := by omega
    clear hlast hy h0 ht
    go_enter Tryd.func80, Tryd.ntmps80
    go_wp2_with fail
    go_ret
    exact ⟨rfl, rfl⟩

theorem sub64 (n m : Nat) (h1 : m ≤ n) (h2 : n ≤ 200) : IntKind.u64.wrap ((n : Int) - (m : Int)) = ((n - m : Nat) : Int) := by rw [IntKind.wrap_u64]; omega

set_option maxHeartbeats 1000000 in
set_option maxRecDepth 100000 in
theorem runGet_any (A : Option Addr) (len c n : Nat) (X rest : List UInt8) (ns : List Nat) (w : World) (hX : X = rput ns ++ rest) (hlen : X.length = len) (hx : BytesAt w A X) (hc : len ≤ c) (hcm : c ≤ maxLen) (hn : ns.length = n) (hl : n ≤ 200) (hm : ∀ v ∈ ns, v < 18446744073709551616) :
    Calls Tryd.prog 77 #[.slice A len c, .int .i64 (n : Int)] w fun e w' => ∃ A' c', e = .returned (.tuple #[.slice A' n c', .int .i64 ((rput ns).length : Int), .int .i64 0]) ∧ NatsAt w' A' ns ∧ Below w.heap.size w w' := by
  have hrl := rput_len n ns (by omega) hm (by omega)
  obtain ⟨z, hz⟩ : ∃ z, z = (rput ns).length := ⟨_, rfl⟩
  rw [← hz] at hrl ⊢
  have hz4 : z ≤ 4000 := by omega
  have hzl : z ≤ len := by rw [← hlen, hX, List.length_append]; omega
  have HX := Lib.hid hX
  have HLEN := Lib.hid hlen
  have HN := Lib.hid hn
  have HM := Lib.hid hm
  have HZ := Lib.hid hz
  unfold maxLen at hcm
  have hd1 : ¬ (n : Int) < 0 := by omega
  have hd2 : ¬ (200 : Int) < (n : Int) := by omega
  clear hX hlen hn hm hz hrl
  go_enter Tryd.func77, Tryd.ntmps77
  go_wp2_with fail
  go_loopw [7, 8] (fun l s wr => ∃ (done todo : List Nat) (pre : List UInt8) (k nl cl : Nat) (Al : Option Addr), s = .int .i64 k ∧ l = .slice Al nl cl ∧ OwnN wr w.heap.size (.slice Al nl cl) done ∧ nl ≤ n ∧ k ≤ z ∧ done ++ todo = ns ∧ pre.length = k ∧ pre ++ rput todo = rput ns ∧
      (∀ x y, done.getLast? = some y → todo.head? = some x → y ≠ x) ∧ Below w.heap.size w wr) (fun l _ _ => match l with | .slice _ k _ => n - k | _ => 0)
  case atStart => exact ⟨[], ns, [], 0, 0, 0, none, rfl, rfl, OwnV.nil _ _ _, by omega, by omega, rfl, rfl, rfl, fun x y h => by simp at h, Below.refl _ _⟩
  case round =>
    obtain ⟨done, todo, pre, k, nl, cl, Al, rfl, rfl, ho, hnl, hkz, hdt, hpk, hpre, hbd, hb⟩ := hrel
    obtain ⟨hdl, hnc, hcl, hal⟩ := ho.caps
    by_cases hlt : nl < n
    · have htl : todo.length = n - nl := by
        have h1 := congrArg List.length hdt
        rw [List.length_append, hdl, HN.out] at h1
        omega
      obtain ⟨x, l, rfl⟩ : ∃ x l, todo = x :: l := by
        cases todo with
        | nil => simp at htl; omega
        | cons x l => exact ⟨x, l, rfl⟩
      have hx0 : x < 18446744073709551616 := HM.out x (by rw [← hdt]; simp)
      obtain ⟨r, hr⟩ : ∃ r, r = runLen (x :: l) := ⟨_, rfl⟩
      have hr1 : 1 ≤ r := hr ▸ runLen_pos x l
      have hrl : r ≤ n - nl := by rw [← htl]; exact hr ▸ runLen_le (x :: l)
      have hr64 : r < 18446744073709551616 := by omega
      have hput := rput_cons x l
      rw [← hr] at hput
      obtain ⟨q, hq⟩ : ∃ q, q = (vput r).length + (vput x).length := ⟨_, rfl⟩
      have hq1 := vput_len_pos r
      have hlz : k + (q + (rput ((x :: l).drop r)).length) = z := by
        have h1 := congrArg List.length hpre
        rw [hput, List.length_append, List.length_append, List.length_append, hpk, ← HZ.out] at h1
        omega
      have hkl : k < len := by omega
      have hXk : X.drop k = vput r ++ (vput x ++ (rput ((x :: l).drop r) ++ rest)) := by
        rw [HX.out, ← hpre, List.append_assoc, ← hpk, List.drop_left', hput]
        · simp only [List.append_assoc]
        · rfl
      have hxb := hx.below hb
      obtain ⟨b, off, rfl, _⟩ := hx (by intro h; have := HLEN.out; rw [h] at this; simp at this; omega)
      have hcutk := hxb.cut k (some ⟨b, off + k, none⟩) (fun _ => by rw [Option.map_some, Addr.add_lit])
      have hlk : (X.drop k).length = len - k := by rw [List.length_drop, HLEN.out]
      have hck : ¬ c = k := by omega
      have hqz : k + q ≤ z := by omega
      have hlast : ∀ y, done.getLast? = some y → y ≠ x := fun y hy => hbd x y hy rfl
      have hsub := sub64 n nl hnl hl
      have hnr : decide (n - nl < r) = false := by simp; omega
      have hr0 : ((r : Int) == 0) = false := by simp; omega
      have HDT := Lib.hid hdt
      have HTL := Lib.hid htl
      have HR := Lib.hid hr
      have HPRE := Lib.hid hpre
      have HPK := Lib.hid hpk
      have HPUT := Lib.hid hput
      have HQ := Lib.hid hq
      have HXK := Lib.hid hXk
      have HLK := Lib.hid hlk
      have HBD := Lib.hid hbd
      have HDL := Lib.hid hdl
      have HLZ := Lib.hid hlz
      clear hdt htl hr hpre hpk hput hq hXk hlk hbd hdl hlz hq1
      go_wp2_with (first
        | (go_at_call 79; with_reducible refine (run_any (some ⟨b, off + k, none⟩) (len - k) (c - k) (X.drop k) _ _ r x q HXK.out HQ.out HLK.out hcutk hr64 hx0 (by omega) (by unfold maxLen; omega)).mono ?_; rintro e w1 ⟨rfl, rfl⟩)
        | (go_at_call 80; with_reducible refine (continues_no Al nl cl done _ x HDL.out ho.nats (by omega) hx0 hlast).mono ?_; rintro e w2 ⟨rfl, rfl⟩))
      clear hsub hr0 hlast
      go_loopw [7, 52] (fun v i wr2 => ∃ (j n2 c2 : Nat) (A2 : Option Addr) (ds : List Nat), j ≤ r ∧ i = .int .u64 j ∧ v = .slice A2 n2 c2 ∧ Hid (n2 = nl + j) ∧ Hid (ds = done ++ List.replicate j x) ∧ OwnN wr2 w.heap.size (.slice A2 n2 c2) ds ∧ Below w.heap.size w wr2) (fun _ i _ => r - (intOf i).toNat)
      case atStart => exact ⟨0, nl, cl, Al, done, by omega, rfl, rfl, Lib.hid rfl, Lib.hid (by simp), ho, hb⟩
      case round =>
        obtain ⟨j, n2, c2, A2, ds, hj, rfl, rfl, HN2, HDS, ho2, hb2⟩ := hrel
        have hn2 := HN2.out
        by_cases hjr : j < r
        · obtain ⟨d1, d2, d3, d4⟩ := ho2.caps
          have hds2 : ds.map uv ++ [uv x] = (ds ++ [x]).map uv := by simp
          have hl1 : ((ds.map uv).length + 1) * 8 ≤ 140737488355328 := by rw [List.length_map]; omega
          have hl2 : (ds.map uv).length + 1 ≤ maxLen := by rw [List.length_map]; unfold maxLen; omega
          have hl3 : ((ds ++ [x]).map uv).length = n2 + 1 := by simp [d1]
          have HDS2 := Lib.hid hds2
          have HL3 := Lib.hid hl3
          have HD1 := Lib.hid d1
          clear hds2 hl3 d1 d2 d3 d4 hn2
          go_wp2_with (at_builtin; refine wpList_append_vz rfl (.tmp 54) (.tmp 56) 34 rfl Tryd.underlying34 _ 8 infoU64 rfl rfl (OwnV.alloc ho2 _) _ _ 1 [uv x] ((ds ++ [x]).map uv) rfl rfl (cellsAt_one _ _ _ _ rfl) (uv_one [x]) HDS2.out hl1 hl2 (by have := hb2.size; simp; omega) ?_; rw [HL3.out]; intro A3 c3 w3 ho3 hg3)
          go_roundw
          case rel =>
            refine ⟨j + 1, n2 + 1, c3, A3, ds ++ [x], by omega, by go_num, rfl, Lib.hid (by have := HN2.out; omega), ?_, ho3, (OwnV.alloc ho2 _).belowGrown (Nat.le_refl _) (by have := hb2.size; simp; omega) (below_alloc (Nat.le_refl _) hb2 _) hg3⟩
            refine Lib.hid ?_
            rw [HDS.out, List.append_assoc]
            congr 1
            rw [← List.replicate_succ']
          case measure => simp [intOf]; omega
        · obtain rfl : j = r := by omega
          clear hn2
          go_wp2_with fail
          go_roundw
          case rel =>
            have hw := take_run x l
            rw [← HR.out] at hw
            have e1 : ds ++ (x :: l).drop j = ns := by
              rw [HDS.out, ← hw, List.append_assoc, List.take_append_drop, HDT.out]
            refine ⟨ds, (x :: l).drop j, pre ++ (vput j ++ vput x), k + q, n2, c2, A2, by go_num, rfl, ho2, by have := HN2.out; omega, hqz, e1, ?_, ?_, ?_, hb2⟩
            · rw [List.length_append, HPK.out, List.length_append, ← HQ.out]
            · rw [← HPRE.out, HPUT.out]; simp only [List.append_assoc]
            · intro y z hy hz
              have hz2 : z = x := by
                rw [HDS.out] at hy
                have : (done ++ List.replicate j x).getLast? = some x := by
                  obtain ⟨i, rfl⟩ : ∃ i, j = i + 1 := ⟨j - 1, by omega⟩
                  rw [List.replicate_succ', ← List.append_assoc, List.getLast?_concat]
                rw [this] at hy
                exact (Option.some.inj hy).symm
              rw [hz2]
              rw [List.head?_drop] at hz
              obtain ⟨h1, h2⟩ := List.getElem?_eq_some_iff.1 hz
              have h3 := runLen_next x l (by rw [← HR.out]; exact h1)
              intro h4
              apply h3
              have : (x :: l)[runLen (x :: l)]'(by rw [← HR.out]; exact h1) = (x :: l)[j] := by congr 1; exact HR.out.symm
              rw [this, h2, h4]
          case measure =>
            have := HN2.out
            show n - n2 < n - nl
            omega
    · obtain rfl : nl = n := by omega
      have htl : todo = [] := by
        have h1 := congrArg List.length hdt
        rw [List.length_append, hdl, HN.out] at h1
        exact List.eq_nil_of_length_eq_zero (by omega)
      subst htl
      rw [List.append_nil] at hdt
      subst hdt
      rw [rput_nil, List.append_nil] at hpre
      have hkk : k = z := by rw [← hpk, hpre, HZ.out]
      subst hkk
      clear hpre hpk hdl hz4 hzl hal hnc hcl hbd
      go_wp2_with fail
      go_ret3
      exact ⟨Al, cl, rfl, ho.nats, hb⟩
end Go.Proofs.YtanljjpjhihgcaaDoor
