/- xors.Get: its contracts. -/
import Derived.Test.YtanljjpjhihgcaaDoorXoTake
import Derived.Test.YtanljjpjhihgcaaDoorPkGet2
import Derived.Test.YtanljjpjhihgcaaDoorPiTree
namespace Go.Proofs.YtanljjpjhihgcaaDoor
open Go.RowKit BitM RunM
set_option linter.unusedVariables false

theorem OwnN.addr {w : World} {base n c : Nat} {A : Option Addr} {ns : List Nat} (h : OwnN w base (.slice A n c) ns) (hn : 0 < n) : ∃ gl, A = some ⟨gl, 0, none⟩ := by
  rcases OwnV.cases h with ⟨h1, _⟩ | ⟨g, cap, cur, h1, _⟩
  · injection h1 with h1 h2 h3
    omega
  · injection h1 with h1 h2 h3
    exact ⟨g, h1⟩
theorem OwnN.cellk {w : World} {base gl n cl : Nat} {ns : List Nat} (h : OwnN w base (.slice (some ⟨gl, 0, none⟩) n cl) ns) (k lv : Nat) (hk : k < n) (hlv : ns.getD k 0 = lv) : w.cell? ⟨gl, k, none⟩ = some (.int .u64 (lv : Int)) := by
  obtain ⟨_, h2, _, _, _, h6, _⟩ := OwnV.row h
  have hk2 : k < ns.length := by rw [List.length_map] at h2; omega
  have := h6 k (by rw [List.length_map]; exact hk2)
  rw [this, ← hlv, List.getD_eq_getElem?_getD, List.getElem?_eq_getElem hk2]
  simp [uv]
theorem OwnN.besideR {w w' : World} {base g : Nat} {v : Value} {ns : List Nat} (h : OwnN w base v ns) (hg : w.grownBy w' (some g)) (hlt : g < base) : OwnN w' base v ns :=
  OwnV.beside h hg (fun q hq e => by injection e with e; have := (OwnV.block h q hq).1; omega)
theorem RdAt.beside {w w' : World} {base g : Nat} {A : Option Addr} {n c p : Nat} {bad : Bool} {v : Value} {ns : List Nat} (hr : RdAt w g A n c p bad) (h : OwnN w base v ns) (hg : w.grownBy w' v.ownBlock) (hlt : g < base) : RdAt w' g A n c p bad := by
  unfold RdAt at *
  rw [hg.block g (Array.getElem?_eq_some_iff.1 hr).1 (fun e => by have := (OwnV.block h g e.symm).1; omega)]
  exact hr
theorem RdAt.allocd {w : World} {g : Nat} {A : Option Addr} {n c p : Nat} {bad : Bool} (hr : RdAt w g A n c p bad) (o : Obj) : RdAt (w.alloc o) g A n c p bad := by
  unfold RdAt at *
  rw [Below.heap_alloc w o g (Array.getElem?_eq_some_iff.1 hr).1]
  exact hr
theorem xor_back (a b : Nat) : b ^^^ (a ^^^ b) = a := by rw [Nat.xor_comm a b, ← Nat.xor_assoc, Nat.xor_self, Nat.zero_xor]
theorem take_snoc (ns : List Nat) (k : Nat) (h : k + 1 < ns.length) : ns.take (k + 1) ++ [ns.getD (k + 1) 0] = ns.take (k + 2) := by
  rw [List.take_add_one (i := k + 1), List.getD_eq_getElem?_getD, List.getElem?_eq_getElem h]
  rfl
theorem take_getD (ns : List Nat) (k : Nat) (h : k < ns.length) : (ns.take (k + 1)).getD k 0 = ns.getD k 0 := by
  rw [List.getD_eq_getElem?_getD, List.getD_eq_getElem?_getD, List.getElem?_take]
  rw [if_pos (by omega)]
theorem takeChange_weak' (g : Nat) (A : Option Addr) (len c p : Nat) (bad : Bool) (xs : List UInt8) (w : World) (h : RdAt w g A len c p bad) (hx : BytesAt w A xs) (hxl : xs.length = len) (hl : len ≤ 1000000) (hp : p ≤ 8 * len) :
    Calls Tryd.prog 42 #[.pointer (some ⟨g, 0, none⟩)] w fun e w' => ∃ (x p' : Nat) (bad' : Bool), e = .returned (.int .u64 (x : Int)) ∧ x < 18446744073709551616 ∧ p' ≤ 8 * len ∧ RdAt w' g A len c p' bad' ∧ w.grownBy w' (some g) := by
  refine (takeChange_weak g A len c p bad xs w h hx hxl hl hp).mono ?_
  rintro e w' ⟨z, p', bad', rfl, h1, h2, h3, h4, h5⟩
  obtain ⟨x, rfl⟩ : ∃ x : Nat, z = (x : Int) := ⟨z.toNat, by omega⟩
  exact ⟨x, p', bad', rfl, by omega, h3, h4, h5⟩
theorem own_two {w : World} {base g cap : Nat} {E : TypeId} : True := trivial

theorem xorsGet_arg (A : Option Addr) (len c : Nat) (z : Int) (w : World) (hz : z < 0 ∨ 200 < z) :
    Calls Tryd.prog 18 #[.slice A len c, .int .i64 z] w fun e w' => e = .returned (.tuple #[.slice none 0 0, .int .i64 0, .int .i64 1]) ∧ w = w' := by
  rcases hz with h | h
  · go_enter Tryd.func18, Tryd.ntmps18
    go_wp2_with fail
    go_ret3
    exact ⟨rfl, rfl⟩
  · have h0 : decide (z < 0) = false := by rw [decide_eq_false_iff_not]; omega
    go_enter Tryd.func18, Tryd.ntmps18
    go_wp2_with fail
    go_ret3
    exact ⟨rfl, rfl⟩
theorem xorsGet_zero (A : Option Addr) (len c : Nat) (w : World) :
    Calls Tryd.prog 18 #[.slice A len c, .int .i64 0] w fun e w' => e = .returned (.tuple #[.slice none 0 0, .int .i64 0, .int .i64 0]) ∧ w = w' := by
  go_enter Tryd.func18, Tryd.ntmps18
  go_wp2_with fail
  go_ret3
  exact ⟨rfl, rfl⟩

set_option maxHeartbeats 1000000 in
set_option maxRecDepth 100000 in
theorem xorsGet_good (A : Option Addr) (len c n : Nat) (X : List UInt8) (ns : List Nat) (sz : Nat) (w : World) (hX : BytesAt w A X) (hlen : X.length = len) (hl : len ≤ 1000000) (hc : len ≤ c) (hcm : c ≤ maxLen) (hpos : 0 < n) (hn2 : n ≤ 200)
    (hns : ns.length = n) (hm : ∀ v ∈ ns, v < 18446744073709551616) (hF : Bits X len (xt ns (n - 1))) (hsz : sz = (xb ns).length) (hszl : sz ≤ len) (heq : xb ns = X.take sz) (ht : TabAt w) :
    Calls Tryd.prog 18 #[.slice A len c, .int .i64 (n : Int)] w fun e w' => ∃ A' c', e = .returned (.tuple #[.slice A' n c', .int .i64 (sz : Int), .int .i64 0]) ∧ NatsAt w' A' ns ∧ Below w.heap.size w w' := by
  have hn0 : ((n : Int) == 0) = false := by rw [beq_eq_false_iff_ne]; omega
  obtain ⟨n1, hn1⟩ : ∃ n1, n1 = n - 1 := ⟨_, rfl⟩
  have hsub : (n : Int) - 1 = (n1 : Int) := by omega
  rw [← hn1] at hF
  have hgD := getD_lt ns hm
  obtain ⟨v0, hv0⟩ : ∃ v, v = ns.getD 0 0 := ⟨_, rfl⟩
  have hne : ns ≠ [] := by intro h; subst h; simp at hns; omega
  have hext : ∀ j k, Ext (xt ns k) (xt ns (k + j)) := by
    intro j k
    induction j with
    | zero => exact Ext.refl _
    | succ j ih => exact ih.trans (ext_foldl _ _)
  have hE0 : Ext (stp (0, 0) (v0, 64)) (xt ns n1) := by
    have := hext n1 0
    rw [Nat.zero_add] at this
    rw [hv0]
    exact this
  have hv064 : v0 = v0 % 2 ^ wi 64 := by
    rw [show wi 64 = 64 by decide]
    exact (Nat.mod_eq_of_lt (by rw [hv0]; exact hgD 0)).symm
  have hxtz : (stp (0, 0) (v0, 64)).1 = (xt ns 0).1 := by rw [hv0]; rfl
  have htk1 : [v0].map uv = (ns.take 1).map uv := by
    rw [hv0]
    cases ns with
    | nil => exact absurd rfl hne
    | cons a r => rfl
  have hszF : sz = ((xt ns n1).1 + 7) / 8 := by rw [hsz]; unfold xb; rw [if_neg hne, hns, ← hn1, length_bytesW]
  have hxt : BytesAt w A (X.take sz) := hX.take sz
  have hxtl : (X.take sz).length = sz := by rw [List.length_take, hlen]; omega
  have HXB := Lib.hid hX
  have HXL := Lib.hid hlen
  have HNS := Lib.hid hns
  have HM := Lib.hid hm
  have HF := Lib.hid hF
  have HSZ := Lib.hid hsz
  have HEQ := Lib.hid heq
  have HT := Lib.hid ht
  have HN1 := Lib.hid hn1
  have HGD := Lib.hid hgD
  have HEXT := Lib.hid hext
  have HE0 := Lib.hid hE0
  have HV064 := Lib.hid hv064
  have HXTZ := Lib.hid hxtz
  have HTK1 := Lib.hid htk1
  have HSZF := Lib.hid hszF
  have HXT := Lib.hid hxt
  have HXTL := Lib.hid hxtl
  have hv0lt : v0 < 18446744073709551616 := by rw [hv0]; exact hgD 0
  unfold maxLen at hcm
  clear hX hlen hns hm hF hsz heq ht hn1 hgD hext hE0 hv064 hxtz htk1 hszF hxt hxtl hv0 hne
  go_enter Tryd.func18, Tryd.ntmps18
  go_wp2_with (first
    | (go_at_call 40; with_reducible refine (new_any A len c _).mono ?_; rintro e w1 ⟨rfl, hr1, hl1, hb1⟩; have hx1 := HXB.out.below hb1)
    | (go_at_call 41; with_reducible refine (take_ext w.heap.size A len c X (xt ns n1) (0, 0) v0 64 0 (xt ns 0).1 v0 _ hr1 hx1 HXL.out hl HF.out HE0.out rfl HXTZ.out.symm HV064.out).mono ?_; rintro e w2 ⟨rfl, hr2, hg2⟩; have hb2 := below_some hb1.size (Nat.le_refl _) hb1 hg2; have hs2 := hg2.size))
  have hle2 : w.heap.size + 1 ≤ w2.heap.size := by omega
  have ho2 : OwnN (w2.alloc (.cells #[.int .u64 (v0 : Int)] 22)) (w.heap.size + 1) (.slice (some ⟨w2.heap.size, 0, none⟩) 1 1) (ns.take 1) := by
    unfold OwnN
    rw [← HTK1.out]
    exact OwnV.new w2 22 [uv v0] (w.heap.size + 1) hle2 (by unfold maxLen; simp)
  have hr2' := RdAt.allocd hr2 (.cells #[.int .u64 (v0 : Int)] 22)
  have hb2' : Below w.heap.size w (w2.alloc (.cells #[.int .u64 (v0 : Int)] 22)) := hb2.alloc hb2.size _
  clear hr1 hx1 hb1 hg2 hr2 hb2
  go_loopw [8, 28] (fun l i wr => ∃ (k P cl : Nat) (Al : Option Addr), k ≤ n1 ∧ i = .int .i64 k ∧ l = .slice Al (k + 1) cl ∧ Hid (P = (xt ns k).1) ∧ RdAt wr w.heap.size A len c P false ∧ OwnN wr (w.heap.size + 1) (.slice Al (k + 1) cl) (ns.take (k + 1)) ∧ Below w.heap.size w wr) (fun _ i _ => n1 - (intOf i).toNat)
  case atStart => exact ⟨0, _, 1, _, by omega, rfl, rfl, Lib.hid rfl, hr2', ho2, hb2'⟩
  case round =>
    obtain ⟨k, P, cl, Al, hk, rfl, rfl, HP, hr, ho, hb⟩ := hrel
    obtain ⟨gl, rfl⟩ := OwnN.addr ho (by omega)
    by_cases hlt : k < n1
    · have hkn : k + 1 < ns.length := by rw [HNS.out]; have := HN1.out; omega
      obtain ⟨ds, hds⟩ : ∃ ds, ds = ns.take (k + 1) := ⟨_, rfl⟩
      obtain ⟨ds2, hds2⟩ : ∃ ds, ds = ns.take (k + 2) := ⟨_, rfl⟩
      obtain ⟨lv, hlv⟩ : ∃ lv, lv = ns.getD k 0 := ⟨_, rfl⟩
      obtain ⟨nv, hnv⟩ : ∃ nv, nv = ns.getD (k + 1) 0 := ⟨_, rfl⟩
      have HLV : Hid (ds.getD k 0 = lv) := Lib.hid (by rw [hds, take_getD ns k (by omega), hlv])
      have HDS2 : Hid (ds.map uv ++ [uv nv] = ds2.map uv) := Lib.hid (by rw [hds2, ← take_snoc ns k hkn, hds, hnv]; simp)
      have hdl : ds.length = k + 1 := by rw [hds, List.length_take]; omega
      have HL3 : Hid ((ds2.map uv).length = k + 1 + 1) := Lib.hid (by rw [hds2, List.length_map, List.length_take]; omega)
      have hl1 : ((ds.map uv).length + 1) * 8 ≤ 140737488355328 := by rw [List.length_map, hdl]; omega
      have hl2 : (ds.map uv).length + 1 ≤ maxLen := by rw [List.length_map, hdl]; unfold maxLen; omega
      have g1 : lv < 18446744073709551616 := by rw [hlv]; exact HGD.out k
      have g2 : nv < 18446744073709551616 := by rw [hnv]; exact HGD.out (k + 1)
      obtain ⟨x, hx⟩ : ∃ x, x = nv ^^^ lv := ⟨_, rfl⟩
      have hx64 : x < 18446744073709551616 := by rw [hx]; exact Nat.xor_lt_two_pow (n := 64) g2 g1
      have hE : Ext (xadd (xt ns k) x) (xt ns n1) := by
        have h1 : xadd (xt ns k) x = xt ns (k + 1) := by rw [hx, hnv, hlv]; rfl
        rw [h1]
        have := HEXT.out (n1 - (k + 1)) (k + 1)
        rw [show k + 1 + (n1 - (k + 1)) = n1 by omega] at this
        exact this
      have hP2 : (xt ns (k + 1)).1 = (xadd (xt ns k) x).1 := by rw [hx, hnv, hlv]; rfl
      have hxo : bits BinOp.xor IntKind.u64 (lv : Int) (x : Int) = (nv : Int) := by
        rw [u64_xor_nat _ _ g1 hx64, hx, xor_back]
      have HE := Lib.hid hE
      have HP2 := Lib.hid hP2
      have HDSE := Lib.hid hds
      have HDS2E := Lib.hid hds2
      rw [← hds] at ho
      clear hds hds2 hlv hnv hx hE hP2 hdl
      go_wp2_with fail
      refine region_ways w.heap.size hb.size (.two [0, 1, 2, 3, 5] 4 (.one [] 6 (.one [7] 8 (.one [] 9 (.done [10])))) 6 (.one [] 4 (.one [7] 8 (.one [] 9 (.done [10]))))) (by kernel_rfl) (by kernel_rfl) ?_
      rintro wd hbd
      have hrd := hr.below hbd
      have hod : OwnN wd (w.heap.size + 1) (.slice (some ⟨gl, 0, none⟩) (k + 1) cl) ds := OwnV.below ho hbd
      have hxd := (HXB.out.below hb).below hbd
      have hcd := OwnN.cellk hod k lv (by omega) HLV.out
      have hbw := hb.trans (hbd.mono hb.size)
      have hfd := (OwnV.row hod).2.2.2.2.1
      rw [wpWays_two]
      try simp only [List.map_cons, List.map_nil, opAt, List.getElem?_toArray, List.getElem?_cons_zero, List.getElem?_cons_succ, Option.getD_some]
      repeat (go_big_quiet_step (fail))
      refine wpQuiet_nil ⟨?_, ?_⟩
      · go_wp2_with fail
        refine ⟨⟨⟨_, hbd.mono hb.size⟩, rfl⟩, ?_⟩
        try simp only [Act.put, List.setIfInBounds_toArray, List.set_cons_zero, List.set_cons_succ]
        rw [wpWays_one]
        try simp only [List.map_cons, List.map_nil, opAt, List.getElem?_toArray, List.getElem?_cons_zero, List.getElem?_cons_succ, Option.getD_some]
        repeat (go_big_quiet_step (fail))
        refine wpQuiet_nil ?_
        go_wp2_with (go_at_call 42; with_reducible refine (takeChange_good w.heap.size A len c x X (xt ns n1) (xt ns k) P (xt ns (k + 1)).1 _ hrd hxd HXL.out hl hx64 HF.out HE.out HP.out HP2.out).mono ?_; rintro e w2 ⟨rfl, hr2, hg2⟩)
        have hbw2 := below_some hbw.size (Nat.le_refl _) hbw hg2
        have hb2 : Below w.heap.size wr w2 := below_some (by have := hb.size; have := hbd.size; omega) (Nat.le_refl _) (hbd.mono hb.size) hg2
        have ho2 := OwnN.besideR hod hg2 (by omega)
        have hcd2 := OwnN.cellk ho2 k lv (by omega) HLV.out
        refine ⟨⟨⟨_, hb2⟩, rfl⟩, ?_⟩
        try simp only [Act.put, List.setIfInBounds_toArray, List.set_cons_zero, List.set_cons_succ]
        rw [wpWays_one]
        try simp only [List.map_cons, List.map_nil, opAt, List.getElem?_toArray, List.getElem?_cons_zero, List.getElem?_cons_succ, Option.getD_some]
        repeat (go_big_quiet_step (fail))
        refine wpQuiet_nil ?_
        go_wp2_with fail
        have hb3 : Below w.heap.size wr (w2.alloc (.cells #[.int .u64 (nv : Int)] 22)) := hb2.alloc (by have := hbw2.size; exact this) _
        refine ⟨⟨⟨_, hb3⟩, rfl⟩, ?_⟩
        try simp only [Act.put, List.setIfInBounds_toArray, List.set_cons_zero, List.set_cons_succ]
        rw [wpWays_one]
        try simp only [List.map_cons, List.map_nil, opAt, List.getElem?_toArray, List.getElem?_cons_zero, List.getElem?_cons_succ, Option.getD_some]
        repeat (go_big_quiet_step (fail))
        refine wpQuiet_nil ?_
        have hbw3 : Below w.heap.size w (w2.alloc (.cells #[.int .u64 (nv : Int)] 22)) := hbw2.alloc hbw2.size _
        have hbase3 : w.heap.size + 1 ≤ (w2.alloc (.cells #[.int .u64 (nv : Int)] 22)).heap.size := by have := hbw2.size; simp; omega
        go_wp2_with (at_builtin; refine wpList_append_vz rfl (.tmp 31) (.tmp 39) 34 rfl Tryd.underlying34 _ 8 infoU64 rfl rfl (OwnV.alloc ho2 _) _ _ 1 [uv nv] (ds2.map uv) rfl rfl (cellsAt_one _ _ _ _ rfl) (uv_one [nv]) HDS2.out hl1 hl2 hbase3 ?_; rw [HL3.out]; intro A3 c3 w4 ho4 hg4)
        have hbw4 := (OwnV.alloc ho2 _).belowGrown (B := w.heap.size) (by omega) (by have := hbw3.size; exact this) hbw3 hg4
        have hb4 := (OwnV.alloc ho2 _).belowGrown (B := w.heap.size) (by omega) (by have := hbw3.size; exact this) hb3 hg4
        have hr4 := RdAt.beside (RdAt.allocd hr2 _) (OwnV.alloc ho2 _) hg4 (by omega)
        refine ⟨⟨⟨_, hb4⟩, rfl⟩, ?_⟩
        try simp only [Act.put, List.setIfInBounds_toArray, List.set_cons_zero, List.set_cons_succ]
        rw [wpWays_done]
        try simp only [List.map_cons, List.map_nil, opAt, List.getElem?_toArray, List.getElem?_cons_zero, List.getElem?_cons_succ, Option.getD_some]
        repeat (go_big_quiet_step (fail))
        refine wpQuiet_nil ?_
        go_wp2_with fail
        go_roundw
        case rel => exact ⟨k + 1, _, c3, A3, by omega, by go_num, rfl, Lib.hid rfl, hr4, by rw [← HDS2E.out]; exact ho4, hbw4⟩
        case measure => simp [intOf]; omega
      · go_wp2_with (go_at_call 42; with_reducible refine (takeChange_good w.heap.size A len c x X (xt ns n1) (xt ns k) P (xt ns (k + 1)).1 _ hrd hxd HXL.out hl hx64 HF.out HE.out HP.out HP2.out).mono ?_; rintro e w2 ⟨rfl, hr2, hg2⟩)
        have hbw2 := below_some hbw.size (Nat.le_refl _) hbw hg2
        have hb2 : Below w.heap.size wr w2 := below_some (by have := hb.size; have := hbd.size; omega) (Nat.le_refl _) (hbd.mono hb.size) hg2
        have ho2 := OwnN.besideR hod hg2 (by omega)
        have hcd2 := OwnN.cellk ho2 k lv (by omega) HLV.out
        refine ⟨⟨⟨_, hb2⟩, rfl⟩, ?_⟩
        try simp only [Act.put, List.setIfInBounds_toArray, List.set_cons_zero, List.set_cons_succ]
        rw [wpWays_one]
        try simp only [List.map_cons, List.map_nil, opAt, List.getElem?_toArray, List.getElem?_cons_zero, List.getElem?_cons_succ, Option.getD_some]
        repeat (go_big_quiet_step (fail))
        refine wpQuiet_nil ?_
        go_wp2_with fail
        refine ⟨⟨⟨_, hb2⟩, rfl⟩, ?_⟩
        try simp only [Act.put, List.setIfInBounds_toArray, List.set_cons_zero, List.set_cons_succ]
        rw [wpWays_one]
        try simp only [List.map_cons, List.map_nil, opAt, List.getElem?_toArray, List.getElem?_cons_zero, List.getElem?_cons_succ, Option.getD_some]
        repeat (go_big_quiet_step (fail))
        refine wpQuiet_nil ?_
        go_wp2_with fail
        have hb3 : Below w.heap.size wr (w2.alloc (.cells #[.int .u64 (nv : Int)] 22)) := hb2.alloc (by have := hbw2.size; exact this) _
        refine ⟨⟨⟨_, hb3⟩, rfl⟩, ?_⟩
        try simp only [Act.put, List.setIfInBounds_toArray, List.set_cons_zero, List.set_cons_succ]
        rw [wpWays_one]
        try simp only [List.map_cons, List.map_nil, opAt, List.getElem?_toArray, List.getElem?_cons_zero, List.getElem?_cons_succ, Option.getD_some]
        repeat (go_big_quiet_step (fail))
        refine wpQuiet_nil ?_
        have hbw3 : Below w.heap.size w (w2.alloc (.cells #[.int .u64 (nv : Int)] 22)) := hbw2.alloc hbw2.size _
        have hbase3 : w.heap.size + 1 ≤ (w2.alloc (.cells #[.int .u64 (nv : Int)] 22)).heap.size := by have := hbw2.size; simp; omega
        go_wp2_with (at_builtin; refine wpList_append_vz rfl (.tmp 31) (.tmp 39) 34 rfl Tryd.underlying34 _ 8 infoU64 rfl rfl (OwnV.alloc ho2 _) _ _ 1 [uv nv] (ds2.map uv) rfl rfl (cellsAt_one _ _ _ _ rfl) (uv_one [nv]) HDS2.out hl1 hl2 hbase3 ?_; rw [HL3.out]; intro A3 c3 w4 ho4 hg4)
        have hbw4 := (OwnV.alloc ho2 _).belowGrown (B := w.heap.size) (by omega) (by have := hbw3.size; exact this) hbw3 hg4
        have hb4 := (OwnV.alloc ho2 _).belowGrown (B := w.heap.size) (by omega) (by have := hbw3.size; exact this) hb3 hg4
        have hr4 := RdAt.beside (RdAt.allocd hr2 _) (OwnV.alloc ho2 _) hg4 (by omega)
        refine ⟨⟨⟨_, hb4⟩, rfl⟩, ?_⟩
        try simp only [Act.put, List.setIfInBounds_toArray, List.set_cons_zero, List.set_cons_succ]
        rw [wpWays_done]
        try simp only [List.map_cons, List.map_nil, opAt, List.getElem?_toArray, List.getElem?_cons_zero, List.getElem?_cons_succ, Option.getD_some]
        repeat (go_big_quiet_step (fail))
        refine wpQuiet_nil ?_
        go_wp2_with fail
        go_roundw
        case rel => exact ⟨k + 1, _, c3, A3, by omega, by go_num, rfl, Lib.hid rfl, hr4, by rw [← HDS2E.out]; exact ho4, hbw4⟩
        case measure => simp [intOf]; omega
    · obtain rfl : k = n1 := by omega
      have hkn : k + 1 = n := by have := HN1.out; omega
      have htk : ns.take (k + 1) = ns := by rw [hkn, ← HNS.out, List.take_length]
      rw [htk] at ho
      have hnats := ho.nats
      have hP := HP.out
      have hFle := HF.out.1
      obtain ⟨q, hq⟩ : ∃ q, q = 8 * len - P := ⟨_, rfl⟩
      have hqi : ((8 * len - P : Nat) : Int) = (q : Int) := by rw [hq]
      have hszi : (len : Int) - (q : Int) / 8 = (sz : Int) := by have := HSZF.out; omega
      have hPl : P ≤ 8 * len := by omega
      have hn' : (xb ns).length = sz := HSZ.out.symm
      have HQ := Lib.hid hqi
      have HSZ' := Lib.hid hn'
      have hcle : k + 1 ≤ cl := (OwnV.caps ho).2.1
      have hclm : cl ≤ maxLen := (OwnV.caps ho).2.2.1
      have HCLM := Lib.hid hclm
      have HNK : Hid (ns.length = k + 1) := Lib.hid (by rw [HNS.out, hkn])
      have HKN := Lib.hid hkn
      clear hP hFle hq hqi hn' htk hclm hkn
      go_wp2_with (first
        | (go_at_call 43; with_reducible refine (bad_any w.heap.size A len c P false _ hr).mono ?_; rintro e w7 ⟨rfl, rfl⟩)
        | (go_at_call 44; with_reducible refine (left_lit w.heap.size A len c P false (q : Int) _ HQ.out.symm hr (by omega) hPl).mono ?_; rintro e w8 ⟨rfl, hb8⟩; have hbw8 := hb.trans (hb8.mono hb.size))
        | (go_at_call 16; with_reducible refine (xorsPut_any (some ⟨gl, 0, none⟩) (k + 1) cl ns _ HNK.out (hnats.below hb8) (by omega) hcle HCLM.out HM.out (HT.out.below hbw8)).mono ?_; rw [HSZ'.out]; rintro e w9 ⟨A9, c9, rfl, hx9, hb9, _, _⟩; have hbw9 := hbw8.trans (hb9.mono hbw8.size); have hxt9 := HXT.out.below hbw9)
        | (go_at_call 34; with_reducible refine (equal_b A9 A c9 c sz sz (xb ns) (X.take sz) _ HSZ'.out HXTL.out hx9 hxt9 HEQ.out).mono ?_; rintro e wa ⟨rfl, rfl⟩))
      go_ret3
      exact ⟨_, _, by rw [← HKN.out]; rfl, (hnats.below hb8).below hb9, hbw9⟩
end Go.Proofs.YtanljjpjhihgcaaDoor
