/- Several texts in one: rightKids of whatever row; Right of whatever node. Package node's Put of entries and keys, whatever they are, behind whatever bytes. -/
import Derived.Test.YtgkddhncfaeidaaPart07
set_option linter.unusedSimpArgs false
set_option linter.unusedVariables false
namespace Go.Proofs.Ytgkddhncfaeidaa
open Go.ChangeShapes Go.WideShapes Go.ChangeAt Go.RowKit CrcM PageM
set_option linter.unusedVariables false

/-- A bool that tells whether something is so. -/
def IsB (r : Bool) (P : Prop) : Prop := r = true ↔ P
theorem IsB.ex (P : Prop) : ∃ r, IsB r P := by
  unfold IsB
  by_cases h : P
  · exact ⟨true, by simp [h]⟩
  · exact ⟨false, by simp [h]⟩
theorem IsB.yes {P : Prop} (h : IsB true P) : P := Iff.mp h rfl
theorem IsB.no {P : Prop} (h : IsB false P) : ¬ P := fun p => by cases Iff.mpr h p
theorem IsB.isF {r : Bool} {P : Prop} (h : IsB r P) (p : ¬ P) : r = false := by cases r; rfl; exact absurd h.yes p

/-- a[:j]. -/
theorem slice_to (t : TypeId) (hu : Try.prog.underlying t = some (.slice (Try.prog.elem t))) (hsz : (Try.prog.info? (Try.prog.elem t)).map (·.size) = some 1) (A : Option Addr) (n c j : Nat) (hj : j ≤ c) (w : World) :
    (Instr.sliceAt t (.slice A n c) none (some (.int .i64 (j : Int))) none).run Try.prog w = .ok (.slice A j c) w := by
  have hz : (sizeOf (Try.prog.elem t)).run Try.prog w = .ok 1 w := by
    cases hq : Try.prog.info? (Try.prog.elem t) with
    | none => rw [hq] at hsz; cases hsz
    | some i => rw [hq] at hsz; simp at hsz; simp [sizeOf, typeInfo, hq, hsz]
  rw [run_sliceAt_slice (t := t) (h := hu), run_slice_h (t := t) (ht := hu) (h0 := by omega) (h2 := by omega), hz]
  have ha : ∀ a : Addr, a.add 0 = a := fun a => by unfold Addr.add; split <;> simp_all
  have hm : A.map (fun x => x.add (0 * 1)) = A := by cases A <;> simp [ha]
  simp only [Result.andThen_ok, sliced, Int.toNat_natCast, Nat.sub_zero, hm, ite_self]

theorem KdAt.take {w : World} {A : Option Addr} {zs : List Int} (h : KdAt w A zs) (k : Nat) : KdAt w A (zs.take k) := fun hne => by
  obtain ⟨b, off, hA, hc⟩ := h (fun e => hne (by rw [e]; simp))
  exact ⟨b, off, hA, fun i z hi => hc i z (by rw [List.getElem?_take] at hi; split at hi; exact hi; cases hi)⟩

set_option maxRecDepth 100000 in
theorem index_any (A : Option Addr) (n c : Nat) (zs : List Int) (hn : zs.length = n) (hm : n ≤ maxLen) (v : Int) (w : World) (hx : KdAt w A zs) :
    Calls Try.prog 85 #[.slice A n c, .int .i64 v] w fun e w' => (∃ z : Int, e = .returned (.int .i64 z) ∧ (v ∈ zs → 0 ≤ z) ∧ (v ∉ zs → z = -1)) ∧ w = w' := by
  unfold maxLen at hm
  have HN := Lib.hid hn
  have HX := Lib.hid hx
  clear hx hn
  go_enter Try.func85, Try.ntmps85
  go_wp2_with fail
  go_loopw [8] (fun i wr => ∃ k : Nat, k ≤ n ∧ i = .int .i64 k ∧ Hid (∀ j z, j < k → zs[j]? = some z → z ≠ v) ∧ w = wr) (fun i _ => n - (intOf i).toNat)
  case atStart => exact ⟨0, by omega, rfl, Lib.hid (fun j z hj => by omega), rfl⟩
  case round =>
    obtain ⟨k, hk, rfl, HS, rfl⟩ := hrel
    by_cases hlt : k < n
    · obtain ⟨z, hz⟩ : ∃ z, zs[k]? = some z := ⟨_, List.getElem?_eq_getElem (by rw [HN.out]; exact hlt)⟩
      obtain ⟨b, off, rfl, hc⟩ := HX.out (by intro e; have := HN.out; rw [e] at this; simp at this; omega)
      have c0 := hc k z hz
      have HZ := Lib.hid hz
      clear hc hz
      by_cases hv : v = z
      · have d0 : (v == z) = true := by simp [hv]
        have HV := Lib.hid hv
        clear hv
        go_wp2_with fail
        go_ret
        exact ⟨⟨k, rfl, fun _ => by omega, fun h => absurd (List.mem_of_getElem? (HV.out ▸ HZ.out)) h⟩, rfl⟩
      · have d0 : (v == z) = false := by simp [hv]
        have HV := Lib.hid hv
        clear hv
        go_wp2_with fail
        go_roundw
        case rel => exact ⟨k + 1, by omega, by go_num, Lib.hid (fun j y hj hy => by rcases Nat.lt_succ_iff_lt_or_eq.1 hj with h | rfl; exact HS.out j y h hy; rw [HZ.out] at hy; cases hy; exact fun e => HV.out e.symm), by first | rfl | trivial⟩
        case measure => first | (simp [intOf]; done) | (simp [intOf]; omega)
    · obtain rfl : k = n := by omega
      go_wp2_with fail
      go_ret
      refine ⟨⟨-1, rfl, fun h => ?_, fun _ => rfl⟩, rfl⟩
      obtain ⟨j, hj⟩ := List.getElem?_of_mem h
      exact absurd rfl (HS.out j v (by have := (List.getElem?_eq_some_iff.1 hj).1; have := HN.out; omega) hj)

theorem contains_any (A : Option Addr) (n c : Nat) (zs : List Int) (hn : zs.length = n) (hm : n ≤ maxLen) (v : Int) (r : Bool) (hr : r = true ↔ v ∈ zs) (w : World) (hx : KdAt w A zs) :
    Calls Try.prog 65 #[.slice A n c, .int .i64 v] w fun e w' => e = .returned (.bool r) ∧ w = w' := by
  have HI := Lib.hid (index_any A n c zs hn hm v w hx)
  have HR := Lib.hid hr
  clear hr hx hn
  by_cases h : v ∈ zs
  · have hf := HR.out.2 h
    subst hf
    go_enter Try.func65, Try.ntmps65
    go_wp2_with (go_at_call 85; refine (HI.out).mono ?_; rintro e w1 ⟨⟨z, rfl, hz, _⟩, rfl⟩; have d0 : decide (0 ≤ z) = true := by (simpa using hz h))
    go_ret
    exact ⟨rfl, rfl⟩
  · have hf : r = false := by cases r; rfl; exact absurd (HR.out.1 rfl) h
    subst hf
    go_enter Try.func65, Try.ntmps65
    go_wp2_with (go_at_call 85; refine (HI.out).mono ?_; rintro e w1 ⟨⟨z, rfl, _, hz⟩, rfl⟩; obtain rfl := hz h)
    go_ret
    exact ⟨rfl, rfl⟩

/-- What an inner node's children must be. -/
def okKidStep (zs : List Int) (i : Nat) : Prop := ∃ z, zs[i]? = some z ∧ okAddr z ∧ z ∉ zs.take i
def okKids (zs : List Int) : Prop := ∀ i, i < zs.length → okKidStep zs i

theorem isAddr_d (a : Int) (r : Bool) (hr : decide (okAddr a) = r) (w : World) :
    Calls Try.prog 64 #[.int .i64 a] w fun e w' => e = .returned (.bool r) ∧ Below w.heap.size w w' := by subst hr; exact isAddr_any a w

set_option maxRecDepth 100000 in
set_option maxHeartbeats 2000000 in
theorem rightKids_any (A : Option Addr) (n c : Nat) (zs : List Int) (hn : zs.length = n) (hm : n ≤ maxLen) (hc : n ≤ c) (r : Bool) (hr : r = true ↔ okKids zs) (w : World) (hx : KdAt w A zs) :
    Calls Try.prog 40 #[.slice A n c] w fun e w' => e = .returned (.bool r) ∧ Below w.heap.size w w' := by
  have HM := Lib.hid hm
  unfold maxLen at hm
  have HN := Lib.hid hn
  have HR := Lib.hid hr
  have HX := Lib.hid hx
  have HF : Hid (¬ okKids zs → r = false) := Lib.hid (fun h => by cases r; rfl; exact absurd (hr.1 rfl) h)
  clear hr hx hn
  go_enter Try.func40, Try.ntmps40
  go_wp2_with fail
  go_loopw [7] (fun i wr => ∃ k : Nat, k ≤ n ∧ i = .int .i64 k ∧ Hid (∀ j, j < k → okKidStep zs j) ∧ Below w.heap.size w wr) (fun i _ => n - (intOf i).toNat)
  case atStart => exact ⟨0, by omega, rfl, Lib.hid (fun j hj => by omega), Below.refl _ _⟩
  case round =>
    obtain ⟨k, hk, rfl, HS, hb⟩ := hrel
    by_cases hlt : k < n
    · obtain ⟨z, hz⟩ : ∃ z, zs[k]? = some z := ⟨_, List.getElem?_eq_getElem (by rw [HN.out]; exact hlt)⟩
      have HXr := Lib.hid (HX.out.below hb)
      obtain ⟨b, off, rfl, hcc⟩ := HXr.out (by intro e; have := HN.out; rw [e] at this; simp at this; omega)
      have c0 := hcc k z hz
      have HZ := Lib.hid hz
      have HB := Lib.hid hb
      clear hcc hz hb
      by_cases ha : okAddr z
      · have HD : Hid (decide (okAddr z) = true) := Lib.hid (decide_eq_true ha)
        have HOA := Lib.hid ha
        clear ha
        have HSL := fun W => slice_to 24 (by kernel_rfl) (by kernel_rfl) (some ⟨b, off, none⟩) n c k (by omega) W
        obtain ⟨q, hq⟩ := IsB.ex (z ∈ zs.take k)
        have HQ := Lib.hid hq
        clear hq
        cases q
        · go_wp2_with (first
            | (go_at_call 64; (refine (isAddr_d z true HD.out _).mono ?_); rintro e w1 ⟨rfl, hb1⟩; have HB1 := Lib.hid hb1; clear hb1)
            | (go_at_call 65; (refine (contains_any _ k c (zs.take k) (by rw [List.length_take]; have := HN.out; omega) (by have := HM.out; omega) z false HQ.out _ ((HXr.out.take k).below HB1.out)).mono ?_); rintro e w2 ⟨rfl, rfl⟩))
          go_roundw
          case rel => exact ⟨k + 1, by omega, by go_num, Lib.hid (fun j hj => by rcases Nat.lt_succ_iff_lt_or_eq.1 hj with h | rfl; exact HS.out j h; exact ⟨z, HZ.out, HOA.out, fun h => by cases HQ.out.2 h⟩), HB.out.trans (HB1.out.mono HB.out.size)⟩
          case measure => first | (simp [intOf]; done) | (simp [intOf]; omega)
        · have hf := HF.out (fun h => by obtain ⟨y, h1, _, h3⟩ := h k (by have := HN.out; omega); rw [HZ.out] at h1; cases h1; exact h3 (HQ.out.1 rfl))
          subst hf
          go_wp2_with (first
            | (go_at_call 64; (refine (isAddr_d z true HD.out _).mono ?_); rintro e w1 ⟨rfl, hb1⟩; have HB1 := Lib.hid hb1; clear hb1)
            | (go_at_call 65; (refine (contains_any _ k c (zs.take k) (by rw [List.length_take]; have := HN.out; omega) (by have := HM.out; omega) z true HQ.out _ ((HXr.out.take k).below HB1.out)).mono ?_); rintro e w2 ⟨rfl, rfl⟩))
          go_ret
          exact ⟨rfl, HB.out.trans (HB1.out.mono HB.out.size)⟩
      · have HD : Hid (decide (okAddr z) = false) := Lib.hid (decide_eq_false ha)
        have hf := HF.out (fun h => by obtain ⟨y, h1, h2, _⟩ := h k (by have := HN.out; omega); rw [HZ.out] at h1; cases h1; exact ha h2)
        subst hf
        clear ha
        go_wp2_with (go_at_call 64; (refine (isAddr_d z false HD.out _).mono ?_); rintro e w1 ⟨rfl, hb1⟩; have HB1 := Lib.hid hb1; clear hb1)
        go_ret
        exact ⟨rfl, HB.out.trans (HB1.out.mono HB.out.size)⟩
    · obtain rfl : k = n := by omega
      have hf : r = true := HR.out.2 (fun i hi => HS.out i (by have := HN.out; omega))
      subst hf
      go_wp2_with fail
      go_ret
      exact ⟨rfl, hb⟩
/-- A node. -/
structure NodeD where
  leaf : Bool
  es : List EntD
  ks : List KeyD
  ds : List Int
def okNode (n : NodeD) : Prop := if n.leaf = true then n.ks = [] ∧ n.ds = [] ∧ okEnts n.es else n.es = [] ∧ n.ks.length = n.ds.length ∧ okKeys n.ks ∧ okKids n.ds
/-- Where a node's three rows lie. -/
structure NdL where
  EA : Option Addr
  ec : Nat
  KA : Option Addr
  kc : Nat
  DA : Option Addr
  dc : Nat
/-- A node's rows in memory. -/
structure NodeAt (w : World) (n : NodeD) (l : NdL) : Prop where
  e : EnAt w l.EA n.es
  k : KyAt w l.KA n.ks
  d : KdAt w l.DA n.ds
  ec : n.es.length ≤ l.ec
  kc : n.ks.length ≤ l.kc
  dc : n.ds.length ≤ l.dc
  em : l.ec ≤ maxLen
  km : l.kc ≤ maxLen
  dm : l.dc ≤ maxLen
theorem NodeAt.below {w w' : World} {n : NodeD} {l : NdL} (h : NodeAt w n l) (hb : Below w.heap.size w w') : NodeAt w' n l := { h with e := h.e.below hb, k := h.k.below hb, d := h.d.below hb }

set_option maxRecDepth 100000 in
set_option maxHeartbeats 4000000 in
theorem right_any (n : NodeD) (l : NdL) (r : Bool) (hr : IsB r (okNode n)) (w : World) (h : NodeAt w n l) :
    Calls Try.prog 13 #[.agg #[.bool n.leaf, .slice l.EA n.es.length l.ec, .slice l.KA n.ks.length l.kc, .slice l.DA n.ds.length l.dc]] w fun e w' => e = .returned (.bool r) ∧ Below w.heap.size w w' := by
  have H := Lib.hid h
  have HR := Lib.hid hr
  obtain ⟨lf, es, ks, ds⟩ := n
  obtain ⟨EA, ec, KA, kc, DA, dc⟩ := l
  dsimp only at *
  obtain ⟨ne, hne⟩ : ∃ x, es.length = x := ⟨_, rfl⟩
  obtain ⟨nk, hnk⟩ : ∃ x, ks.length = x := ⟨_, rfl⟩
  obtain ⟨nd, hnd⟩ : ∃ x, ds.length = x := ⟨_, rfl⟩
  have hem : ne ≤ maxLen := by rw [← hne]; exact Nat.le_trans h.ec h.em
  have hkm : nk ≤ maxLen := by rw [← hnk]; exact Nat.le_trans h.kc h.km
  have hdm : nd ≤ maxLen := by rw [← hnd]; exact Nat.le_trans h.dc h.dm
  have hdc : nd ≤ dc := by rw [← hnd]; exact h.dc
  rw [hne, hnk, hnd]
  have HNE := Lib.hid hne
  have HNK := Lib.hid hnk
  have HND := Lib.hid hnd
  have HEM := Lib.hid hem
  have HKM := Lib.hid hkm
  have HDM := Lib.hid hdm
  have HDC := Lib.hid hdc
  obtain ⟨W, eW⟩ : ∃ W, W = w.alloc (.cells #[.bool lf, .slice EA ne ec, .slice KA nk kc, .slice DA nd dc] 34) := ⟨_, rfl⟩
  have hrow : W.heap[w.heap.size]? = some (.cells #[.bool lf, .slice EA ne ec, .slice KA nk kc, .slice DA nd dc] 34 (0, 0)) := by rw [eW]; exact heap_alloc_new _ _
  have hbel : Below w.heap.size w W := by rw [eW]; exact (Below.refl _ _).alloc (Nat.le_refl _) _
  have EW := Lib.hid eW.symm
  have HB := Lib.hid hbel
  have HROW := Lib.hid hrow
  have k0 := nd_cell hrow 0 _ rfl
  have k1 := nd_cell hrow 1 _ rfl
  have k2 := nd_cell hrow 2 _ rfl
  have k3 := nd_cell hrow 3 _ rfl
  clear h hr hne hnk hnd hem hkm hdm hdc eW hrow hbel
  cases lf with
  | true =>
    by_cases h1 : nk = 0
    · have d1 : ((nk : Int) == 0) = true := by simp [h1]
      have H1 := Lib.hid h1
      clear h1
      by_cases h2 : nd = 0
      · have d2 : ((nd : Int) == 0) = true := by simp [h2]
        have H2 := Lib.hid h2
        clear h2
        have hq : IsB r (okEnts es) := by
          have a := HR.out
          unfold okNode at a
          simp only [if_true] at a
          have e1 : ks = [] := List.eq_nil_of_length_eq_zero (by rw [HNK.out, H1.out])
          have e2 : ds = [] := List.eq_nil_of_length_eq_zero (by rw [HND.out, H2.out])
          unfold IsB at a ⊢
          simpa [e1, e2] using a
        have HQ := Lib.hid hq
        clear hq
        go_enter Try.func13, Try.ntmps13
        go_upto_region 1 with fail
        rw [EW.out]
        go_wp2_with (go_at_call 38; (refine (rightEntries_any EA ne ec es HNE.out HEM.out r HQ.out _ ((H.out.below HB.out).e)).mono ?_); rintro e w1 ⟨rfl, hb1⟩)
        go_ret
        exact ⟨rfl, HB.out.trans (hb1.mono HB.out.size)⟩
      · have d2 : ((nd : Int) == 0) = false := by simp [h2]
        have hf := HR.out.isF (by unfold okNode; simp only [if_true]; intro hx; exact h2 (by rw [← HND.out, hx.2.1]; rfl))
        subst hf
        go_enter Try.func13, Try.ntmps13
        go_upto_region 1 with fail
        rw [EW.out]
        go_wp2_with fail
        go_ret
        exact ⟨rfl, HB.out⟩
    · have d1 : ((nk : Int) == 0) = false := by simp [h1]
      have hf := HR.out.isF (by unfold okNode; simp only [if_true]; intro hx; exact h1 (by rw [← HNK.out, hx.1]; rfl))
      subst hf
      go_enter Try.func13, Try.ntmps13
      go_upto_region 1 with fail
      rw [EW.out]
      go_wp2_with fail
      go_ret
      exact ⟨rfl, HB.out⟩
  | false =>
    by_cases h1 : ne = 0
    · have d1 : ((ne : Int) == 0) = true := by simp [h1]
      have H1 := Lib.hid h1
      clear h1
      by_cases h2 : nk = nd
      · have d2 : ((nk : Int) == (nd : Int)) = true := by simp [h2]
        have d2' : (nk == nd) = true := by simp [h2]
        have H2 := Lib.hid h2
        clear h2
        obtain ⟨q, hq⟩ := IsB.ex (okKeys ks)
        have HQ := Lib.hid hq
        clear hq
        have hes : es = [] := List.eq_nil_of_length_eq_zero (by rw [HNE.out, H1.out])
        have HES := Lib.hid hes
        clear hes
        cases q with
        | true =>
          have hq2 : IsB r (okKids ds) := by
            have a := HR.out
            unfold okNode at a
            unfold IsB at a ⊢
            rw [a]
            simp only [Bool.false_eq_true, if_false]
            exact ⟨fun x => x.2.2.2, fun x => ⟨HES.out, by rw [HNK.out, HND.out, H2.out], HQ.out.yes, x⟩⟩
          have HQ2 := Lib.hid hq2
          clear hq2
          go_enter Try.func13, Try.ntmps13
          go_upto_region 3 with fail
          rw [EW.out]
          go_wp2_with (first
            | (go_at_call 39; (refine (rightKeys_any KA nk kc ks HNK.out HKM.out true HQ.out _ ((H.out.below HB.out).k)).mono ?_); rintro e w1 ⟨rfl, hb1⟩; have b3 := nd_cell ((hb1.block _ (Array.getElem?_eq_some_iff.1 HROW.out).1).trans HROW.out) 3 _ rfl; have HB1 := Lib.hid hb1; clear hb1)
            | (go_at_call 40; (refine (rightKids_any DA nd dc ds HND.out HDM.out HDC.out r HQ2.out _ (((H.out.below HB.out).below HB1.out).d)).mono ?_); rintro e w2 ⟨rfl, hb2⟩))
          go_ret
          exact ⟨rfl, HB.out.trans (HB1.out.trans (hb2.mono HB1.out.size) |>.mono HB.out.size)⟩
        | false =>
          have hf := HR.out.isF (by unfold okNode; simp only [Bool.false_eq_true, if_false]; intro hx; exact HQ.out.no hx.2.2.1)
          subst hf
          go_enter Try.func13, Try.ntmps13
          go_upto_region 3 with fail
          rw [EW.out]
          go_wp2_with (go_at_call 39; (refine (rightKeys_any KA nk kc ks HNK.out HKM.out false HQ.out _ ((H.out.below HB.out).k)).mono ?_); rintro e w1 ⟨rfl, hb1⟩)
          go_ret
          exact ⟨rfl, HB.out.trans (hb1.mono HB.out.size)⟩
      · have d2 : ((nk : Int) == (nd : Int)) = false := by simp; omega
        have d2' : (nk == nd) = false := by simp; omega
        have hf := HR.out.isF (by unfold okNode; simp only [Bool.false_eq_true, if_false]; intro hx; exact h2 (by rw [← HNK.out, ← HND.out, hx.2.1]))
        subst hf
        go_enter Try.func13, Try.ntmps13
        go_upto_region 3 with fail
        rw [EW.out]
        go_wp2_with fail
        go_ret
        exact ⟨rfl, HB.out⟩
    · have d1 : ((ne : Int) == 0) = false := by simp [h1]
      have hf := HR.out.isF (by unfold okNode; simp only [Bool.false_eq_true, if_false]; intro hx; exact h1 (by rw [← HNE.out, hx.1]; rfl))
      subst hf
      go_enter Try.func13, Try.ntmps13
      go_upto_region 3 with fail
      rw [EW.out]
      go_wp2_with fail
      go_ret
      exact ⟨rfl, HB.out⟩
end Go.Proofs.Ytgkddhncfaeidaa

namespace Go.Proofs.Ytgkddhncfaeidaa
open Go.ChangeShapes Go.WideShapes Go.ChangeAt Go.RowKit CrcM PageM
set_option linter.unusedVariables false

/-- A number without a sign. -/
def wn (z : Int) : Nat := (IntKind.u64.wrap z).toNat
theorem wn_eq (z : Int) : IntKind.u64.wrap z = (wn z : Int) := by
  unfold wn
  have : 0 ≤ IntKind.u64.wrap z := by rw [IntKind.wrap_u64]; omega
  omega
theorem wn_lt (z : Int) : wn z < 18446744073709551616 := by
  unfold wn
  have : IntKind.u64.wrap z < 18446744073709551616 := by rw [IntKind.wrap_u64]; omega
  have : 0 ≤ IntKind.u64.wrap z := by rw [IntKind.wrap_u64]; omega
  omega
def kyB (k : KeyD) : List UInt8 := be (wn k.se) 4 ++ be (wn k.st) 8
def enB (e : EntD) : List UInt8 := kyB e.key ++ be (wn e.en) 8 ++ be (wn e.ad) 2 ++ be (wn e.le) 2 ++ be (wn e.cn) 1 ++ be (wn e.co) 1 ++ be (wn e.cr) 4
theorem length_kyB (k : KeyD) : (kyB k).length = 12 := by simp [kyB, length_be]
theorem length_enB (e : EntD) : (enB e).length = 30 := by simp [enB, length_be, length_kyB]
/-- Blocks of all kinds but bytes stay. -/
def BoxKept (w w' : World) : Prop := ∀ (g : Nat) (cs : Array Value) (T : TypeId), T ≠ 5 → w.heap[g]? = some (.cells cs T (0, 0)) → w'.heap[g]? = some (.cells cs T (0, 0))
theorem BoxKept.trans {a b c : World} (h : BoxKept a b) (h2 : BoxKept b c) : BoxKept a c := fun g cs T hT h0 => h2 g cs T hT (h g cs T hT h0)
theorem BoxKept.of_below {w w' : World} (h : Below w.heap.size w w') : BoxKept w w' := fun g cs T _ h0 => (h.block g (Array.getElem?_eq_some_iff.1 h0).1).trans h0
theorem BoxKept.of_grown {w w' : World} {B : Nat} {v : Value} {xs : List UInt8} (ho : OwnS w B v 5 xs) (hg : w.grownBy w' v.ownBlock) : BoxKept w w' := fun g cs T hT h0 =>
  (hg.block g (Array.getElem?_eq_some_iff.1 h0).1 (fun e => by
    rcases ho.2 with ⟨hv, _⟩ | ⟨g', cap, cur, hv, _, hh, _⟩
    · rw [hv] at e; cases e
    · rw [hv] at e
      injection e with e
      subst e
      rw [hh] at h0
      injection h0 with h0
      injection h0 with _ h0
      exact hT h0.symm)).trans h0

theorem putHigh_b (B len : Nat) (A : Option Addr) (c : Nat) (xs : List UInt8) (w : World) (hlen : xs.length = len) (ho : OwnS w B (.slice A len c) 5 xs) (hB : B ≤ w.heap.size) (z : Int) (s : Nat) (hz : z = (s : Int)) (hs : s ≤ 8) (n : Nat) (hn : n < 18446744073709551616) (hl : len ≤ 1000000) (L : Nat) (hL : L = len + s) :
    Calls Try.prog 35 #[.slice A len c, .int .i64 z, .int .u64 n] w fun e w' => ∃ A' c', e = .returned (.slice A' L c') ∧ OwnS w' B (.slice A' L c') 5 (xs ++ be n s) ∧ Below B w w' ∧ BoxKept w w' := by
  subst hL
  refine (putHigh_nd B len A c xs w hlen ho hB z s hz hs n hn hl).mono ?_
  rintro e w' ⟨A', c', rfl, h1, h2, _⟩
  exact ⟨A', c', rfl, h1, ho.belowGrown (Nat.le_refl _) hB (Below.refl _ _) h2, BoxKept.of_grown ho h2⟩
theorem putKey_b (B len : Nat) (A : Option Addr) (c : Nat) (xs : List UInt8) (w : World) (hlen : xs.length = len) (ho : OwnS w B (.slice A len c) 5 xs) (hB : B ≤ w.heap.size) (k : KeyD) (hl : len ≤ 100000) (L : Nat) (hL : L = len + 12) :
    Calls Try.prog 34 #[.slice A len c, .agg #[.int .i64 k.se, .int .i64 k.st]] w fun e w' => ∃ A' c', e = .returned (.slice A' L c') ∧ OwnS w' B (.slice A' L c') 5 (xs ++ kyB k) ∧ Below B w w' ∧ BoxKept w w' := by
  subst hL
  refine (putKey_nd B len A c xs w hlen ho hB k.se k.st (wn k.se) (wn k.st) (wn_eq _) (wn_eq _) (wn_lt _) (wn_lt _) hl).mono ?_
  rintro e w' ⟨A', c', rfl, h1, h2, _⟩
  rw [List.append_assoc] at h1
  exact ⟨A', c', rfl, h1, ho.belowGrown (Nat.le_refl _) hB (Below.refl _ _) h2, BoxKept.of_grown ho h2⟩

set_option maxRecDepth 100000 in
set_option maxHeartbeats 4000000 in
theorem putEntry_b (B len : Nat) (A : Option Addr) (c : Nat) (xs : List UInt8) (w : World) (hlen : xs.length = len) (ho : OwnS w B (.slice A len c) 5 xs) (hB : B ≤ w.heap.size) (e : EntD) (hl : len ≤ 100000) (L : Nat) (hL : L = len + 30) :
    Calls Try.prog 33 #[.slice A len c, .agg #[.int .i64 e.se, .int .i64 e.st, .int .i64 e.en, .int .i64 e.ad, .int .i64 e.le, .int .i64 e.cn, .int .i64 e.co, .int .u32 e.cr]] w fun e' w' => ∃ A' c', e' = .returned (.slice A' L c') ∧ OwnS w' B (.slice A' L c') 5 (xs ++ enB e) ∧ Below B w w' ∧ BoxKept w w' := by
  have HLEN := Lib.hid hlen
  have HL := Lib.hid hL
  obtain ⟨n_en, e_en⟩ : ∃ n, wn e.en = n := ⟨_, rfl⟩
  have W_en : Hid (IntKind.u64.wrap e.en = (n_en : Int)) := Lib.hid (by rw [← e_en]; exact wn_eq _)
  have B_en : Hid (n_en < 18446744073709551616) := Lib.hid (by rw [← e_en]; exact wn_lt _)
  have E_en := Lib.hid e_en
  obtain ⟨n_ad, e_ad⟩ : ∃ n, wn e.ad = n := ⟨_, rfl⟩
  have W_ad : Hid (IntKind.u64.wrap e.ad = (n_ad : Int)) := Lib.hid (by rw [← e_ad]; exact wn_eq _)
  have B_ad : Hid (n_ad < 18446744073709551616) := Lib.hid (by rw [← e_ad]; exact wn_lt _)
  have E_ad := Lib.hid e_ad
  obtain ⟨n_le, e_le⟩ : ∃ n, wn e.le = n := ⟨_, rfl⟩
  have W_le : Hid (IntKind.u64.wrap e.le = (n_le : Int)) := Lib.hid (by rw [← e_le]; exact wn_eq _)
  have B_le : Hid (n_le < 18446744073709551616) := Lib.hid (by rw [← e_le]; exact wn_lt _)
  have E_le := Lib.hid e_le
  obtain ⟨n_cn, e_cn⟩ : ∃ n, wn e.cn = n := ⟨_, rfl⟩
  have W_cn : Hid (IntKind.u64.wrap e.cn = (n_cn : Int)) := Lib.hid (by rw [← e_cn]; exact wn_eq _)
  have B_cn : Hid (n_cn < 18446744073709551616) := Lib.hid (by rw [← e_cn]; exact wn_lt _)
  have E_cn := Lib.hid e_cn
  obtain ⟨n_co, e_co⟩ : ∃ n, wn e.co = n := ⟨_, rfl⟩
  have W_co : Hid (IntKind.u64.wrap e.co = (n_co : Int)) := Lib.hid (by rw [← e_co]; exact wn_eq _)
  have B_co : Hid (n_co < 18446744073709551616) := Lib.hid (by rw [← e_co]; exact wn_lt _)
  have E_co := Lib.hid e_co
  obtain ⟨n_cr, e_cr⟩ : ∃ n, wn e.cr = n := ⟨_, rfl⟩
  have W_cr : Hid (IntKind.u64.wrap e.cr = (n_cr : Int)) := Lib.hid (by rw [← e_cr]; exact wn_eq _)
  have B_cr : Hid (n_cr < 18446744073709551616) := Lib.hid (by rw [← e_cr]; exact wn_lt _)
  have E_cr := Lib.hid e_cr
  obtain ⟨l1, hl1⟩ : ∃ l, l = len + 12 := ⟨_, rfl⟩
  have HL1 := Lib.hid hl1
  obtain ⟨l2, hl2⟩ : ∃ l, l = len + 20 := ⟨_, rfl⟩
  have HL2 := Lib.hid hl2
  obtain ⟨l3, hl3⟩ : ∃ l, l = len + 22 := ⟨_, rfl⟩
  have HL3 := Lib.hid hl3
  obtain ⟨l4, hl4⟩ : ∃ l, l = len + 24 := ⟨_, rfl⟩
  have HL4 := Lib.hid hl4
  obtain ⟨l5, hl5⟩ : ∃ l, l = len + 25 := ⟨_, rfl⟩
  have HL5 := Lib.hid hl5
  obtain ⟨l6, hl6⟩ : ∃ l, l = len + 26 := ⟨_, rfl⟩
  have HL6 := Lib.hid hl6
  obtain ⟨l7, hl7⟩ : ∃ l, l = len + 30 := ⟨_, rfl⟩
  have HL7 := Lib.hid hl7
  have hwal : Below B w (w.alloc (.cells #[.int .i64 e.se, .int .i64 e.st, .int .i64 e.en, .int .i64 e.ad, .int .i64 e.le, .int .i64 e.cn, .int .i64 e.co, .int .u32 e.cr] 77)) := (Below.refl _ _).alloc hB _
  have HWAL := Lib.hid hwal
  have HBX : Hid (BoxKept w (w.alloc (.cells #[.int .i64 e.se, .int .i64 e.st, .int .i64 e.en, .int .i64 e.ad, .int .i64 e.le, .int .i64 e.cn, .int .i64 e.co, .int .u32 e.cr] 77))) := Lib.hid (BoxKept.of_below ((Below.refl _ _).alloc (Nat.le_refl _) _))
  have HO := Lib.hid (ho.alloc (.cells #[.int .i64 e.se, .int .i64 e.st, .int .i64 e.en, .int .i64 e.ad, .int .i64 e.le, .int .i64 e.cn, .int .i64 e.co, .int .u32 e.cr] 77))
  clear hlen hL hwal ho e_en e_ad e_le e_cn e_co e_cr hl1 hl2 hl3 hl4 hl5 hl6 hl7
  go_enter Try.func33, Try.ntmps33
  go_upto_region 1 with fail
  obtain ⟨W, eW⟩ : ∃ W, W = w.alloc (.cells #[.int .i64 e.se, .int .i64 e.st, .int .i64 e.en, .int .i64 e.ad, .int .i64 e.le, .int .i64 e.cn, .int .i64 e.co, .int .u32 e.cr] 77) := ⟨_, rfl⟩
  have hrow : W.heap[w.heap.size]? = some (.cells #[.int .i64 e.se, .int .i64 e.st, .int .i64 e.en, .int .i64 e.ad, .int .i64 e.le, .int .i64 e.cn, .int .i64 e.co, .int .u32 e.cr] 77 (0, 0)) := by rw [eW]; exact heap_alloc_new _ _
  rw [← eW] at HWAL HBX HO ⊢
  clear eW
  have a0 := nd_cell hrow 0 _ rfl
  have a1 := nd_cell hrow 1 _ rfl
  have HROW := Lib.hid hrow
  clear hrow
  go_wp2_with (first
    | (go_at_call 34; refine (putKey_b B len A c xs _ HLEN.out HO.out (Nat.le_trans hB HWAL.out.size) e.key hl l1 HL1.out).mono ?_; rintro e' w1 ⟨A1, c1, rfl, ho1, hb1, hx1⟩; have HO1 := Lib.hid ho1; have HB1 := Lib.hid (HWAL.out.trans hb1); have HX1 := Lib.hid (HBX.out.trans hx1); have HR1 := Lib.hid (hx1 _ _ 77 (by decide) HROW.out); have a2 := nd_cell HR1.out 2 _ rfl; clear ho1 hb1 hx1)
    | (go_at_call 35; rw [W_en.out]; refine (putHigh_b B l1 A1 c1 (xs ++ kyB e.key) _ (by simp [length_kyB, HLEN.out]; have := HL1.out; omega) HO1.out (Nat.le_trans hB HB1.out.size) 8 8 rfl (by omega) n_en B_en.out (by have := HL1.out; omega) l2 (by have := HL1.out; have := HL2.out; omega)).mono ?_; rintro e' w2 ⟨A2, c2, rfl, ho2, hb2, hx2⟩; have HO2 := Lib.hid ho2; have HB2 := Lib.hid (HB1.out.trans hb2); have HX2 := Lib.hid (HX1.out.trans hx2); have HR2 := Lib.hid (hx2 _ _ 77 (by decide) HR1.out); have a3 := nd_cell HR2.out 3 _ rfl; clear ho2 hb2 hx2)
    | (go_at_call 35; rw [W_ad.out]; refine (putHigh_b B l2 A2 c2 (xs ++ kyB e.key ++ be n_en 8) _ (by simp [length_be, length_kyB, HLEN.out]; have := HL2.out; omega) HO2.out (Nat.le_trans hB HB2.out.size) 2 2 rfl (by omega) n_ad B_ad.out (by have := HL2.out; omega) l3 (by have := HL2.out; have := HL3.out; omega)).mono ?_; rintro e' w3 ⟨A3, c3, rfl, ho3, hb3, hx3⟩; have HO3 := Lib.hid ho3; have HB3 := Lib.hid (HB2.out.trans hb3); have HX3 := Lib.hid (HX2.out.trans hx3); have HR3 := Lib.hid (hx3 _ _ 77 (by decide) HR2.out); have a4 := nd_cell HR3.out 4 _ rfl; clear ho3 hb3 hx3)
    | (go_at_call 35; rw [W_le.out]; refine (putHigh_b B l3 A3 c3 (xs ++ kyB e.key ++ be n_en 8 ++ be n_ad 2) _ (by simp [length_be, length_kyB, HLEN.out]; have := HL3.out; omega) HO3.out (Nat.le_trans hB HB3.out.size) 2 2 rfl (by omega) n_le B_le.out (by have := HL3.out; omega) l4 (by have := HL3.out; have := HL4.out; omega)).mono ?_; rintro e' w4 ⟨A4, c4, rfl, ho4, hb4, hx4⟩; have HO4 := Lib.hid ho4; have HB4 := Lib.hid (HB3.out.trans hb4); have HX4 := Lib.hid (HX3.out.trans hx4); have HR4 := Lib.hid (hx4 _ _ 77 (by decide) HR3.out); have a5 := nd_cell HR4.out 5 _ rfl; clear ho4 hb4 hx4)
    | (go_at_call 35; rw [W_cn.out]; refine (putHigh_b B l4 A4 c4 (xs ++ kyB e.key ++ be n_en 8 ++ be n_ad 2 ++ be n_le 2) _ (by simp [length_be, length_kyB, HLEN.out]; have := HL4.out; omega) HO4.out (Nat.le_trans hB HB4.out.size) 1 1 rfl (by omega) n_cn B_cn.out (by have := HL4.out; omega) l5 (by have := HL4.out; have := HL5.out; omega)).mono ?_; rintro e' w5 ⟨A5, c5, rfl, ho5, hb5, hx5⟩; have HO5 := Lib.hid ho5; have HB5 := Lib.hid (HB4.out.trans hb5); have HX5 := Lib.hid (HX4.out.trans hx5); have HR5 := Lib.hid (hx5 _ _ 77 (by decide) HR4.out); have a6 := nd_cell HR5.out 6 _ rfl; clear ho5 hb5 hx5)
    | (go_at_call 35; rw [W_co.out]; refine (putHigh_b B l5 A5 c5 (xs ++ kyB e.key ++ be n_en 8 ++ be n_ad 2 ++ be n_le 2 ++ be n_cn 1) _ (by simp [length_be, length_kyB, HLEN.out]; have := HL5.out; omega) HO5.out (Nat.le_trans hB HB5.out.size) 1 1 rfl (by omega) n_co B_co.out (by have := HL5.out; omega) l6 (by have := HL5.out; have := HL6.out; omega)).mono ?_; rintro e' w6 ⟨A6, c6, rfl, ho6, hb6, hx6⟩; have HO6 := Lib.hid ho6; have HB6 := Lib.hid (HB5.out.trans hb6); have HX6 := Lib.hid (HX5.out.trans hx6); have HR6 := Lib.hid (hx6 _ _ 77 (by decide) HR5.out); have a7 := nd_cell HR6.out 7 _ rfl; clear ho6 hb6 hx6)
    | (go_at_call 35; rw [W_cr.out]; refine (putHigh_b B l6 A6 c6 (xs ++ kyB e.key ++ be n_en 8 ++ be n_ad 2 ++ be n_le 2 ++ be n_cn 1 ++ be n_co 1) _ (by simp [length_be, length_kyB, HLEN.out]; have := HL6.out; omega) HO6.out (Nat.le_trans hB HB6.out.size) 4 4 rfl (by omega) n_cr B_cr.out (by have := HL6.out; omega) l7 (by have := HL6.out; have := HL7.out; omega)).mono ?_; rintro e' w7 ⟨A7, c7, rfl, ho7, hb7, hx7⟩; have HO7 := Lib.hid ho7; have HB7 := Lib.hid (HB6.out.trans hb7); have HX7 := Lib.hid (HX6.out.trans hx7); have HR7 := Lib.hid (hx7 _ _ 77 (by decide) HR6.out); clear ho7 hb7 hx7))
  go_ret
  have hlL : l7 = L := by have h1 := HL.out; have h2 := HL7.out; omega
  subst hlL
  refine ⟨A7, c7, rfl, ?_, HB7.out, HX7.out⟩
  have h7 := HO7.out
  rw [← E_en.out, ← E_ad.out, ← E_le.out, ← E_cn.out, ← E_co.out, ← E_cr.out] at h7
  simpa [enB, List.append_assoc] using h7
end Go.Proofs.Ytgkddhncfaeidaa
