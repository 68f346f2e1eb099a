/- Several texts in one: Free and Run of package bitmap. Take of package bitmap. The plain arithmetic of the sum of layer 2: a step, eight steps, a byte's step; that they are linear, that a byte's step by the table is eight steps of one bit. No program is named here. The calls of package crc, and the reference's sum, as contracts: what each answers, and that nothing that was there is changed. -/
import Derived.Test.YtgkddhncfaeidaaPart01
import Derived.Test.YtgkddhncfaeidaaChecked
import Derived.Test.YtgkddhncfaeidaaPart00
import Derived.WalkKit
import Derived.WalkLawsBesides
import Derived.WalkSpells
import Derived.Handy
import Derived.KernelRfl
set_option linter.unusedSimpArgs false
set_option linter.unusedVariables false
namespace Go.Proofs.Ytgkddhncfaeidaa
open Go.RowKit
set_option linter.unusedVariables false

/-- Two maps side by side, as a call of two begins. -/
theorem two_maps {p q : Int} {U V : List Bool} {C D : Array Value} (w : World) (eC : C = mapC p U) (eD : D = mapC q V) :
    MapAt ((w.alloc (.cells C 115)).alloc (.cells D 115)) w.heap.size 115 p U ∧ MapAt ((w.alloc (.cells C 115)).alloc (.cells D 115)) (w.heap.size + 1) 115 q V ∧ Below w.heap.size w ((w.alloc (.cells C 115)).alloc (.cells D 115)) := by
  refine ⟨by rw [eC]; exact (MapAt.new w _ p U).alloc _, by rw [eD]; have := MapAt.new (w.alloc (.cells C 115)) 115 q V; simpa using this, ((Below.refl _ _).alloc (Nat.le_refl _) _).alloc (by simp) _⟩

end Go.Proofs.Ytgkddhncfaeidaa

namespace Go.Proofs.Ytgkddhncfaeidaa
open Go.RowKit
set_option linter.unusedVariables false

theorem results_cell_tmpB {P : Program} {fn : Func} {p u : Tmp} {ty : TypeId} (h : fn.results = #[.cell p ty, .tmp u]) (tmps : Array Value) (w : World) (g : Nat) (t : TypeId) (cs : Array Value) (fr : Nat × Nat) (d : TypeDesc)
    (hp : tmps.getD p undef = .pointer (some ⟨g, 0, none⟩)) (hg : w.heap[g]? = some (.cells cs t fr))
    (hu : P.underlying ty = some d) (hd : (match d with | .struct _ | .array _ _ => true | _ => false) = true) (hi : (P.info? ty).map (·.size) = some cs.size) :
    (results fn tmps).run P w = .ok (.tuple #[.agg cs, tmps.getD u undef]) w := by
  have hp' : tmps[p]?.getD undef = .pointer (some ⟨g, 0, none⟩) := by simpa using hp
  simp [results, h, hp', asAddr, run_loadVar_row w g t ty cs fr d hg hu hd hi]
theorem results_cell_tmp3 {P : Program} {fn : Func} {p u v : Tmp} {ty : TypeId} (h : fn.results = #[.cell p ty, .tmp u, .tmp v]) (tmps : Array Value) (w : World) (g : Nat) (t : TypeId) (cs : Array Value) (fr : Nat × Nat) (d : TypeDesc)
    (hp : tmps.getD p undef = .pointer (some ⟨g, 0, none⟩)) (hg : w.heap[g]? = some (.cells cs t fr))
    (hu : P.underlying ty = some d) (hd : (match d with | .struct _ | .array _ _ => true | _ => false) = true) (hi : (P.info? ty).map (·.size) = some cs.size) :
    (results fn tmps).run P w = .ok (.tuple #[.agg cs, tmps.getD u undef, tmps.getD v undef]) w := by
  have hp' : tmps[p]?.getD undef = .pointer (some ⟨g, 0, none⟩) := by simpa using hp
  simp [results, h, hp', asAddr, run_loadVar_row w g t ty cs fr d hg hu hd hi]

/-- Nothing fits that ends at k at most, and the last f pages ahead of k are free. -/
def takeInv (p : Nat) (U V : List Bool) (n k f : Nat) : Prop :=
  f ≤ k ∧ f < n ∧ (∀ j, k - f ≤ j → j < k → U.getD j false = false ∧ V.getD j false = false) ∧ (f = k ∨ U.getD (k - f - 1) false = true ∨ V.getD (k - f - 1) false = true) ∧ ∀ a, a + n ≤ k → ¬ fits p U V n a
theorem takeInv_used {p : Nat} {U V : List Bool} {n k f : Nat} (hn : 1 ≤ n) (h : takeInv p U V n k f) (hu : U.getD k false = true ∨ V.getD k false = true) : takeInv p U V n (k + 1) 0 := by
  obtain ⟨h1, h2, h3, h4, h5⟩ := h
  refine ⟨by omega, by omega, fun j _ _ => by omega, .inr (by simpa using hu), fun a ha hf => ?_⟩
  by_cases hk : a + n ≤ k
  · exact h5 a hk hf
  · have := hf.2 (k - a) (by omega)
    rw [show a + (k - a) = k by omega] at this
    rcases hu with e | e
    · rw [this.1] at e; cases e
    · rw [this.2] at e; cases e
theorem takeInv_free {p : Nat} {U V : List Bool} {n k f : Nat} (hn : f + 1 < n) (h : takeInv p U V n k f) (hu : U.getD k false = false ∧ V.getD k false = false) : takeInv p U V n (k + 1) (f + 1) := by
  obtain ⟨h1, h2, h3, h4, h5⟩ := h
  refine ⟨by omega, hn, fun j hj1 hj2 => ?_, ?_, fun a ha hf => ?_⟩
  · by_cases hj : j = k
    · rw [hj]; exact hu
    · exact h3 j (by omega) (by omega)
  · rcases h4 with e | e
    · exact .inl (by omega)
    · exact .inr (by rw [show k + 1 - (f + 1) - 1 = k - f - 1 by omega]; exact e)
  · by_cases hk : a + n ≤ k
    · exact h5 a hk hf
    · rcases h4 with e | e
      · omega
      · by_cases hfk : f = k
        · omega
        · have := hf.2 (k - f - 1 - a) (by omega)
          rw [show a + (k - f - 1 - a) = k - f - 1 by omega] at this
          rcases e with e | e
          · rw [this.1] at e; cases e
          · rw [this.2] at e; cases e
theorem takeInv_full {p : Nat} {U V : List Bool} {n k f : Nat} (hkp : k < p) (hn : f + 1 = n) (h : takeInv p U V n k f) (hu : U.getD k false = false ∧ V.getD k false = false) : fits p U V n (k + 1 - n) ∧ ∀ a, a < k + 1 - n → ¬ fits p U V n a := by
  obtain ⟨h1, h2, h3, h4, h5⟩ := h
  refine ⟨⟨by omega, fun j hj => ?_⟩, fun a ha hf => h5 a (by omega) hf⟩
  by_cases hj2 : k + 1 - n + j = k
  · rw [hj2]; exact hu
  · exact h3 _ (by omega) (by omega)

set_option maxHeartbeats 4000000 in
set_option maxRecDepth 100000 in
theorem take_bm (p : Nat) (U V : List Bool) (hU : U.length = 512) (hV : V.length = 512) (okU : okM (p : Int) U) (okV : okM (p : Int) V) (n : Nat) (hn1 : 1 ≤ n) (w : World) (C D : Array Value) (eC : C = mapC (p : Int) U) (eD : D = mapC (p : Int) V) :
    Calls Try.prog 109 #[.agg C, .agg D, .int .i64 (n : Int)] w fun e w' =>
      ((∃ a, fits p U V n a ∧ (∀ a', a' < a → ¬ fits p U V n a') ∧ e = .returned (.tuple #[.agg (mapC (p : Int) (markN U a true n)), .int .i64 (a : Int), .int .i64 0])) ∨ ((∀ a, ¬ fits p U V n a) ∧ e = .returned (.tuple #[.agg Try.zeroCells115, .int .i64 0, .int .i64 5]))) ∧ Below w.heap.size w w' := by
  have hp : p ≤ 512 := by have := okU.2.1; omega
  obtain ⟨hm, hm2, hbl⟩ := two_maps w eC eD
  have d1 : decide ((n : Int) < 1) = false := by simp; omega
  have hS : Hid (some 513 = some C.size) := Lib.hid (by rw [eC, size_mapC hU])
  have hT : Hid (some 513 = some D.size) := Lib.hid (by rw [eD, size_mapC hV])
  obtain ⟨W, eW⟩ : ∃ W, W = ((w.alloc (.cells C 115)).alloc (.cells D 115)).alloc (.cells Try.zeroCells115 115) := ⟨_, rfl⟩
  have HM : Hid (MapAt W w.heap.size 115 (p : Int) U) := Lib.hid (by rw [eW]; exact hm.alloc _)
  have HM2 : Hid (MapAt W (w.heap.size + 1) 115 (p : Int) V) := Lib.hid (by rw [eW]; exact hm2.alloc _)
  have HBL : Hid (Below w.heap.size w W) := Lib.hid (by rw [eW]; exact hbl.alloc (by simp; omega) _)
  have HZ : Hid (W.heap[w.heap.size + 2]? = some (.cells Try.zeroCells115 115 (0, 0))) := Lib.hid (by rw [eW]; have := heap_alloc_new ((w.alloc (.cells C 115)).alloc (.cells D 115)) (.cells Try.zeroCells115 115); simpa using this)
  have hg1 : Hid (W.heap[w.heap.size]? = some (.cells C 115 (0, 0))) := Lib.hid (by rw [eC]; exact HM.out)
  have hg2 : Hid (W.heap[w.heap.size + 1]? = some (.cells D 115 (0, 0))) := Lib.hid (by rw [eD]; exact HM2.out)
  have HTG := Lib.hid (fun W => together_bm (p : Int) (p : Int) U V hU hV W C D eC eD true (by simp [okU, okV]))
  have hWs : Hid (W.heap.size = w.heap.size + 3) := Lib.hid (by rw [eW]; simp)
  have HMK : Hid (∀ (a : Nat) (za : Int) (W : World), za = (a : Int) → a + n ≤ 512 → Calls Try.prog 75 #[.agg C, .int .i64 za, .int .i64 (n : Int), .bool true] W fun e w' => e = .returned (.agg (mapC (p : Int) (markN U a true n))) ∧ Below W.heap.size W w') := Lib.hid (fun a za W hza h => by rw [eC]; exact marked_any (p : Int) U hU za n a n hza rfl h true W)
  have HLM : Hid (∀ a, some 513 = some (mapC (p : Int) (markN U a true n)).size) := Lib.hid (fun a => by rw [size_mapC (by rw [length_markN, hU])])
  have EW := Lib.hid eW.symm
  clear hm hm2 hbl eC eD okU okV eW
  go_enter Try.func109, Try.ntmps109
  go_upto_region 1 with fail
  rw [EW.out]
  go_wp2_with (first
    | (refine wpList_load_row rfl 115 (.tmp 3) rfl w.heap.size rfl 115 C (0, 0) _ hg1.out Try.underlying115 rfl (infoMap.trans hS.out) ?_)
    | (refine wpList_load_row rfl 115 (.tmp 4) rfl (w.heap.size + 1) rfl 115 D (0, 0) _ hg2.out Try.underlying115 rfl (infoMap.trans hT.out) ?_)
    | (go_at_call 119; (refine (HTG.out _).mono ?_); rintro e w1 ⟨rfl, hb1⟩; have M1 := Lib.hid (HM.out.below hb1 HM.out.lt); have M2 := Lib.hid (HM2.out.below hb1 HM2.out.lt); have k0 := M1.out.c0))
  have hbA : Below w.heap.size w w1 := HBL.out.trans (hb1.mono HBL.out.size)
  have hs1 : w.heap.size + 3 ≤ w1.heap.size := by have := hb1.size; rw [hWs.out] at this; exact this
  have HZ1 := Lib.hid ((hb1.block _ (by rw [hWs.out]; omega)).trans HZ.out)
  have HG1 := Lib.hid ((hb1.block _ (by rw [hWs.out]; omega)).trans hg1.out)
  clear hb1
  go_loop [9, 23] (fun f i => ∃ k r : Nat, k ≤ p ∧ i = .int .i64 k ∧ f = .int .i64 r ∧ Hid (takeInv p U V n k r)) (fun _ i => p - (intOf i).toNat)
  case atStart => exact ⟨0, 0, by omega, rfl, rfl, Lib.hid ⟨Nat.le_refl _, by omega, fun j _ h => by omega, .inl rfl, fun a h => by omega⟩⟩
  case round =>
    obtain ⟨k, r, hk, rfl, rfl, hI⟩ := hrel
    have hrk : r ≤ k := hI.out.1
    by_cases hlt : k < p
    · have hc := M1.out.cs k (by omega)
      have hd := M2.out.cs k (by omega)
      obtain ⟨u, hu⟩ : ∃ u, u = U.getD k false := ⟨_, rfl⟩
      obtain ⟨v, hv⟩ : ∃ v, v = V.getD k false := ⟨_, rfl⟩
      rw [← hu] at hc
      rw [← hv] at hd
      have HU := Lib.hid hu
      have HV := Lib.hid hv
      clear hu hv
      cases u
      · cases v
        · by_cases hfn : r + 1 = n
          · have dn : ((r : Int) + 1 == (n : Int)) = true := by simp; omega
            obtain ⟨hfit, hleast⟩ := takeInv_full hlt hfn hI.out ⟨HU.out.symm, HV.out.symm⟩
            obtain ⟨a, ha⟩ : ∃ a, a = k + 1 - n := ⟨_, rfl⟩
            rw [← ha] at hfit hleast
            have hae : (k : Int) + 1 - (n : Int) = (a : Int) := by omega
            have HAE := Lib.hid hae
            have HFN := Lib.hid hfn
            have han : a + n ≤ 512 := by have := hfit.1; omega
            clear hae ha hfn
            obtain ⟨C', eC'⟩ : ∃ C', C' = mapC (p : Int) (markN U a true n) := ⟨_, rfl⟩
            have hS' : Hid (some 513 = some C'.size) := Lib.hid (by rw [eC']; exact HLM.out a)
            have hO' : Hid (C'.all (·.oneCell') = true) := Lib.hid (by rw [eC']; exact one_mapC _ _)
            have EC' := Lib.hid eC'
            have HMK' : Hid (∀ W : World, Calls Try.prog 75 #[.agg C, .int .i64 (a : Int), .int .i64 (n : Int), .bool true] W fun e w' => e = .returned (.agg C') ∧ Below W.heap.size W w') := Lib.hid (fun W => by rw [eC']; exact HMK.out a a W rfl han)
            clear eC'
            go_wp2_with (first
              | (refine wpList_load_row rfl 115 (.tmp 3) rfl w.heap.size rfl 115 C (0, 0) _ HG1.out Try.underlying115 rfl (infoMap.trans hS.out) ?_)
              | (rw [HAE.out]; go_at_call 75; (refine (HMK'.out _).mono ?_); rintro e w2 ⟨rfl, hb2⟩; have HZ2 := Lib.hid ((hb2.block _ (by omega)).trans HZ1.out))
              | (refine wpList_store_row rfl 115 (.tmp 6) (.tmp 48) rfl (w.heap.size + 2) C' rfl rfl 115 Try.zeroCells115 HZ2.out (infoMap.trans hS'.out) (size_zeroMap.trans (Option.some.inj hS'.out)) hO'.out ?_))
            refine bodyPost_ret (v := .tuple #[.agg C', .int .i64 (a : Int), .int .i64 0]) (results_cell_tmp3 (p := 6) (u := 7) (v := 8) (ty := 115) rfl _ _ (w.heap.size + 2) 115 C' (0, 0) _ rfl (setRow_heap _ _ Try.zeroCells115 _ _ _ HZ2.out) Try.underlying115 rfl (infoMap.trans hS'.out)) rfl ⟨.inl ⟨a, hfit, hleast, by rw [EC'.out]⟩, ?_⟩
            exact below_setRow (hbA.trans (hb2.mono hbA.size)) (by omega) _
          · have dn : ((r : Int) + 1 == (n : Int)) = false := by simp; omega
            have hI2 := Lib.hid (takeInv_free (by have := hI.out.2.1; omega) hI.out ⟨HU.out.symm, HV.out.symm⟩)
            clear hfn
            go_wp2_with fail
            go_round
            case rel => exact ⟨k + 1, r + 1, by omega, by go_num, by go_num, hI2⟩
            case measure => simp [intOf]; omega
        · have hI2 := Lib.hid (takeInv_used hn1 hI.out (.inr HV.out.symm))
          go_wp2_with fail
          go_round
          case rel => exact ⟨k + 1, 0, by omega, by go_num, rfl, hI2⟩
          case measure => simp [intOf]; omega
      · have hI2 := Lib.hid (takeInv_used hn1 hI.out (.inl HU.out.symm))
        go_wp2_with fail
        go_round
        case rel => exact ⟨k + 1, 0, by omega, by go_num, rfl, hI2⟩
        case measure => simp [intOf]; omega
    · obtain rfl : k = p := by omega
      have hno : Hid (∀ a, ¬ fits k U V n a) := Lib.hid (fun a hf => hI.out.2.2.2.2 a hf.1 hf)
      have hSz : some 513 = some (Try.zeroCells115).size := by rw [size_zeroMap]
      have hOz : (Try.zeroCells115).all (·.oneCell') = true := by rw [zeroMap]; exact one_mapC _ _
      have HSZ := Lib.hid hSz
      have HOZ := Lib.hid hOz
      clear hSz hOz
      go_wp2_with (refine wpList_store_row rfl 115 (.tmp 6) (.tmp 51) rfl (w.heap.size + 2) Try.zeroCells115 rfl rfl 115 Try.zeroCells115 HZ1.out (infoMap.trans HSZ.out) rfl HOZ.out ?_)
      refine bodyPost_ret (v := .tuple #[.agg Try.zeroCells115, .int .i64 0, .int .i64 5]) (results_cell_tmp3 (p := 6) (u := 7) (v := 8) (ty := 115) rfl _ _ (w.heap.size + 2) 115 Try.zeroCells115 (0, 0) _ rfl (setRow_heap _ _ Try.zeroCells115 _ _ _ HZ1.out) Try.underlying115 rfl (infoMap.trans HSZ.out)) rfl ⟨.inr ⟨hno.out, rfl⟩, ?_⟩
      exact below_setRow hbA (by omega) _
end Go.Proofs.Ytgkddhncfaeidaa

namespace Go.Proofs.Ytgkddhncfaeidaa
namespace CrcM

/-- What a bit 0 makes of a number. -/
def stp (x : BitVec 32) : BitVec 32 := if x.getLsbD 0 then (x >>> 1) ^^^ 2197175160#32 else x >>> 1

/-- So many steps. -/
def stps : Nat → BitVec 32 → BitVec 32
  | 0, x => x
  | k + 1, x => stp (stps k x)

/-- The table's place i. -/
def tb (i : Nat) : BitVec 32 := stps 8 (BitVec.ofNat 32 i)

/-- A byte's step by the table. -/
def byteStep (x : BitVec 32) (c : UInt8) : BitVec 32 := (x >>> 8) ^^^ tb ((x.toNat % 256) ^^^ c.toNat)

/-- A row of bytes. -/
def run (x : BitVec 32) (l : List UInt8) : BitVec 32 := l.foldl byteStep x

/-- Behind: of a sum, and bytes behind. -/
def behind (s : BitVec 32) (l : List UInt8) : BitVec 32 := ~~~ run (~~~ s) l

/-- The sum of bytes. -/
def sum (l : List UInt8) : BitVec 32 := behind 0 l

/-! ### Bit by bit over a row of bytes -/

/-! ### Three rows of one length -/

/-! ### Bits that are turned -/

/-! ### The same on plain numbers below 4294967296: as the walks carry them -/

def stpN (n : Nat) : Nat := (stp (BitVec.ofNat 32 n)).toNat
def stpsN (k n : Nat) : Nat := (stps k (BitVec.ofNat 32 n)).toNat
def tbN (i : Nat) : Nat := (tb i).toNat
def byteN (n : Nat) (c : UInt8) : Nat := (byteStep (BitVec.ofNat 32 n) c).toNat
def rowN (n : Nat) (l : List UInt8) : Nat := (run (BitVec.ofNat 32 n) l).toNat
def behindN (n : Nat) (l : List UInt8) : Nat := (behind (BitVec.ofNat 32 n) l).toNat
def sumN (l : List UInt8) : Nat := (sum l).toNat

theorem stpsN_lt (k n : Nat) : stpsN k n < 4294967296 := (stps k (BitVec.ofNat 32 n)).isLt
theorem tbN_lt (i : Nat) : tbN i < 4294967296 := (tb i).isLt
theorem rowN_lt (n : Nat) (l : List UInt8) : rowN n l < 4294967296 := (run (BitVec.ofNat 32 n) l).isLt
theorem sumN_lt (l : List UInt8) : sumN l < 4294967296 := (sum l).isLt

theorem stpsN_zero {n : Nat} (h : n < 4294967296) : stpsN 0 n = n := by
  simp only [stpsN, stps, BitVec.toNat_ofNat]
  exact Nat.mod_eq_of_lt h
theorem stpsN_succ (k n : Nat) : stpN (stpsN k n) = stpsN (k + 1) n := by
  simp only [stpN, stpsN, stps, BitVec.ofNat_toNat, BitVec.setWidth_eq]
theorem stpsN_tb (i : Nat) : stpsN 8 i = tbN i := rfl
theorem rowN_nil {n : Nat} (h : n < 4294967296) : rowN n [] = n := by
  simp only [rowN, run, List.foldl_nil, BitVec.toNat_ofNat]
  exact Nat.mod_eq_of_lt h
theorem rowN_snoc (n : Nat) (l : List UInt8) (c : UInt8) : byteN (rowN n l) c = rowN n (l ++ [c]) := by
  simp only [byteN, rowN, BitVec.ofNat_toNat, BitVec.setWidth_eq, run, List.foldl_append, List.foldl_cons, List.foldl_nil]
theorem notN {n : Nat} (h : n < 4294967296) : (~~~ BitVec.ofNat 32 n).toNat = 4294967295 - n := by
  rw [BitVec.toNat_not, BitVec.toNat_ofNat, Nat.mod_eq_of_lt h]
theorem behindN_eq {n : Nat} (h : n < 4294967296) (l : List UInt8) : behindN n l = 4294967295 - rowN (4294967295 - n) l := by
  unfold behindN behind rowN
  have e : ~~~ BitVec.ofNat 32 n = BitVec.ofNat 32 (4294967295 - n) := by
    apply BitVec.eq_of_toNat_eq
    rw [notN h, BitVec.toNat_ofNat, Nat.mod_eq_of_lt (by omega)]
  rw [e, BitVec.toNat_not]
end CrcM
end Go.Proofs.Ytgkddhncfaeidaa

namespace Go.Proofs.Ytgkddhncfaeidaa
open Go.RowKit CrcM

theorem ret_eq {u v : Value} (h : u = v) : Ending.returned u = Ending.returned v := by rw [h]
theorem u32_eq {a b : Int} (h : a = b) : Value.int .u32 a = Value.int .u32 b := by rw [h]

theorem and1_u32 (n : Nat) (hn : n < 4294967296) : bits BinOp.and IntKind.u32 (n : Int) 1 = ((n % 2 : Nat) : Int) := by
  have e : bits BinOp.and IntKind.u32 (n : Int) ((1 : Nat) : Int) = ((n &&& 1 : Nat) : Int) := u32_and_nat _ _ hn (by omega)
  rw [Nat.and_one_is_mod] at e
  exact e

theorem stpN_cases (n : Nat) (hn : n < 4294967296) : stpN n = if n % 2 = 1 then (n / 2) ^^^ 2197175160 else n / 2 := by
  have e : (BitVec.ofNat 32 n).toNat = n := by rw [BitVec.toNat_ofNat]; exact Nat.mod_eq_of_lt hn
  have e0 : (BitVec.ofNat 32 n).getLsbD 0 = decide (n % 2 = 1) := by
    rw [← BitVec.testBit_toNat, e, Nat.testBit_zero]
  unfold stpN stp
  rw [e0]
  by_cases h : n % 2 = 1
  · simp only [h, decide_true, if_true]
    rw [BitVec.toNat_xor, BitVec.toNat_ushiftRight, e, Nat.shiftRight_eq_div_pow]
    rfl
  · simp only [h, decide_false, if_false, Bool.false_eq_true]
    rw [BitVec.toNat_ushiftRight, e, Nat.shiftRight_eq_div_pow]

theorem stp_odd_walk (n : Nat) (hn : n < 4294967296) (h : n % 2 = 1) : bits BinOp.xor IntKind.u32 ((n : Int) / 2) 2197175160 = (stpN n : Int) := by
  rw [stpN_cases n hn, if_pos h]
  exact u32_xor_nat (n / 2) 2197175160 (by omega) (by omega)

theorem stp_even_walk (n : Nat) (hn : n < 4294967296) (h : ¬ n % 2 = 1) : (n : Int) / 2 = (stpN n : Int) := by
  rw [stpN_cases n hn, if_neg h]
  rfl

theorem step_any (n : Nat) (hn : n < 4294967296) (w : World) : Calls Try.prog 74 #[.int .u32 n] w fun e w' => e = .returned (.int .u32 (stpN n)) ∧ w = w' := by
  go_enter Try.func74, Try.ntmps74
  go_wp2
  · have h : (bits BinOp.and IntKind.u32 (n : Int) 1 == 1) = true := by assumption
    go_ret
    refine ⟨ret_eq (u32_eq (stp_odd_walk n hn ?_)), rfl⟩
    rw [and1_u32 n hn] at h
    simp at h
    omega
  · have h : (bits BinOp.and IntKind.u32 (n : Int) 1 == 1) = false := by assumption
    go_ret
    refine ⟨ret_eq (u32_eq (stp_even_walk n hn ?_)), rfl⟩
    rw [and1_u32 n hn] at h
    simp at h
    omega

/-! ### New -/

/-- The table's cells, the first k of which stand. -/
def tabC (k : Nat) : Array Value := Array.ofFn (n := 256) fun i => .int .u32 (if i.val < k then (tbN i.val : Int) else 0)
/-- The table. -/
def tab : Array Value := tabC 256

theorem size_tabC (k : Nat) : (tabC k).size = 256 := by simp [tabC]
theorem tabC_get (k i : Nat) (hi : i < 256) : (tabC k)[i]? = some (.int .u32 (if i < k then (tbN i : Int) else 0)) := by
  simp [tabC, hi]
theorem tab_get (i : Nat) (hi : i < 256) : tab[i]? = some (.int .u32 (tbN i)) := by
  unfold tab
  rw [tabC_get 256 i hi, if_pos hi]
theorem tabC_set (k : Nat) (hk : k < 256) : (tabC k).setIfInBounds k (.int .u32 (tbN k)) = tabC (k + 1) := by
  apply Array.ext_getElem?
  intro i
  by_cases hi : i < 256
  · rw [tabC_get (k + 1) i hi]
    by_cases h : k = i
    · subst h
      simp [size_tabC, hk]
    · rw [Array.getElem?_setIfInBounds_ne h, tabC_get k i hi]
      by_cases h1 : i < k
      · simp [h1, show i < k + 1 by omega]
      · simp [h1, show ¬ i < k + 1 by omega]
  · have h1 : (tabC (k + 1))[i]? = none := by simp [size_tabC]; omega
    rw [h1]
    simp [size_tabC]; omega
theorem zero64 : Try.zeroCells111 = tabC 0 := by
  apply Array.ext_getElem?
  intro i
  have hz : Try.zeroCells111 = Array.replicate 256 (.int .u32 0) := by kernel_rfl
  rw [hz, Array.getElem?_replicate]
  by_cases hi : i < 256
  · rw [tabC_get 0 i hi, if_pos hi, if_neg (by omega)]
  · have h1 : (tabC 0)[i]? = none := by simp [size_tabC]; omega
    rw [h1, if_neg hi]

theorem info64 : (Try.prog.info? 111).map (·.size) = some 256 := by kernel_rfl
theorem tab_one (k : Nat) : (tabC k).all (·.oneCell') = true := by
  rw [Array.all_eq_true_iff_forall_mem]
  intro v hv
  simp only [tabC, Array.mem_ofFn] at hv
  obtain ⟨i, rfl⟩ := hv
  rfl
theorem below_setRow {B : Nat} {a w : World} (h : Below B a w) {g : Nat} (hg : B ≤ g) (c : Array Value) : Below B a (w.setRow g c) :=
  h.trans ⟨rfl, rfl, rfl, by simp, fun k hk => setRow_other _ _ _ _ (by omega)⟩

set_option maxRecDepth 100000 in
theorem new_any (w : World) : Calls Try.prog 54 #[] w fun e w' => e = .returned (.agg tab) ∧ Below w.heap.size w w' := by
  go_enter Try.func54, Try.ntmps54
  go_wp2_with fail
  rw [zero64]
  go_loopw [4] (fun i wr => ∃ k : Nat, k ≤ 256 ∧ i = .int .i64 k ∧ wr = (w.alloc (.cells (tabC 0) 111)).alloc (.cells (tabC k) 111)) (fun i _ => 256 - (intOf i).toNat)
  case atStart => exact ⟨0, by omega, rfl, rfl⟩
  case round =>
    obtain ⟨k, hk, rfl, rfl⟩ := hrel
    by_cases hlt : k < 256
    · have hd : decide ((k : Int) < 256) = true := by simp; omega
      go_wp2_with fail
      go_loop [3, 9] (fun n j => ∃ m : Nat, m ≤ 8 ∧ j = .int .i64 m ∧ n = .int .u32 (stpsN m k)) (fun _ j => 8 - (intOf j).toNat)
      case atStart => exact ⟨0, by omega, rfl, by rw [stpsN_zero (by omega)]⟩
      case round =>
        obtain ⟨m, hm, rfl, rfl⟩ := hrel
        have hb := stpsN_lt m k
        by_cases hm8 : m < 8
        · go_wp2_with (go_at_call 74; refine (step_any _ hb _).mono ?_; rintro e w' ⟨rfl, rfl⟩)
          go_round
          case rel => exact ⟨m + 1, by omega, by go_num, by rw [stpsN_succ]⟩
          case measure => simp [intOf]; omega
        · obtain rfl : m = 8 := by omega
          have hc : (tabC k)[k]? = some (.int .u32 0) := by rw [tabC_get k k hlt, if_neg (by omega)]
          have hset := tabC_set k hlt
          rw [← stpsN_tb] at hset
          have HS := Lib.hid hset
          clear hset
          go_wp2_with fail
          rw [HS.out]
          go_roundw
          case rel => exact ⟨k + 1, by omega, by go_num, rfl⟩
          case measure => simp [intOf]; omega
    · obtain rfl : k = 256 := by omega
      go_wp2_with (first
        | (refine wpList_load_row rfl 111 (.tmp 1) rfl (w.heap.size + 1) rfl 111 (tabC 256) (0, 0) _ (heap_alloc2_new _ _ _) Try.underlying111 rfl (by rw [size_tabC]; exact info64) ?_)
        | (refine wpList_store_row rfl 111 (.tmp 0) (.tmp 18) rfl w.heap.size (tabC 256) rfl rfl 111 (tabC 0) (heap_alloc2_old _ _ _) (by rw [size_tabC]; exact info64) (by rw [size_tabC, size_tabC]) (tab_one _) ?_))
      refine bodyPost_ret (v := .agg tab) (results_cell_row (p := 0) (ty := 111) rfl _ _ w.heap.size 111 (tabC 256) (0, 0) _ rfl (setRow_heap _ _ (tabC 0) _ _ _ (heap_alloc2_old _ _ _)) Try.underlying111 rfl (by rw [size_tabC]; exact info64)) rfl ⟨rfl, ?_⟩
      exact below_setRow (((Below.refl _ _).alloc (Nat.le_refl _) _).alloc (by simp) _) (Nat.le_refl _) _

end Go.Proofs.Ytgkddhncfaeidaa
