/- BitmapTurns: what stands in memory. -/
import Derived.Test.YtccjelkpppaomaaBmW
import Derived.Test.YtccjelkpppaomaaOwnV
import Derived.Test.YtccjelkpppaomaaRowKit
import Derived.Test.YtccjelkpppaomaaWays4
namespace Go.Proofs.Ytccjelkpppaomaa
open Go.RowKit
set_option linter.unusedVariables false

def nv (a : Nat) : Value := .int .i64 (a : Int)
theorem nv_one (xs : List Nat) : ∀ u ∈ xs.map nv, u.oneCell' = true := by
  intro u hu
  obtain ⟨c, _, rfl⟩ := List.mem_map.1 hu
  rfl
theorem infoInt : (Try.prog.info? 3).map (fun i => (i.zero, i.size, i.bytes)) = some (some (.int .i64 0), 1, 8) := by kernel_rfl
theorem modI (a : Int) (m : Nat) (h0 : 0 < m) (hm : m ≤ 1000000) : ∃ k : Nat, k < m ∧ wrap64 ((IntKind.u64.wrap a).tmod (m : Int)) = (k : Int) := by
  have h1 : 0 ≤ IntKind.u64.wrap a := by rw [IntKind.wrap_u64]; omega
  rw [Int.tmod_eq_emod_of_nonneg h1]
  have h2 : 0 ≤ IntKind.u64.wrap a % (m : Int) := Int.emod_nonneg _ (by omega)
  have h3 : IntKind.u64.wrap a % (m : Int) < (m : Int) := Int.emod_lt_of_pos _ (by omega)
  rw [IntWalk.wrap64_in (IntKind.u64.wrap a % (m : Int)) ⟨by omega, by omega⟩]
  exact ⟨(IntKind.u64.wrap a % (m : Int)).toNat, by omega, by omega⟩
theorem own_not_map {w : World} {base g : Nat} {v : Value} {E T : TypeId} {us : List Value} {p : Int} {U : List Bool} (ho : OwnV w base v E us) (hm : MapAt w g T p U) (hE : E ≠ T) : v.ownBlock ≠ some g := by
  intro h
  rcases ho.cases with ⟨h1, _⟩ | ⟨g', cap, cur, hv, _, _, _, hh, _⟩
  · rw [h1] at h; cases h
  · rw [hv] at h
    injection h with h
    subst h
    unfold MapAt at hm
    rw [hm] at hh
    injection hh with hh
    injection hh with h1 h2
    exact hE h2.symm
theorem map_grown {w w' : World} {g : Nat} {r : Option Nat} {T : TypeId} {p : Int} {U : List Bool} (hm : MapAt w g T p U) (hg : w.grownBy w' r) (hr : r ≠ some g) : MapAt w' g T p U := (hg.block g hm.lt (fun e => hr e.symm)).trans hm

/-- At the head of a round: the map in use, the empty one, the pages that were taken. -/
structure BtAt (w wr : World) (k g6 g7 : Nat) (U : List Bool) (had : List Nat) (hv : Value) : Prop where
  m6 : MapAt wr g6 64 (k : Int) U
  m7 : MapAt wr g7 64 (k : Int) map0
  own : OwnV wr w.heap.size hv 3 (had.map nv)
  inv : BtInv k U had
  bel : Below w.heap.size w wr
  l6 : w.heap.size ≤ g6
  ne : g6 ≠ g7

set_option maxHeartbeats 8000000 in
set_option maxRecDepth 100000 in
theorem bitmapTurns_walk (z : Int) (hz : (Lit.int .i64 z).wf = true) (A : Option Addr) (cap : Nat) (zs : List Int) {w : World} (hzs : NumRow .i64 w A zs) (lc : zs.length ≤ cap) (cm : cap ≤ maxLen) :
    Calls Try.prog 7 #[.int .i64 z, .slice A zs.length cap] w fun e w' => e = .returned (.bool true) ∧ Below w.heap.size w w' := by
  unfold maxLen at cm
  obtain ⟨K, hK, hke⟩ := modI z 100 (by omega) (by omega)
  obtain ⟨k, hk⟩ : ∃ k, k = 8 + K := ⟨_, rfl⟩
  have hk8 : 8 ≤ k := by omega
  have hk107 : k ≤ 107 := by omega
  have hke2 : wrap64 ((IntKind.u64.wrap z).tmod 100) = (K : Int) := hke
  have HKE : Hid (wrap64 ((8 : Int) + wrap64 ((IntKind.u64.wrap z).tmod 100)) = (k : Int)) := Lib.hid (by rw [hke2, IntWalk.wrap64_in _ ⟨by omega, by omega⟩]; omega)
  clear hke2
  have HZ := Lib.hid hzs.2
  obtain ⟨C, eC⟩ : ∃ C, C = mapC (k : Int) map0 := ⟨_, rfl⟩
  have hS : Hid (some 513 = some C.size) := Lib.hid (by rw [eC, size_mapC length_map0])
  have hO : Hid (C.all (·.oneCell') = true) := Lib.hid (by rw [eC]; exact one_mapC _ _)
  have HNW : Hid (∀ W, Calls Try.prog 30 #[.int .i64 (k : Int)] W fun e w' => e = .returned (.agg C) ∧ Below W.heap.size W w') := Lib.hid (fun W => by rw [eC]; exact new_bm (k : Int) k (by omega) W)
  have EC := Lib.hid eC
  clear hke hzs eC hK hk hz
  go_enter Try.func7, Try.ntmps7
  go_upto_region 2 with fail
  rw [HKE.out]
  go_upto_region 3 with (first
    | (go_at_call 30; (refine (HNW.out _).mono ?_); rintro e w1 ⟨rfl, hb1⟩)
    | (refine wpList_store_row rfl 64 (.tmp 6) (.tmp 24) rfl w1.heap.size C rfl rfl 64 Try.zeroCells64 (heap_alloc_new _ _) (infoMap.trans hS.out) (size_zeroMap.trans (Option.some.inj hS.out)) hO.out ?_; rw [World.setRow_alloc_new]))
  go_upto_region 4 with (first
    | (go_at_call 30; (refine (HNW.out _).mono ?_); rintro e w2 ⟨rfl, hb2⟩)
    | (refine wpList_store_row rfl 64 (.tmp 7) (.tmp 26) rfl w2.heap.size C rfl rfl 64 Try.zeroCells64 (heap_alloc_new _ _) (infoMap.trans hS.out) (size_zeroMap.trans (Option.some.inj hS.out)) hO.out ?_; rw [World.setRow_alloc_new]))
  obtain ⟨g6, e6⟩ : ∃ g, g = w1.heap.size := ⟨_, rfl⟩
  obtain ⟨g7, e7⟩ : ∃ g, g = w2.heap.size := ⟨_, rfl⟩
  obtain ⟨W0, eW⟩ : ∃ W0, W0 = w2.alloc (.cells C 64) := ⟨_, rfl⟩
  have s1 := hb1.size
  have s2 : w1.heap.size + 1 ≤ w2.heap.size := by have := hb2.size; simpa using this
  have HB0 : Hid (BtAt w W0 k g6 g7 map0 [] (.slice none 0 0)) := Lib.hid {
    m6 := by rw [eW, e6]; exact (((show MapAt (w1.alloc (.cells C 64)) w1.heap.size 64 (k : Int) map0 by rw [EC.out]; exact MapAt.new w1 _ _ _).below hb2 (by simp))).alloc _
    m7 := by rw [eW, e7, EC.out]; exact MapAt.new w2 _ _ _
    own := OwnV.nil _ _ _
    inv := BtInv.init k
    bel := by rw [eW]; exact ((hb1.alloc s1 _).trans (hb2.mono (by simp; omega))).alloc (by omega) _
    l6 := by omega
    ne := by omega }
  rw [← eW, ← e6, ← e7]
  clear eW e6 e7 hb1 hb2 s1 s2
  go_wp2_with fail
  go_loopw [8, 9] (fun hv i wr => ∃ (j : Nat) (U : List Bool) (had : List Nat) (A1 : Option Addr) (c1 n : Nat), j ≤ 100 ∧ j ≤ zs.length ∧ n ≤ j ∧ i = .int .i64 j ∧ hv = .slice A1 n c1 ∧ Hid (had.length = n) ∧ Hid (BtAt w wr k g6 g7 U had (.slice A1 n c1))) (fun _ i _ => 100 - (intOf i).toNat)
  case atStart => exact ⟨0, map0, [], none, 0, 0, by omega, by omega, by omega, rfl, rfl, Lib.hid rfl, HB0⟩
  case round =>
    obtain ⟨j, U, had, A1, c1, n, hj, hjz, hnj, rfl, rfl, hn, hB⟩ := hrel
    clear HB0
    have OU := hB.out.inv.ok hk8 (by omega)
    by_cases hlt : j < zs.length ∧ j < 100
    · obtain ⟨hlt1, hlt2⟩ := hlt
      obtain ⟨bz, off, rfl, hcell⟩ := HZ.out (by intro e; subst e; simp at hlt1)
      have hck := hcell j hlt1
      have hckr := (hB.out.bel.cell (p := ⟨bz, off + j, none⟩) (World.block_lt_of_cell? _ _ hck)).trans hck
      obtain ⟨zj, hzj⟩ : ∃ zj, zj = zs[j] := ⟨_, rfl⟩
      rw [← hzj] at hckr
      clear hcell hck hzj
      obtain ⟨b3, hb3⟩ : ∃ b3 : Bool, (zj.tmod 3 == 0) = b3 := ⟨_, rfl⟩
      by_cases hG : b3 = true ∧ 0 < n
      · obtain ⟨rfl, hn0⟩ := hG
        have M6 := Lib.hid hB.out.m6
        have M7 := Lib.hid hB.out.m7
        have HO := Lib.hid hB.out.own
        have HI := Lib.hid hB.out.inv
        have BEL := Lib.hid hB.out.bel
        have hl6 := hB.out.l6
        have hne := hB.out.ne
        obtain ⟨D, eD⟩ : ∃ D, D = mapC (k : Int) U := ⟨_, rfl⟩
        have hUl := hB.out.inv.len
        have hSD : Hid (some 513 = some D.size) := Lib.hid (by rw [eD, size_mapC hUl])
        have ED := Lib.hid eD
        have HN := Lib.hid hn.out
        clear eD hn hB
        obtain ⟨a, han, hae⟩ := modI zj n hn0 (by omega)
        have HAT := Lib.hid hae
        clear hae
        have hah : a < had.length := by rw [HN.out]; exact han
        obtain ⟨p, hp⟩ : ∃ p, p = had[a] := ⟨_, rfl⟩
        have hrng := HI.out.rng _ (List.getElem_mem hah)
        rw [← hp] at hrng
        have hpU : U.getD p false = true := by rw [HI.out.bit p, decide_eq_true (by rw [hp]; exact List.getElem_mem hah : p ∈ had), Bool.or_true]
        have HI' : Hid (BtInv k (markN U p false 1) (had.take a ++ had.drop (a + 1))) := Lib.hid (by rw [hp]; exact HI.out.give (by omega) hah)
        obtain ⟨C', eC'⟩ : ∃ C', C' = mapC (k : Int) (markN U p false 1) := ⟨_, rfl⟩
        have hS' : Hid (some 513 = some C'.size) := Lib.hid (by rw [eC', size_mapC (by rw [length_markN, hUl])])
        have hO' : Hid (C'.all (·.oneCell') = true) := Lib.hid (by rw [eC']; exact one_mapC _ _)
        have HGV : Hid (∀ W, Calls Try.prog 31 #[.agg D, .int .i64 (p : Int), .int .i64 1] W fun e w' => e = .returned (.tuple #[.agg C', .int .i64 0]) ∧ Below W.heap.size W w') := Lib.hid (fun W => by
          rw [eC']
          refine (give_bm k U hUl OU p 1 (by omega) hrng.1 (by omega) W D ED.out).mono fun e w' ⟨hr, hb⟩ => ⟨?_, hb⟩
          rcases hr with ⟨_, h⟩ | ⟨⟨i, h1, h2⟩, _⟩
          · exact h
          · obtain rfl : i = 0 := by omega
            rw [Nat.add_zero, hpU] at h2; cases h2)
        have EC' := Lib.hid eC'
        obtain ⟨gA, rfl⟩ : ∃ gA, A1 = some ⟨gA, 0, none⟩ := by
          rcases HO.out.cases with ⟨h1, h2⟩ | ⟨g', cp, cur, h1, _⟩
          · have := congrArg List.length h2; rw [List.length_map] at this; simp at this; subst this; simp at hah
          · injection h1 with h1; exact ⟨g', h1⟩
        obtain ⟨rb, rl, rc, rm, rlt, rcell, rfr⟩ := HO.out.row
        have hcA : wr.cell? ⟨gA, a, none⟩ = some (.int .i64 (p : Int)) := by
          have := rcell a (by rw [List.length_map]; exact hah)
          rw [this, hp]
          simp [nv]
        have HP := Lib.hid hp
        clear eC' hpU rcell rfr rl hp OU
        have h100 : decide ((j : Int) < 100) = true := by simp; omega
        have hai : (a : Int) < (n : Int) := by omega
        go_upto_region 10 with fail
        rw [HAT.out]
        go_cut [11, 12] from 27 to 114 (fun s11 s12 wx => ∃ g11, s11 = .pointer (some ⟨g11, 0, none⟩) ∧ s12 = .int .i64 0 ∧ Hid (MapAt wx g11 64 (k : Int) (markN U p false 1)) ∧ Hid (Below wr.heap.size wr wx))
        case first =>
          have f6 : Hid (∀ y : SubW wr.heap.size wr, y.at_.heap[g6]? = some (.cells D 64 (0, 0))) := fun y => by rw [ED.out]; exact M6.out.below y.ok_ M6.out.lt
          have fA : ∀ y : SubW wr.heap.size wr, y.at_.cell? ⟨gA, a, none⟩ = some (.int .i64 (p : Int)) := fun y => (y.ok_.cell (p := ⟨gA, a, none⟩) rlt).trans hcA
          refine region_ways4 wr.heap.size (Nat.le_refl _) (.two [0, 1, 2, 3, 4] 5 (.one [6, 7, 8] 9 (.one [] 10 (.done [11]))) 9 (.one [] 5 (.one [6, 7, 8] 10 (.done [11])))) (by kernel_rfl) (by kernel_rfl) ?_
          rintro w0 hbd
          rw [wpWays_two4]
          try simp only [List.map_cons, List.map_nil, opAt, List.getElem?_toArray, List.getElem?_cons_zero, List.getElem?_cons_succ, Option.getD_some]
          repeat (first
            | (go_big_quiet_want; refine quiet_load_row 64 (.tmp 6) rfl g6 rfl 64 D (0, 0) _ f6.out Try.underlying64 rfl (infoMap.trans hSD.out) ?_; simp only [Act.put, List.setIfInBounds_toArray, List.set_cons_zero, List.set_cons_succ]; go_big_quiet_on)
            | go_big_quiet_step (fail))
          refine wpQuiet_nil ⟨?_, ?_⟩
          · go_wp2_with (go_at_call 31; (refine (HGV.out _).mono ?_); rintro e w3 ⟨rfl, hb3⟩)
            have b3 : Below wr.heap.size wr w3 := hbd.trans (hb3.mono hbd.size)
            refine ⟨⟨⟨_, b3⟩, rfl⟩, ?_⟩
            try simp only [Act.put, List.setIfInBounds_toArray, List.set_cons_zero, List.set_cons_succ]
            rw [wpWays_one4]
            try simp only [List.map_cons, List.map_nil, opAt, List.getElem?_toArray, List.getElem?_cons_zero, List.getElem?_cons_succ, Option.getD_some]
            repeat (go_big_quiet_step (fail))
            refine wpQuiet_nil ?_
            go_wp2_with fail
            have b4 := b3.alloc b3.size (.cells Try.zeroCells64 64)
            refine ⟨⟨⟨_, b4⟩, rfl⟩, ?_⟩
            try simp only [Act.put, List.setIfInBounds_toArray, List.set_cons_zero, List.set_cons_succ]
            rw [wpWays_one4]
            try simp only [List.map_nil, opAt, List.getElem?_toArray, List.getElem?_cons_zero, List.getElem?_cons_succ, Option.getD_some]
            refine wpQuiet_nil ?_
            go_wp2_with (refine wpList_store_row rfl 64 (.tmp 11) (.tmp 65) rfl w3.heap.size C' rfl rfl 64 Try.zeroCells64 (heap_alloc_new _ _) (infoMap.trans hS'.out) (size_zeroMap.trans (Option.some.inj hS'.out)) hO'.out ?_; rw [World.setRow_alloc_new])
            have b5 := b3.alloc b3.size (.cells C' 64)
            refine ⟨⟨⟨_, b5⟩, rfl⟩, ?_⟩
            try simp only [Act.put, List.setIfInBounds_toArray, List.set_cons_zero, List.set_cons_succ]
            rw [wpWays_done4]
            try simp only [List.map_cons, List.map_nil, opAt, List.getElem?_toArray, List.getElem?_cons_zero, List.getElem?_cons_succ, Option.getD_some]
            repeat (go_big_quiet_step (fail))
            refine wpQuiet_nil ?_
            go_wp2_with fail
            go_meet
            exact ⟨_, rfl, rfl, Lib.hid (by rw [EC'.out]; exact MapAt.new w3 _ _ _), Lib.hid b5⟩
          · go_wp2_with fail
            have b4 := hbd.alloc hbd.size (.cells Try.zeroCells64 64)
            refine ⟨⟨⟨_, b4⟩, rfl⟩, ?_⟩
            try simp only [Act.put, List.setIfInBounds_toArray, List.set_cons_zero, List.set_cons_succ]
            rw [wpWays_one4]
            try simp only [List.map_nil, opAt, List.getElem?_toArray, List.getElem?_cons_zero, List.getElem?_cons_succ, Option.getD_some]
            refine wpQuiet_nil ?_
            go_wp2_with (go_at_call 31; (refine (HGV.out _).mono ?_); rintro e w3 ⟨rfl, hb3⟩)
            have b3 : Below wr.heap.size wr w3 := b4.trans (hb3.mono (by have := hbd.size; simp; omega))
            have hz3 := (hb3.block w0.heap.size (by simp)).trans (heap_alloc_new w0 _)
            refine ⟨⟨⟨_, b3⟩, rfl⟩, ?_⟩
            try simp only [Act.put, List.setIfInBounds_toArray, List.set_cons_zero, List.set_cons_succ]
            rw [wpWays_one4]
            try simp only [List.map_cons, List.map_nil, opAt, List.getElem?_toArray, List.getElem?_cons_zero, List.getElem?_cons_succ, Option.getD_some]
            repeat (go_big_quiet_step (fail))
            refine wpQuiet_nil ?_
            go_wp2_with (refine wpList_store_row rfl 64 (.tmp 11) (.tmp 65) rfl w0.heap.size C' rfl rfl 64 Try.zeroCells64 hz3 (infoMap.trans hS'.out) (size_zeroMap.trans (Option.some.inj hS'.out)) hO'.out ?_)
            have b5 := below_setRow b3 hbd.size C'
            refine ⟨⟨⟨_, b5⟩, rfl⟩, ?_⟩
            try simp only [Act.put, List.setIfInBounds_toArray, List.set_cons_zero, List.set_cons_succ]
            rw [wpWays_done4]
            try simp only [List.map_cons, List.map_nil, opAt, List.getElem?_toArray, List.getElem?_cons_zero, List.getElem?_cons_succ, Option.getD_some]
            repeat (go_big_quiet_step (fail))
            refine wpQuiet_nil ?_
            go_wp2_with fail
            go_meet
            exact ⟨_, rfl, rfl, Lib.hid (by unfold MapAt; rw [← EC'.out]; exact setRow_heap _ _ _ _ _ _ hz3), Lib.hid b5⟩
        case rest =>
          obtain ⟨g11, rfl, rfl, h11, hbc⟩ := hcut
          have HG11 : Hid (wc.heap[g11]? = some (.cells C' 64 (0, 0))) := Lib.hid (by rw [EC'.out]; exact h11.out)
          have HG6c : Hid (wc.heap[g6]? = some (.cells D 64 (0, 0))) := Lib.hid (by rw [ED.out]; exact M6.out.below hbc.out M6.out.lt)
          have M7c := Lib.hid (M7.out.below hbc.out M7.out.lt)
          have HOc := Lib.hid (HO.out.below hbc.out)
          have BELc := Lib.hid (BEL.out.trans (hbc.out.mono BEL.out.size))
          have n6 := own_not_map HOc.out (show MapAt wc g6 64 (k : Int) U by unfold MapAt; rw [← ED.out]; exact HG6c.out) (by decide)
          clear M6 M7 HO BEL hcA HGV
          go_upto_region 14 with (first
            | (refine wpList_load_row rfl 64 (.tmp 11) rfl g11 rfl 64 C' (0, 0) _ HG11.out Try.underlying64 rfl (infoMap.trans hS'.out) ?_)
            | (refine wpList_store_row rfl 64 (.tmp 6) (.tmp 69) rfl g6 C' rfl rfl 64 D HG6c.out (infoMap.trans hS'.out) (Option.some.inj (hSD.out.symm.trans hS'.out)) hO'.out ?_))
          try simp only [Act.put, List.setIfInBounds_toArray, List.set_cons_zero, List.set_cons_succ]
          have H6 : Hid (MapAt (wc.setRow g6 C') g6 64 (k : Int) (markN U p false 1)) := Lib.hid (by unfold MapAt; rw [← EC'.out]; exact setRow_heap _ _ _ _ _ _ HG6c.out)
          have H7 : Hid (MapAt (wc.setRow g6 C') g7 64 (k : Int) map0) := Lib.hid ((setRow_other _ _ _ _ (Ne.symm hne)).trans M7c.out)
          have HO := Lib.hid (HOc.out.keep (w' := wc.setRow g6 C') (fun g hg => setRow_other _ _ _ _ (fun e => n6 (by rw [hg, e]))))
          have BEL : Hid (Below w.heap.size w (wc.setRow g6 C')) := Lib.hid (below_setRow BELc.out hl6 _)
          clear HG11 HG6c M7c HOc BELc n6 h11 hbc
          have hac : (a : Int) ≤ (c1 : Int) := by omega
          have hac2 : (a : Int) + 1 ≤ (n : Int) := by omega
          have hac3 : (n : Int) ≤ (c1 : Int) := by omega
          have HL1 : Hid (((had.take a).map nv).length = a) := Lib.hid (by rw [List.length_map, List.length_take]; omega)
          have HL2 : Hid (((had.drop (a + 1)).map nv).length = n - (a + 1)) := Lib.hid (by rw [List.length_map, List.length_drop, HN.out])
          have HL3 : Hid (((had.take a ++ had.drop (a + 1)).map nv).length = n - 1) := Lib.hid (by rw [List.length_map, List.length_append, List.length_take, List.length_drop]; have := HN.out; omega)
          have HV3 : Hid ((had.take a).map nv ++ (had.drop (a + 1)).map nv = (had.take a ++ had.drop (a + 1)).map nv) := Lib.hid (by rw [List.map_append])
          have hC0 : CellsAt (wc.setRow g6 C') (some ⟨gA, 0, none⟩) (had.map nv) := HO.out.bytes
          have HC1 : Hid (CellsAt (wc.setRow g6 C') (some ⟨gA, 0, none⟩) ((had.take a).map nv)) := Lib.hid (by rw [List.map_take]; exact hC0.take a)
          obtain ⟨A', hA'⟩ : ∃ A' : Option Addr, A' = if c1 = a + 1 then some ⟨gA, 0, none⟩ else some ⟨gA, a + 1, none⟩ := ⟨_, rfl⟩
          have HC2 : Hid (CellsAt (wc.setRow g6 C') A' ((had.drop (a + 1)).map nv)) := Lib.hid (by
            rw [List.map_drop]
            refine hC0.cut (a + 1) A' (fun h => ?_)
            rw [List.length_map, HN.out] at h
            rw [hA', if_neg (by omega), Option.map_some]
            congr 1
            unfold Addr.add
            split
            · simp_all
            · simp)
          have HA' := Lib.hid hA'
          clear hC0 hA'
          by_cases hc1 : c1 = a + 1
          · have HC3 : Hid (CellsAt (wc.setRow g6 C') (some ⟨gA, 0, none⟩) ((had.drop (a + 1)).map nv)) := Lib.hid (by have hh := HC2.out; rw [HA'.out, if_pos hc1] at hh; exact hh)
            clear HA' HC2
            subst hc1
            obtain rfl : n = a + 1 := by omega
            have HV4 : Hid ((had.take a).map nv ++ [] = (had.take a ++ had.drop (a + 1)).map nv) := Lib.hid (by rw [List.drop_eq_nil_of_le (by rw [HN.out]; omega)]; simp)
            clear HC3
            refine region_ways4 (wc.setRow g6 C').heap.size (Nat.le_refl _) (.one [1, 2, 3, 5, 6, 7, 8] 0 (.one [] 4 (.one [] 9 (.done [10])))) (by kernel_rfl) (by kernel_rfl) ?_
            rintro w0 hbd
            rw [wpWays_one4]
            try simp only [List.map_cons, List.map_nil, opAt, List.getElem?_toArray, List.getElem?_cons_zero, List.getElem?_cons_succ, Option.getD_some]
            repeat (go_big_quiet_step (fail))
            refine wpQuiet_nil ?_
            go_wp2_with fail
            have b1 := hbd.alloc hbd.size (.cells #[] 3)
            refine ⟨⟨⟨_, b1⟩, rfl⟩, ?_⟩
            try simp only [Act.put, List.setIfInBounds_toArray, List.set_cons_zero, List.set_cons_succ]
            rw [wpWays_one4]
            try simp only [List.map_nil, opAt, List.getElem?_toArray, List.getElem?_cons_zero, List.getElem?_cons_succ, Option.getD_some]
            refine wpQuiet_nil ?_
            have ho1 : OwnV (w0.alloc (.cells #[] 3)) (wc.setRow g6 C').heap.size (.slice (some ⟨w0.heap.size, 0, none⟩) 0 0) 3 [] := OwnV.new w0 3 [] _ hbd.size (by unfold maxLen; simp)
            go_wp2_with (at_builtin; refine wpList_append_vz rfl (.tmp 70) (.tmp 73) 24 rfl Try.underlying24 _ 8 infoInt rfl rfl ho1 _ _ a ((had.take a).map nv) ((had.take a).map nv) rfl HL1.out (HC1.out.below b1) (nv_one _) (List.nil_append _) (by simp; omega) (by unfold maxLen; simp; omega) b1.size ?_; intro A4 c4 w4 ho4 hg4; rw [HL1.out] at ho4 ⊢)
            have b4 : Below (wc.setRow g6 C').heap.size (wc.setRow g6 C') w4 := ho1.belowGrown (Nat.le_refl _) b1.size b1 hg4
            refine ⟨⟨⟨_, b4⟩, rfl⟩, ?_⟩
            try simp only [Act.put, List.setIfInBounds_toArray, List.set_cons_zero, List.set_cons_succ]
            rw [wpWays_one4]
            try simp only [List.map_nil, opAt, List.getElem?_toArray, List.getElem?_cons_zero, List.getElem?_cons_succ, Option.getD_some]
            refine wpQuiet_nil ?_
            go_wp2_with (at_builtin; refine wpList_append_vz rfl (.tmp 74) (.tmp 78) 24 rfl Try.underlying24 _ 8 infoInt rfl rfl ho4 _ _ _ [] ((had.take a ++ had.drop (a + 1)).map nv) rfl (by simp) (CellsAt.nil _ _) (fun u hu => by cases hu) HV4.out (by rw [HL1.out]; omega) (by rw [HL1.out]; unfold maxLen; omega) b4.size ?_; intro A5 c5 w5 ho5 hg5; rw [HL3.out] at ho5 ⊢)
            have b5 : Below (wc.setRow g6 C').heap.size (wc.setRow g6 C') w5 := ho4.belowGrown (Nat.le_refl _) b4.size b4 hg5
            refine ⟨⟨⟨_, b5⟩, rfl⟩, ?_⟩
            try simp only [Act.put, List.setIfInBounds_toArray, List.set_cons_zero, List.set_cons_succ]
            rw [wpWays_done4]
            try simp only [List.map_cons, List.map_nil, opAt, List.getElem?_toArray, List.getElem?_cons_zero, List.getElem?_cons_succ, Option.getD_some]
            repeat (go_big_quiet_step (fail))
            refine wpQuiet_nil ?_
            go_wp2_with fail
            go_roundw
            case rel => exact ⟨j + 1, _, had.take a ++ had.drop (a + 1), A5, c5, a + 1 - 1, by omega, by omega, by omega, by go_num, rfl, Lib.hid (by have := HL3.out; rw [List.length_map] at this; exact this), Lib.hid ⟨H6.out.below b5 H6.out.lt, H7.out.below b5 H7.out.lt, ho5.mono BEL.out.size, HI'.out, BEL.out.trans (b5.mono BEL.out.size), hl6, hne⟩⟩
            case measure => simp [intOf]; omega
          · have HC3 : Hid (CellsAt (wc.setRow g6 C') (some ⟨gA, a + 1, none⟩) ((had.drop (a + 1)).map nv)) := Lib.hid (by have hh := HC2.out; rw [HA'.out, if_neg hc1] at hh; exact hh)
            clear HA' HC2
            refine region_ways4 (wc.setRow g6 C').heap.size (Nat.le_refl _) (.one [1, 2, 3, 5, 6, 7, 8] 0 (.one [] 4 (.one [] 9 (.done [10])))) (by kernel_rfl) (by kernel_rfl) ?_
            rintro w0 hbd
            rw [wpWays_one4]
            try simp only [List.map_cons, List.map_nil, opAt, List.getElem?_toArray, List.getElem?_cons_zero, List.getElem?_cons_succ, Option.getD_some]
            repeat (go_big_quiet_step (fail))
            refine wpQuiet_nil ?_
            go_wp2_with fail
            have b1 := hbd.alloc hbd.size (.cells #[] 3)
            refine ⟨⟨⟨_, b1⟩, rfl⟩, ?_⟩
            try simp only [Act.put, List.setIfInBounds_toArray, List.set_cons_zero, List.set_cons_succ]
            rw [wpWays_one4]
            try simp only [List.map_nil, opAt, List.getElem?_toArray, List.getElem?_cons_zero, List.getElem?_cons_succ, Option.getD_some]
            refine wpQuiet_nil ?_
            have ho1 : OwnV (w0.alloc (.cells #[] 3)) (wc.setRow g6 C').heap.size (.slice (some ⟨w0.heap.size, 0, none⟩) 0 0) 3 [] := OwnV.new w0 3 [] _ hbd.size (by unfold maxLen; simp)
            go_wp2_with (at_builtin; refine wpList_append_vz rfl (.tmp 70) (.tmp 73) 24 rfl Try.underlying24 _ 8 infoInt rfl rfl ho1 _ _ a ((had.take a).map nv) ((had.take a).map nv) rfl HL1.out (HC1.out.below b1) (nv_one _) (List.nil_append _) (by simp; omega) (by unfold maxLen; simp; omega) b1.size ?_; intro A4 c4 w4 ho4 hg4; rw [HL1.out] at ho4 ⊢)
            have b4 : Below (wc.setRow g6 C').heap.size (wc.setRow g6 C') w4 := ho1.belowGrown (Nat.le_refl _) b1.size b1 hg4
            refine ⟨⟨⟨_, b4⟩, rfl⟩, ?_⟩
            try simp only [Act.put, List.setIfInBounds_toArray, List.set_cons_zero, List.set_cons_succ]
            rw [wpWays_one4]
            try simp only [List.map_nil, opAt, List.getElem?_toArray, List.getElem?_cons_zero, List.getElem?_cons_succ, Option.getD_some]
            refine wpQuiet_nil ?_
            go_wp2_with (at_builtin; refine wpList_append_vz rfl (.tmp 74) (.tmp 78) 24 rfl Try.underlying24 _ 8 infoInt rfl rfl ho4 _ _ (n - (a + 1)) ((had.drop (a + 1)).map nv) ((had.take a ++ had.drop (a + 1)).map nv) rfl HL2.out (HC3.out.below b4) (nv_one _) HV3.out (by rw [HL1.out]; omega) (by rw [HL1.out]; unfold maxLen; omega) b4.size ?_; intro A5 c5 w5 ho5 hg5; rw [HL3.out] at ho5 ⊢)
            have b5 : Below (wc.setRow g6 C').heap.size (wc.setRow g6 C') w5 := ho4.belowGrown (Nat.le_refl _) b4.size b4 hg5
            refine ⟨⟨⟨_, b5⟩, rfl⟩, ?_⟩
            try simp only [Act.put, List.setIfInBounds_toArray, List.set_cons_zero, List.set_cons_succ]
            rw [wpWays_done4]
            try simp only [List.map_cons, List.map_nil, opAt, List.getElem?_toArray, List.getElem?_cons_zero, List.getElem?_cons_succ, Option.getD_some]
            repeat (go_big_quiet_step (fail))
            refine wpQuiet_nil ?_
            go_wp2_with fail
            go_roundw
            case rel => exact ⟨j + 1, _, had.take a ++ had.drop (a + 1), A5, c5, n - 1, by omega, by omega, by omega, by go_num, rfl, Lib.hid (by have := HL3.out; rw [List.length_map] at this; exact this), Lib.hid ⟨H6.out.below b5 H6.out.lt, H7.out.below b5 H7.out.lt, ho5.mono BEL.out.size, HI'.out, BEL.out.trans (b5.mono BEL.out.size), hl6, hne⟩⟩
            case measure => simp [intOf]; omega
      · have hG2 : b3 = false ∨ (b3 = true ∧ n = 0) := by
          rcases Nat.eq_zero_or_pos n with h | h
          · cases b3
            · exact .inl rfl
            · exact .inr ⟨rfl, h⟩
          · cases b3
            · exact .inl rfl
            · exact absurd ⟨rfl, h⟩ hG
        clear hG
        have dn : b3 = true → decide ((0 : Int) < (n : Int)) = false := by
          rcases hG2 with h | ⟨_, h⟩
          · intro h2; rw [h] at h2; cases h2
          · intro _; simp; omega
        have HDN := Lib.hid dn
        clear dn hG2
        have h100 : decide ((j : Int) < 100) = true := by simp; omega
        have M6 := Lib.hid hB.out.m6
        have M7 := Lib.hid hB.out.m7
        have HO := Lib.hid hB.out.own
        have HI := Lib.hid hB.out.inv
        have BEL := Lib.hid hB.out.bel
        have hl6 := hB.out.l6
        have hne := hB.out.ne
        obtain ⟨D, eD⟩ : ∃ D, D = mapC (k : Int) U := ⟨_, rfl⟩
        have hUl := hB.out.inv.len
        have hSD : Hid (some 513 = some D.size) := Lib.hid (by rw [eD, size_mapC hUl])
        have ED := Lib.hid eD
        have HN := Lib.hid hn.out
        clear eD hn
        have HG6 : Hid (wr.heap[g6]? = some (.cells D 64 (0, 0))) := Lib.hid (by rw [ED.out]; exact M6.out)
        have HG7 : Hid (wr.heap[g7]? = some (.cells C 64 (0, 0))) := Lib.hid (by rw [EC.out]; exact M7.out)
        have OM : Hid (okM (k : Int) map0) := Lib.hid ((BtInv.init k).ok hk8 (by omega))
        have OUU := Lib.hid OU
        clear OU
        have hpre : b3 = true ∨ b3 = false := by cases b3 <;> simp
        rcases hpre with rfl | rfl
        rotate_left 1
        · go_upto_region 17 with fail
          clear HDN
          go_loop [13, 14] (fun f p => ∃ q : Nat, 1 ≤ q ∧ q ≤ k - 1 ∧ p = .int .i64 (q : Int) ∧ ((f = .int .i64 (-1) ∧ Hid (∀ j, q < j → j < k → U.getD j false = true)) ∨ ∃ a : Nat, f = .int .i64 (a : Int) ∧ Hid (q < a ∧ a < k ∧ U.getD a false = false ∧ ∀ j, q < j → j < a → U.getD j false = true))) (fun _ p => (intOf p).toNat)
          case atStart => exact ⟨k - 1, by omega, Nat.le_refl _, by congr 1; omega, .inl ⟨rfl, Lib.hid (fun j h1 h2 => by omega)⟩⟩
          case round =>
            obtain ⟨q, hq1, hqk, rfl, hf⟩ := hrel
            by_cases hq2 : 2 ≤ q
            · have dq : decide ((2 : Int) ≤ (q : Int)) = true := by simp; omega
              have hc := M6.out.cs q (by omega)
              obtain ⟨u, hu⟩ : ∃ u, u = U.getD q false := ⟨_, rfl⟩
              rw [← hu] at hc
              have HU := Lib.hid hu
              clear hu
              have hqm : ((q : Int) - 1) = ((q - 1 : Nat) : Int) := by omega
              cases u
              · go_wp2_with fail
                go_round
                case rel =>
                  refine ⟨q - 1, by omega, by omega, rfl, .inr ⟨q, rfl, Lib.hid ⟨by omega, by omega, HU.out.symm, fun j h1 h2 => by omega⟩⟩⟩
                case measure => simp [intOf]; omega
              · rcases hf with ⟨rfl, hf⟩ | ⟨a, rfl, hf⟩
                · go_wp2_with fail
                  go_round
                  case rel =>
                    refine ⟨q - 1, by omega, by omega, rfl, .inl ⟨rfl, Lib.hid (fun j h1 h2 => ?_)⟩⟩
                    rcases Nat.lt_or_ge q j with h | h
                    · exact hf.out j h h2
                    · obtain rfl : j = q := by omega
                      exact HU.out.symm
                  case measure => simp [intOf]; omega
                · go_wp2_with fail
                  go_round
                  case rel =>
                    refine ⟨q - 1, by omega, by omega, rfl, .inr ⟨a, rfl, Lib.hid ⟨by have := hf.out.1; omega, hf.out.2.1, hf.out.2.2.1, fun j h1 h2 => ?_⟩⟩⟩
                    rcases Nat.lt_or_ge q j with h | h
                    · exact hf.out.2.2.2 j h h2
                    · obtain rfl : j = q := by omega
                      exact HU.out.symm
                  case measure => simp [intOf]; omega
            · obtain rfl : q = 1 := by omega
              rcases hf with ⟨rfl, hf⟩ | ⟨a, rfl, hf⟩
              · have hno : ∀ a, ¬ fits k U map0 1 a := fun a hfit => by
                  obtain ⟨h1, h2⟩ := (HI.out.fitsIff a).1 hfit
                  rcases Nat.lt_or_ge 1 a with h | h
                  · rw [hf.out a h h1] at h2; cases h2
                  · rw [HI.out.bit a, decide_eq_true (by omega : a < 2)] at h2; cases h2
                obtain ⟨Z, eZ⟩ : ∃ Z, Z = Try.zeroCells64 := ⟨_, rfl⟩
                have HSZ : Hid (some 513 = some Z.size) := Lib.hid (by rw [eZ, size_zeroMap])
                have HOZ : Hid (Z.all (·.oneCell') = true) := Lib.hid (by rw [eZ, zeroMap]; exact one_mapC _ _)
                have HTK : Hid (∀ W, Calls Try.prog 32 #[.agg D, .agg C, .int .i64 1] W fun e w' => e = .returned (.tuple #[.agg Z, .int .i64 0, .int .i64 5]) ∧ Below W.heap.size W w') := Lib.hid (fun W => by rw [eZ]; exact take_no k U map0 hUl length_map0 OUU.out OM.out 1 1 rfl (by omega) hno W D C ED.out EC.out)
                clear eZ hno
                go_wp2_with (first
                  | (refine wpList_load_row rfl 64 (.tmp 6) rfl g6 rfl 64 D (0, 0) _ HG6.out Try.underlying64 rfl (infoMap.trans hSD.out) ?_)
                  | (refine wpList_load_row rfl 64 (.tmp 7) rfl g7 rfl 64 C (0, 0) _ HG7.out Try.underlying64 rfl (infoMap.trans hS.out) ?_)
                  | (go_at_call 32; (refine (HTK.out _).mono ?_); rintro e w3 ⟨rfl, hb3⟩)
                  | (refine wpList_store_row rfl 64 (.tmp 15) (.tmp 96) rfl w3.heap.size Z rfl rfl 64 Try.zeroCells64 (heap_alloc_new _ _) (infoMap.trans HSZ.out) (size_zeroMap.trans (Option.some.inj HSZ.out)) HOZ.out ?_; rw [World.setRow_alloc_new]))
                go_roundw
                case rel =>
                  have hs3 := hb3.size
                  have hb4 : Below wr.heap.size wr (w3.alloc (.cells Z 64)) := hb3.alloc hs3 _
                  exact ⟨j + 1, U, had, A1, c1, n, by omega, by omega, by omega, by go_num, rfl, HN, Lib.hid ⟨M6.out.below hb4 M6.out.lt, M7.out.below hb4 M7.out.lt, HO.out.below hb4, HI.out, BEL.out.trans (hb4.mono BEL.out.size), hl6, hne⟩⟩
                case measure => simp [intOf]; omega
              · obtain ⟨ha1, hak, hau, hleast⟩ := hf.out
                have hfit : fits k U map0 1 a := (HI.out.fitsIff a).2 ⟨hak, hau⟩
                have hlst : ∀ a', a' < a → ¬ fits k U map0 1 a' := fun a' h hf' => by
                  obtain ⟨h1, h2⟩ := (HI.out.fitsIff a').1 hf'
                  rcases Nat.lt_or_ge 1 a' with h3 | h3
                  · rw [hleast a' h3 h] at h2; cases h2
                  · rw [HI.out.bit a', decide_eq_true (by omega : a' < 2)] at h2; cases h2
                have HI' := Lib.hid (HI.out.take (by omega) hak hau)
                obtain ⟨C', eC'⟩ : ∃ C', C' = mapC (k : Int) (markN U a true 1) := ⟨_, rfl⟩
                have hS' : Hid (some 513 = some C'.size) := Lib.hid (by rw [eC', size_mapC (by rw [length_markN, hUl])])
                have hO' : Hid (C'.all (·.oneCell') = true) := Lib.hid (by rw [eC']; exact one_mapC _ _)
                have HTK : Hid (∀ W, Calls Try.prog 32 #[.agg D, .agg C, .int .i64 1] W fun e w' => e = .returned (.tuple #[.agg C', .int .i64 (a : Int), .int .i64 0]) ∧ Below W.heap.size W w') := Lib.hid (fun W => by rw [eC']; exact take_yes k U map0 hUl length_map0 OUU.out OM.out 1 1 rfl (by omega) a hfit hlst W D C ED.out EC.out)
                have EC' := Lib.hid eC'
                clear eC' hfit hlst hf hau hleast
                go_upto_region 27 with (first
                  | (refine wpList_load_row rfl 64 (.tmp 6) rfl g6 rfl 64 D (0, 0) _ HG6.out Try.underlying64 rfl (infoMap.trans hSD.out) ?_)
                  | (refine wpList_load_row rfl 64 (.tmp 7) rfl g7 rfl 64 C (0, 0) _ HG7.out Try.underlying64 rfl (infoMap.trans hS.out) ?_)
                  | (go_at_call 32; (refine (HTK.out _).mono ?_); rintro e w3 ⟨rfl, hb3⟩)
                  | (refine wpList_store_row rfl 64 (.tmp 15) (.tmp 96) rfl w3.heap.size C' rfl rfl 64 Try.zeroCells64 (heap_alloc_new _ _) (infoMap.trans hS'.out) (size_zeroMap.trans (Option.some.inj hS'.out)) hO'.out ?_; rw [World.setRow_alloc_new]))
                obtain ⟨g15, e15⟩ : ∃ g, g = w3.heap.size := ⟨_, rfl⟩
                obtain ⟨W5, eW5⟩ : ∃ W5, W5 = w3.alloc (.cells C' 64) := ⟨_, rfl⟩
                have hb4 : Below wr.heap.size wr W5 := by rw [eW5]; exact hb3.alloc hb3.size _
                have H15 : Hid (MapAt W5 g15 64 (k : Int) (markN U a true 1)) := Lib.hid (by rw [eW5, e15, EC'.out]; exact MapAt.new w3 _ _ _)
                rw [← eW5, ← e15]
                have H6 := Lib.hid (M6.out.below hb4 M6.out.lt)
                have H7 := Lib.hid (M7.out.below hb4 M7.out.lt)
                have HO5 := Lib.hid (HO.out.below hb4)
                have BEL5 := Lib.hid (BEL.out.trans (hb4.mono BEL.out.size))
                clear HO BEL M6 M7 HG6 HG7 eW5 e15 hb3 hb4 HTK
                have HO := HO5
                have BEL := BEL5
                clear HO5 BEL5
                have HVZ : Hid (had.map nv ++ [nv a] = (had ++ [a]).map nv) := Lib.hid (by simp)
                have HL1 : Hid (((had.map nv).length + 1) * 8 ≤ 140737488355328) := Lib.hid (by rw [List.length_map, HN.out]; omega)
                have HL2 : Hid ((had.map nv).length + 1 ≤ maxLen) := Lib.hid (by rw [List.length_map, HN.out]; unfold maxLen; omega)
                have HL3 : Hid (((had ++ [a]).map nv).length = n + 1) := Lib.hid (by simp [HN.out])
                refine region_ways4 w.heap.size BEL.out.size (.two [1, 2] 0 (.one [] 3 (.one [] 4 (.one [] 5 (.done [6])))) 3 (.two [] 0 (.one [] 4 (.one [] 5 (.done [6]))) 4 (.one [] 0 (.one [] 5 (.done [6]))))) (by kernel_rfl) (by kernel_rfl) ?_
                rintro w0 hbd
                have hs : Below w.heap.size W5 w0 := hbd.mono BEL.out.size
                have h15 : MapAt w0 g15 64 (k : Int) (markN U a true 1) := H15.out.below hbd H15.out.lt
                have h6 : w0.heap[g6]? = some (.cells D 64 (0, 0)) := by rw [ED.out]; exact H6.out.below hbd H6.out.lt
                have h7 := H7.out.below hbd H7.out.lt
                have ho := HO.out.below hbd
                rw [wpWays_two4]
                try simp only [List.map_cons, List.map_nil, opAt, List.getElem?_toArray, List.getElem?_cons_zero, List.getElem?_cons_succ, Option.getD_some]
                repeat (go_big_quiet_step (fail))
                refine wpQuiet_nil ⟨?_, ?_⟩
                · skip
                  go_wp2_with (refine wpList_load_row rfl 64 (.tmp 15) rfl g15 rfl 64 C' (0, 0) _ (by rw [EC'.out]; exact h15) Try.underlying64 rfl (infoMap.trans hS'.out) ?_)
                  refine ⟨⟨⟨_, hs⟩, rfl⟩, ?_⟩
                  try simp only [Act.put, List.setIfInBounds_toArray, List.set_cons_zero, List.set_cons_succ]
                  rw [wpWays_one4]
                  try simp only [List.map_cons, List.map_nil, opAt, List.getElem?_toArray, List.getElem?_cons_zero, List.getElem?_cons_succ, Option.getD_some]
                  refine wpQuiet_nil ?_
                  go_wp2_with fail
                  have hgn : g6 ≠ w0.heap.size := Nat.ne_of_lt (Array.getElem?_eq_some_iff.1 h6).1
                  have hgb : (w0.alloc (Obj.cells #[.int .i64 (a : Int)] 3)).heap[w0.heap.size]? = some (.cells #[nv a] 3 (0, 0)) := heap_alloc_new _ _
                  have h6 : (w0.alloc (Obj.cells #[.int .i64 (a : Int)] 3)).heap[g6]? = some (.cells D 64 (0, 0)) := (heap_alloc_old _ _ (Array.getElem?_eq_some_iff.1 h6).1).trans h6
                  have h7 : MapAt (w0.alloc (Obj.cells #[.int .i64 (a : Int)] 3)) g7 64 (k : Int) map0 := h7.alloc _
                  have ho : OwnV (w0.alloc (Obj.cells #[.int .i64 (a : Int)] 3)) w.heap.size (.slice A1 n c1) 3 (had.map nv) := ho.alloc _
                  have hs : Below w.heap.size W5 (w0.alloc (Obj.cells #[.int .i64 (a : Int)] 3)) := hs.alloc (Nat.le_trans BEL.out.size hs.size) _
                  refine ⟨⟨⟨_, hs⟩, rfl⟩, ?_⟩
                  try simp only [Act.put, List.setIfInBounds_toArray, List.set_cons_zero, List.set_cons_succ]
                  rw [wpWays_one4]
                  try simp only [List.map_cons, List.map_nil, opAt, List.getElem?_toArray, List.getElem?_cons_zero, List.getElem?_cons_succ, Option.getD_some]
                  refine wpQuiet_nil ?_
                  go_wp2_with (at_builtin; refine wpList_append_vz rfl (.tmp 111) (.tmp 113) 24 rfl Try.underlying24 _ 8 infoInt rfl rfl ho _ _ 1 [nv a] ((had ++ [a]).map nv) rfl rfl (cellsAt_block [nv a] hgb) (nv_one [a]) HVZ.out HL1.out HL2.out (Nat.le_trans BEL.out.size hs.size) ?_; intro A2 c2 w2 ho2 hg2; rw [HL3.out] at ho2 ⊢)
                  have hg2 : (w0.alloc (Obj.cells #[.int .i64 (a : Int)] 3)).grownBy w2 (Value.slice A1 n c1).ownBlock := hg2
                  have n6 := own_not_map ho (show MapAt (w0.alloc (Obj.cells #[.int .i64 (a : Int)] 3)) g6 64 (k : Int) U by unfold MapAt; rw [← ED.out]; exact h6) (by decide)
                  have h6 : w2.heap[g6]? = some (.cells D 64 (0, 0)) := (hg2.block g6 (Array.getElem?_eq_some_iff.1 h6).1 (Ne.symm n6)).trans h6
                  have h7 := map_grown h7 hg2 (own_not_map ho h7 (by decide))
                  have hs : Below w.heap.size W5 w2 := ho.belowGrown (Nat.le_refl _) (Nat.le_trans BEL.out.size hs.size) hs hg2
                  refine ⟨⟨⟨_, hs⟩, rfl⟩, ?_⟩
                  try simp only [Act.put, List.setIfInBounds_toArray, List.set_cons_zero, List.set_cons_succ]
                  rw [wpWays_one4]
                  try simp only [List.map_cons, List.map_nil, opAt, List.getElem?_toArray, List.getElem?_cons_zero, List.getElem?_cons_succ, Option.getD_some]
                  refine wpQuiet_nil ?_
                  go_wp2_with (refine wpList_store_row rfl 64 (.tmp 6) (.tmp 110) rfl g6 C' rfl rfl 64 D h6 (infoMap.trans hS'.out) (Option.some.inj (hSD.out.symm.trans hS'.out)) hO'.out ?_)
                  have n6 := own_not_map ho2 (show MapAt w2 g6 64 (k : Int) U by unfold MapAt; rw [← ED.out]; exact h6) (by decide)
                  have h7 : MapAt (w2.setRow g6 C') g7 64 (k : Int) map0 := (setRow_other _ _ _ _ (Ne.symm hne)).trans h7
                  have ho2 := ho2.keep (w' := (w2.setRow g6 C')) (fun g hg => setRow_other _ _ _ _ (fun e => n6 (by rw [hg, e])))
                  have h6 : (w2.setRow g6 C').heap[g6]? = some (.cells C' 64 (0, 0)) := setRow_heap _ _ _ _ _ _ h6
                  have hs : Below w.heap.size W5 (w2.setRow g6 C') := below_setRow hs hl6 _
                  refine ⟨⟨⟨_, hs⟩, rfl⟩, ?_⟩
                  try simp only [Act.put, List.setIfInBounds_toArray, List.set_cons_zero, List.set_cons_succ]
                  rw [wpWays_done4]
                  try simp only [List.map_cons, List.map_nil, opAt, List.getElem?_toArray, List.getElem?_cons_zero, List.getElem?_cons_succ, Option.getD_some]
                  repeat (go_big_quiet_step (fail))
                  refine wpQuiet_nil ?_
                  go_wp2_with fail
                  go_roundw
                  case rel => exact ⟨j + 1, _, had ++ [a], A2, c2, n + 1, by omega, by omega, by omega, by go_num, rfl, Lib.hid (by simp [HN.out]), Lib.hid ⟨by unfold MapAt; rw [← EC'.out]; exact h6, h7, ho2, HI'.out, BEL.out.trans hs, hl6, hne⟩⟩
                  case measure => simp [intOf]; omega
                · skip
                  go_wp2_with fail
                  have hgn : g6 ≠ w0.heap.size := Nat.ne_of_lt (Array.getElem?_eq_some_iff.1 h6).1
                  have hgb : (w0.alloc (Obj.cells #[.int .i64 (a : Int)] 3)).heap[w0.heap.size]? = some (.cells #[nv a] 3 (0, 0)) := heap_alloc_new _ _
                  have h15 : MapAt (w0.alloc (Obj.cells #[.int .i64 (a : Int)] 3)) g15 64 (k : Int) (markN U a true 1) := h15.alloc _
                  have h6 : (w0.alloc (Obj.cells #[.int .i64 (a : Int)] 3)).heap[g6]? = some (.cells D 64 (0, 0)) := (heap_alloc_old _ _ (Array.getElem?_eq_some_iff.1 h6).1).trans h6
                  have h7 : MapAt (w0.alloc (Obj.cells #[.int .i64 (a : Int)] 3)) g7 64 (k : Int) map0 := h7.alloc _
                  have ho : OwnV (w0.alloc (Obj.cells #[.int .i64 (a : Int)] 3)) w.heap.size (.slice A1 n c1) 3 (had.map nv) := ho.alloc _
                  have hs : Below w.heap.size W5 (w0.alloc (Obj.cells #[.int .i64 (a : Int)] 3)) := hs.alloc (Nat.le_trans BEL.out.size hs.size) _
                  refine ⟨⟨⟨_, hs⟩, rfl⟩, ?_⟩
                  try simp only [Act.put, List.setIfInBounds_toArray, List.set_cons_zero, List.set_cons_succ]
                  rw [wpWays_two4]
                  try simp only [List.map_cons, List.map_nil, opAt, List.getElem?_toArray, List.getElem?_cons_zero, List.getElem?_cons_succ, Option.getD_some]
                  refine wpQuiet_nil ⟨?_, ?_⟩
                  · skip
                    go_wp2_with (refine wpList_load_row rfl 64 (.tmp 15) rfl g15 rfl 64 C' (0, 0) _ (by rw [EC'.out]; exact h15) Try.underlying64 rfl (infoMap.trans hS'.out) ?_)
                    refine ⟨⟨⟨_, hs⟩, rfl⟩, ?_⟩
                    try simp only [Act.put, List.setIfInBounds_toArray, List.set_cons_zero, List.set_cons_succ]
                    rw [wpWays_one4]
                    try simp only [List.map_cons, List.map_nil, opAt, List.getElem?_toArray, List.getElem?_cons_zero, List.getElem?_cons_succ, Option.getD_some]
                    refine wpQuiet_nil ?_
                    go_wp2_with (at_builtin; refine wpList_append_vz rfl (.tmp 111) (.tmp 113) 24 rfl Try.underlying24 _ 8 infoInt rfl rfl ho _ _ 1 [nv a] ((had ++ [a]).map nv) rfl rfl (cellsAt_block [nv a] hgb) (nv_one [a]) HVZ.out HL1.out HL2.out (Nat.le_trans BEL.out.size hs.size) ?_; intro A2 c2 w6 ho2 hg2; rw [HL3.out] at ho2 ⊢)
                    have hg2 : (w0.alloc (Obj.cells #[.int .i64 (a : Int)] 3)).grownBy w6 (Value.slice A1 n c1).ownBlock := hg2
                    have n6 := own_not_map ho (show MapAt (w0.alloc (Obj.cells #[.int .i64 (a : Int)] 3)) g6 64 (k : Int) U by unfold MapAt; rw [← ED.out]; exact h6) (by decide)
                    have h6 : w6.heap[g6]? = some (.cells D 64 (0, 0)) := (hg2.block g6 (Array.getElem?_eq_some_iff.1 h6).1 (Ne.symm n6)).trans h6
                    have h7 := map_grown h7 hg2 (own_not_map ho h7 (by decide))
                    have hs : Below w.heap.size W5 w6 := ho.belowGrown (Nat.le_refl _) (Nat.le_trans BEL.out.size hs.size) hs hg2
                    refine ⟨⟨⟨_, hs⟩, rfl⟩, ?_⟩
                    try simp only [Act.put, List.setIfInBounds_toArray, List.set_cons_zero, List.set_cons_succ]
                    rw [wpWays_one4]
                    try simp only [List.map_cons, List.map_nil, opAt, List.getElem?_toArray, List.getElem?_cons_zero, List.getElem?_cons_succ, Option.getD_some]
                    refine wpQuiet_nil ?_
                    go_wp2_with (refine wpList_store_row rfl 64 (.tmp 6) (.tmp 110) rfl g6 C' rfl rfl 64 D h6 (infoMap.trans hS'.out) (Option.some.inj (hSD.out.symm.trans hS'.out)) hO'.out ?_)
                    have n6 := own_not_map ho2 (show MapAt w6 g6 64 (k : Int) U by unfold MapAt; rw [← ED.out]; exact h6) (by decide)
                    have h7 : MapAt (w6.setRow g6 C') g7 64 (k : Int) map0 := (setRow_other _ _ _ _ (Ne.symm hne)).trans h7
                    have ho2 := ho2.keep (w' := (w6.setRow g6 C')) (fun g hg => setRow_other _ _ _ _ (fun e => n6 (by rw [hg, e])))
                    have h6 : (w6.setRow g6 C').heap[g6]? = some (.cells C' 64 (0, 0)) := setRow_heap _ _ _ _ _ _ h6
                    have hs : Below w.heap.size W5 (w6.setRow g6 C') := below_setRow hs hl6 _
                    refine ⟨⟨⟨_, hs⟩, rfl⟩, ?_⟩
                    try simp only [Act.put, List.setIfInBounds_toArray, List.set_cons_zero, List.set_cons_succ]
                    rw [wpWays_done4]
                    try simp only [List.map_cons, List.map_nil, opAt, List.getElem?_toArray, List.getElem?_cons_zero, List.getElem?_cons_succ, Option.getD_some]
                    repeat (go_big_quiet_step (fail))
                    refine wpQuiet_nil ?_
                    go_wp2_with fail
                    go_roundw
                    case rel => exact ⟨j + 1, _, had ++ [a], A2, c2, n + 1, by omega, by omega, by omega, by go_num, rfl, Lib.hid (by simp [HN.out]), Lib.hid ⟨by unfold MapAt; rw [← EC'.out]; exact h6, h7, ho2, HI'.out, BEL.out.trans hs, hl6, hne⟩⟩
                    case measure => simp [intOf]; omega
                  · skip
                    go_wp2_with (at_builtin; refine wpList_append_vz rfl (.tmp 111) (.tmp 113) 24 rfl Try.underlying24 _ 8 infoInt rfl rfl ho _ _ 1 [nv a] ((had ++ [a]).map nv) rfl rfl (cellsAt_block [nv a] hgb) (nv_one [a]) HVZ.out HL1.out HL2.out (Nat.le_trans BEL.out.size hs.size) ?_; intro A2 c2 w9 ho2 hg2; rw [HL3.out] at ho2 ⊢)
                    have hg2 : (w0.alloc (Obj.cells #[.int .i64 (a : Int)] 3)).grownBy w9 (Value.slice A1 n c1).ownBlock := hg2
                    have n6 := own_not_map ho (show MapAt (w0.alloc (Obj.cells #[.int .i64 (a : Int)] 3)) g6 64 (k : Int) U by unfold MapAt; rw [← ED.out]; exact h6) (by decide)
                    have h15 := map_grown h15 hg2 (own_not_map ho h15 (by decide))
                    have h6 : w9.heap[g6]? = some (.cells D 64 (0, 0)) := (hg2.block g6 (Array.getElem?_eq_some_iff.1 h6).1 (Ne.symm n6)).trans h6
                    have h7 := map_grown h7 hg2 (own_not_map ho h7 (by decide))
                    have hs : Below w.heap.size W5 w9 := ho.belowGrown (Nat.le_refl _) (Nat.le_trans BEL.out.size hs.size) hs hg2
                    refine ⟨⟨⟨_, hs⟩, rfl⟩, ?_⟩
                    try simp only [Act.put, List.setIfInBounds_toArray, List.set_cons_zero, List.set_cons_succ]
                    rw [wpWays_one4]
                    try simp only [List.map_cons, List.map_nil, opAt, List.getElem?_toArray, List.getElem?_cons_zero, List.getElem?_cons_succ, Option.getD_some]
                    refine wpQuiet_nil ?_
                    go_wp2_with (refine wpList_load_row rfl 64 (.tmp 15) rfl g15 rfl 64 C' (0, 0) _ (by rw [EC'.out]; exact h15) Try.underlying64 rfl (infoMap.trans hS'.out) ?_)
                    refine ⟨⟨⟨_, hs⟩, rfl⟩, ?_⟩
                    try simp only [Act.put, List.setIfInBounds_toArray, List.set_cons_zero, List.set_cons_succ]
                    rw [wpWays_one4]
                    try simp only [List.map_cons, List.map_nil, opAt, List.getElem?_toArray, List.getElem?_cons_zero, List.getElem?_cons_succ, Option.getD_some]
                    refine wpQuiet_nil ?_
                    go_wp2_with (refine wpList_store_row rfl 64 (.tmp 6) (.tmp 110) rfl g6 C' rfl rfl 64 D h6 (infoMap.trans hS'.out) (Option.some.inj (hSD.out.symm.trans hS'.out)) hO'.out ?_)
                    have n6 := own_not_map ho2 (show MapAt w9 g6 64 (k : Int) U by unfold MapAt; rw [← ED.out]; exact h6) (by decide)
                    have h7 : MapAt (w9.setRow g6 C') g7 64 (k : Int) map0 := (setRow_other _ _ _ _ (Ne.symm hne)).trans h7
                    have ho2 := ho2.keep (w' := (w9.setRow g6 C')) (fun g hg => setRow_other _ _ _ _ (fun e => n6 (by rw [hg, e])))
                    have h6 : (w9.setRow g6 C').heap[g6]? = some (.cells C' 64 (0, 0)) := setRow_heap _ _ _ _ _ _ h6
                    have hs : Below w.heap.size W5 (w9.setRow g6 C') := below_setRow hs hl6 _
                    refine ⟨⟨⟨_, hs⟩, rfl⟩, ?_⟩
                    try simp only [Act.put, List.setIfInBounds_toArray, List.set_cons_zero, List.set_cons_succ]
                    rw [wpWays_done4]
                    try simp only [List.map_cons, List.map_nil, opAt, List.getElem?_toArray, List.getElem?_cons_zero, List.getElem?_cons_succ, Option.getD_some]
                    repeat (go_big_quiet_step (fail))
                    refine wpQuiet_nil ?_
                    go_wp2_with fail
                    go_roundw
                    case rel => exact ⟨j + 1, _, had ++ [a], A2, c2, n + 1, by omega, by omega, by omega, by go_num, rfl, Lib.hid (by simp [HN.out]), Lib.hid ⟨by unfold MapAt; rw [← EC'.out]; exact h6, h7, ho2, HI'.out, BEL.out.trans hs, hl6, hne⟩⟩
                    case measure => simp [intOf]; omega
        · have dn := HDN.out rfl
          have dn2 : decide (0 < n) = false := by simp at dn; simp; omega
          have dn3 : n = 0 := by simp at dn; omega
          have HDN3 := Lib.hid dn3
          clear dn3
          go_upto_region 17 with fail
          all_goals (try (exfalso; have := HDN3.out; omega))
          clear HDN
          go_loop [13, 14] (fun f p => ∃ q : Nat, 1 ≤ q ∧ q ≤ k - 1 ∧ p = .int .i64 (q : Int) ∧ ((f = .int .i64 (-1) ∧ Hid (∀ j, q < j → j < k → U.getD j false = true)) ∨ ∃ a : Nat, f = .int .i64 (a : Int) ∧ Hid (q < a ∧ a < k ∧ U.getD a false = false ∧ ∀ j, q < j → j < a → U.getD j false = true))) (fun _ p => (intOf p).toNat)
          case atStart => exact ⟨k - 1, by omega, Nat.le_refl _, by congr 1; omega, .inl ⟨rfl, Lib.hid (fun j h1 h2 => by omega)⟩⟩
          case round =>
            obtain ⟨q, hq1, hqk, rfl, hf⟩ := hrel
            by_cases hq2 : 2 ≤ q
            · have dq : decide ((2 : Int) ≤ (q : Int)) = true := by simp; omega
              have hc := M6.out.cs q (by omega)
              obtain ⟨u, hu⟩ : ∃ u, u = U.getD q false := ⟨_, rfl⟩
              rw [← hu] at hc
              have HU := Lib.hid hu
              clear hu
              have hqm : ((q : Int) - 1) = ((q - 1 : Nat) : Int) := by omega
              cases u
              · go_wp2_with fail
                go_round
                case rel =>
                  refine ⟨q - 1, by omega, by omega, rfl, .inr ⟨q, rfl, Lib.hid ⟨by omega, by omega, HU.out.symm, fun j h1 h2 => by omega⟩⟩⟩
                case measure => simp [intOf]; omega
              · rcases hf with ⟨rfl, hf⟩ | ⟨a, rfl, hf⟩
                · go_wp2_with fail
                  go_round
                  case rel =>
                    refine ⟨q - 1, by omega, by omega, rfl, .inl ⟨rfl, Lib.hid (fun j h1 h2 => ?_)⟩⟩
                    rcases Nat.lt_or_ge q j with h | h
                    · exact hf.out j h h2
                    · obtain rfl : j = q := by omega
                      exact HU.out.symm
                  case measure => simp [intOf]; omega
                · go_wp2_with fail
                  go_round
                  case rel =>
                    refine ⟨q - 1, by omega, by omega, rfl, .inr ⟨a, rfl, Lib.hid ⟨by have := hf.out.1; omega, hf.out.2.1, hf.out.2.2.1, fun j h1 h2 => ?_⟩⟩⟩
                    rcases Nat.lt_or_ge q j with h | h
                    · exact hf.out.2.2.2 j h h2
                    · obtain rfl : j = q := by omega
                      exact HU.out.symm
                  case measure => simp [intOf]; omega
            · obtain rfl : q = 1 := by omega
              rcases hf with ⟨rfl, hf⟩ | ⟨a, rfl, hf⟩
              · have hno : ∀ a, ¬ fits k U map0 1 a := fun a hfit => by
                  obtain ⟨h1, h2⟩ := (HI.out.fitsIff a).1 hfit
                  rcases Nat.lt_or_ge 1 a with h | h
                  · rw [hf.out a h h1] at h2; cases h2
                  · rw [HI.out.bit a, decide_eq_true (by omega : a < 2)] at h2; cases h2
                obtain ⟨Z, eZ⟩ : ∃ Z, Z = Try.zeroCells64 := ⟨_, rfl⟩
                have HSZ : Hid (some 513 = some Z.size) := Lib.hid (by rw [eZ, size_zeroMap])
                have HOZ : Hid (Z.all (·.oneCell') = true) := Lib.hid (by rw [eZ, zeroMap]; exact one_mapC _ _)
                have HTK : Hid (∀ W, Calls Try.prog 32 #[.agg D, .agg C, .int .i64 1] W fun e w' => e = .returned (.tuple #[.agg Z, .int .i64 0, .int .i64 5]) ∧ Below W.heap.size W w') := Lib.hid (fun W => by rw [eZ]; exact take_no k U map0 hUl length_map0 OUU.out OM.out 1 1 rfl (by omega) hno W D C ED.out EC.out)
                clear eZ hno
                go_wp2_with (first
                  | (refine wpList_load_row rfl 64 (.tmp 6) rfl g6 rfl 64 D (0, 0) _ HG6.out Try.underlying64 rfl (infoMap.trans hSD.out) ?_)
                  | (refine wpList_load_row rfl 64 (.tmp 7) rfl g7 rfl 64 C (0, 0) _ HG7.out Try.underlying64 rfl (infoMap.trans hS.out) ?_)
                  | (go_at_call 32; (refine (HTK.out _).mono ?_); rintro e w3 ⟨rfl, hb3⟩)
                  | (refine wpList_store_row rfl 64 (.tmp 15) (.tmp 96) rfl w3.heap.size Z rfl rfl 64 Try.zeroCells64 (heap_alloc_new _ _) (infoMap.trans HSZ.out) (size_zeroMap.trans (Option.some.inj HSZ.out)) HOZ.out ?_; rw [World.setRow_alloc_new]))
                go_roundw
                case rel =>
                  have hs3 := hb3.size
                  have hb4 : Below wr.heap.size wr (w3.alloc (.cells Z 64)) := hb3.alloc hs3 _
                  exact ⟨j + 1, U, had, A1, c1, n, by omega, by omega, by omega, by go_num, rfl, HN, Lib.hid ⟨M6.out.below hb4 M6.out.lt, M7.out.below hb4 M7.out.lt, HO.out.below hb4, HI.out, BEL.out.trans (hb4.mono BEL.out.size), hl6, hne⟩⟩
                case measure => simp [intOf]; omega
              · obtain ⟨ha1, hak, hau, hleast⟩ := hf.out
                have hfit : fits k U map0 1 a := (HI.out.fitsIff a).2 ⟨hak, hau⟩
                have hlst : ∀ a', a' < a → ¬ fits k U map0 1 a' := fun a' h hf' => by
                  obtain ⟨h1, h2⟩ := (HI.out.fitsIff a').1 hf'
                  rcases Nat.lt_or_ge 1 a' with h3 | h3
                  · rw [hleast a' h3 h] at h2; cases h2
                  · rw [HI.out.bit a', decide_eq_true (by omega : a' < 2)] at h2; cases h2
                have HI' := Lib.hid (HI.out.take (by omega) hak hau)
                obtain ⟨C', eC'⟩ : ∃ C', C' = mapC (k : Int) (markN U a true 1) := ⟨_, rfl⟩
                have hS' : Hid (some 513 = some C'.size) := Lib.hid (by rw [eC', size_mapC (by rw [length_markN, hUl])])
                have hO' : Hid (C'.all (·.oneCell') = true) := Lib.hid (by rw [eC']; exact one_mapC _ _)
                have HTK : Hid (∀ W, Calls Try.prog 32 #[.agg D, .agg C, .int .i64 1] W fun e w' => e = .returned (.tuple #[.agg C', .int .i64 (a : Int), .int .i64 0]) ∧ Below W.heap.size W w') := Lib.hid (fun W => by rw [eC']; exact take_yes k U map0 hUl length_map0 OUU.out OM.out 1 1 rfl (by omega) a hfit hlst W D C ED.out EC.out)
                have EC' := Lib.hid eC'
                clear eC' hfit hlst hf hau hleast
                go_upto_region 27 with (first
                  | (refine wpList_load_row rfl 64 (.tmp 6) rfl g6 rfl 64 D (0, 0) _ HG6.out Try.underlying64 rfl (infoMap.trans hSD.out) ?_)
                  | (refine wpList_load_row rfl 64 (.tmp 7) rfl g7 rfl 64 C (0, 0) _ HG7.out Try.underlying64 rfl (infoMap.trans hS.out) ?_)
                  | (go_at_call 32; (refine (HTK.out _).mono ?_); rintro e w3 ⟨rfl, hb3⟩)
                  | (refine wpList_store_row rfl 64 (.tmp 15) (.tmp 96) rfl w3.heap.size C' rfl rfl 64 Try.zeroCells64 (heap_alloc_new _ _) (infoMap.trans hS'.out) (size_zeroMap.trans (Option.some.inj hS'.out)) hO'.out ?_; rw [World.setRow_alloc_new]))
                obtain ⟨g15, e15⟩ : ∃ g, g = w3.heap.size := ⟨_, rfl⟩
                obtain ⟨W5, eW5⟩ : ∃ W5, W5 = w3.alloc (.cells C' 64) := ⟨_, rfl⟩
                have hb4 : Below wr.heap.size wr W5 := by rw [eW5]; exact hb3.alloc hb3.size _
                have H15 : Hid (MapAt W5 g15 64 (k : Int) (markN U a true 1)) := Lib.hid (by rw [eW5, e15, EC'.out]; exact MapAt.new w3 _ _ _)
                rw [← eW5, ← e15]
                have H6 := Lib.hid (M6.out.below hb4 M6.out.lt)
                have H7 := Lib.hid (M7.out.below hb4 M7.out.lt)
                have HO5 := Lib.hid (HO.out.below hb4)
                have BEL5 := Lib.hid (BEL.out.trans (hb4.mono BEL.out.size))
                clear HO BEL M6 M7 HG6 HG7 eW5 e15 hb3 hb4 HTK
                have HO := HO5
                have BEL := BEL5
                clear HO5 BEL5
                have HVZ : Hid (had.map nv ++ [nv a] = (had ++ [a]).map nv) := Lib.hid (by simp)
                have HL1 : Hid (((had.map nv).length + 1) * 8 ≤ 140737488355328) := Lib.hid (by rw [List.length_map, HN.out]; omega)
                have HL2 : Hid ((had.map nv).length + 1 ≤ maxLen) := Lib.hid (by rw [List.length_map, HN.out]; unfold maxLen; omega)
                have HL3 : Hid (((had ++ [a]).map nv).length = n + 1) := Lib.hid (by simp [HN.out])
                refine region_ways4 w.heap.size BEL.out.size (.two [1, 2] 0 (.one [] 3 (.one [] 4 (.one [] 5 (.done [6])))) 3 (.two [] 0 (.one [] 4 (.one [] 5 (.done [6]))) 4 (.one [] 0 (.one [] 5 (.done [6]))))) (by kernel_rfl) (by kernel_rfl) ?_
                rintro w0 hbd
                have hs : Below w.heap.size W5 w0 := hbd.mono BEL.out.size
                have h15 : MapAt w0 g15 64 (k : Int) (markN U a true 1) := H15.out.below hbd H15.out.lt
                have h6 : w0.heap[g6]? = some (.cells D 64 (0, 0)) := by rw [ED.out]; exact H6.out.below hbd H6.out.lt
                have h7 := H7.out.below hbd H7.out.lt
                have ho := HO.out.below hbd
                rw [wpWays_two4]
                try simp only [List.map_cons, List.map_nil, opAt, List.getElem?_toArray, List.getElem?_cons_zero, List.getElem?_cons_succ, Option.getD_some]
                repeat (go_big_quiet_step (fail))
                refine wpQuiet_nil ⟨?_, ?_⟩
                · skip
                  go_wp2_with (refine wpList_load_row rfl 64 (.tmp 15) rfl g15 rfl 64 C' (0, 0) _ (by rw [EC'.out]; exact h15) Try.underlying64 rfl (infoMap.trans hS'.out) ?_)
                  refine ⟨⟨⟨_, hs⟩, rfl⟩, ?_⟩
                  try simp only [Act.put, List.setIfInBounds_toArray, List.set_cons_zero, List.set_cons_succ]
                  rw [wpWays_one4]
                  try simp only [List.map_cons, List.map_nil, opAt, List.getElem?_toArray, List.getElem?_cons_zero, List.getElem?_cons_succ, Option.getD_some]
                  refine wpQuiet_nil ?_
                  go_wp2_with fail
                  have hgn : g6 ≠ w0.heap.size := Nat.ne_of_lt (Array.getElem?_eq_some_iff.1 h6).1
                  have hgb : (w0.alloc (Obj.cells #[.int .i64 (a : Int)] 3)).heap[w0.heap.size]? = some (.cells #[nv a] 3 (0, 0)) := heap_alloc_new _ _
                  have h6 : (w0.alloc (Obj.cells #[.int .i64 (a : Int)] 3)).heap[g6]? = some (.cells D 64 (0, 0)) := (heap_alloc_old _ _ (Array.getElem?_eq_some_iff.1 h6).1).trans h6
                  have h7 : MapAt (w0.alloc (Obj.cells #[.int .i64 (a : Int)] 3)) g7 64 (k : Int) map0 := h7.alloc _
                  have ho : OwnV (w0.alloc (Obj.cells #[.int .i64 (a : Int)] 3)) w.heap.size (.slice A1 n c1) 3 (had.map nv) := ho.alloc _
                  have hs : Below w.heap.size W5 (w0.alloc (Obj.cells #[.int .i64 (a : Int)] 3)) := hs.alloc (Nat.le_trans BEL.out.size hs.size) _
                  refine ⟨⟨⟨_, hs⟩, rfl⟩, ?_⟩
                  try simp only [Act.put, List.setIfInBounds_toArray, List.set_cons_zero, List.set_cons_succ]
                  rw [wpWays_one4]
                  try simp only [List.map_cons, List.map_nil, opAt, List.getElem?_toArray, List.getElem?_cons_zero, List.getElem?_cons_succ, Option.getD_some]
                  refine wpQuiet_nil ?_
                  go_wp2_with (at_builtin; refine wpList_append_vz rfl (.tmp 111) (.tmp 113) 24 rfl Try.underlying24 _ 8 infoInt rfl rfl ho _ _ 1 [nv a] ((had ++ [a]).map nv) rfl rfl (cellsAt_block [nv a] hgb) (nv_one [a]) HVZ.out HL1.out HL2.out (Nat.le_trans BEL.out.size hs.size) ?_; intro A2 c2 w2 ho2 hg2; rw [HL3.out] at ho2 ⊢)
                  have hg2 : (w0.alloc (Obj.cells #[.int .i64 (a : Int)] 3)).grownBy w2 (Value.slice A1 n c1).ownBlock := hg2
                  have n6 := own_not_map ho (show MapAt (w0.alloc (Obj.cells #[.int .i64 (a : Int)] 3)) g6 64 (k : Int) U by unfold MapAt; rw [← ED.out]; exact h6) (by decide)
                  have h6 : w2.heap[g6]? = some (.cells D 64 (0, 0)) := (hg2.block g6 (Array.getElem?_eq_some_iff.1 h6).1 (Ne.symm n6)).trans h6
                  have h7 := map_grown h7 hg2 (own_not_map ho h7 (by decide))
                  have hs : Below w.heap.size W5 w2 := ho.belowGrown (Nat.le_refl _) (Nat.le_trans BEL.out.size hs.size) hs hg2
                  refine ⟨⟨⟨_, hs⟩, rfl⟩, ?_⟩
                  try simp only [Act.put, List.setIfInBounds_toArray, List.set_cons_zero, List.set_cons_succ]
                  rw [wpWays_one4]
                  try simp only [List.map_cons, List.map_nil, opAt, List.getElem?_toArray, List.getElem?_cons_zero, List.getElem?_cons_succ, Option.getD_some]
                  refine wpQuiet_nil ?_
                  go_wp2_with (refine wpList_store_row rfl 64 (.tmp 6) (.tmp 110) rfl g6 C' rfl rfl 64 D h6 (infoMap.trans hS'.out) (Option.some.inj (hSD.out.symm.trans hS'.out)) hO'.out ?_)
                  have n6 := own_not_map ho2 (show MapAt w2 g6 64 (k : Int) U by unfold MapAt; rw [← ED.out]; exact h6) (by decide)
                  have h7 : MapAt (w2.setRow g6 C') g7 64 (k : Int) map0 := (setRow_other _ _ _ _ (Ne.symm hne)).trans h7
                  have ho2 := ho2.keep (w' := (w2.setRow g6 C')) (fun g hg => setRow_other _ _ _ _ (fun e => n6 (by rw [hg, e])))
                  have h6 : (w2.setRow g6 C').heap[g6]? = some (.cells C' 64 (0, 0)) := setRow_heap _ _ _ _ _ _ h6
                  have hs : Below w.heap.size W5 (w2.setRow g6 C') := below_setRow hs hl6 _
                  refine ⟨⟨⟨_, hs⟩, rfl⟩, ?_⟩
                  try simp only [Act.put, List.setIfInBounds_toArray, List.set_cons_zero, List.set_cons_succ]
                  rw [wpWays_done4]
                  try simp only [List.map_cons, List.map_nil, opAt, List.getElem?_toArray, List.getElem?_cons_zero, List.getElem?_cons_succ, Option.getD_some]
                  repeat (go_big_quiet_step (fail))
                  refine wpQuiet_nil ?_
                  go_wp2_with fail
                  go_roundw
                  case rel => exact ⟨j + 1, _, had ++ [a], A2, c2, n + 1, by omega, by omega, by omega, by go_num, rfl, Lib.hid (by simp [HN.out]), Lib.hid ⟨by unfold MapAt; rw [← EC'.out]; exact h6, h7, ho2, HI'.out, BEL.out.trans hs, hl6, hne⟩⟩
                  case measure => simp [intOf]; omega
                · skip
                  go_wp2_with fail
                  have hgn : g6 ≠ w0.heap.size := Nat.ne_of_lt (Array.getElem?_eq_some_iff.1 h6).1
                  have hgb : (w0.alloc (Obj.cells #[.int .i64 (a : Int)] 3)).heap[w0.heap.size]? = some (.cells #[nv a] 3 (0, 0)) := heap_alloc_new _ _
                  have h15 : MapAt (w0.alloc (Obj.cells #[.int .i64 (a : Int)] 3)) g15 64 (k : Int) (markN U a true 1) := h15.alloc _
                  have h6 : (w0.alloc (Obj.cells #[.int .i64 (a : Int)] 3)).heap[g6]? = some (.cells D 64 (0, 0)) := (heap_alloc_old _ _ (Array.getElem?_eq_some_iff.1 h6).1).trans h6
                  have h7 : MapAt (w0.alloc (Obj.cells #[.int .i64 (a : Int)] 3)) g7 64 (k : Int) map0 := h7.alloc _
                  have ho : OwnV (w0.alloc (Obj.cells #[.int .i64 (a : Int)] 3)) w.heap.size (.slice A1 n c1) 3 (had.map nv) := ho.alloc _
                  have hs : Below w.heap.size W5 (w0.alloc (Obj.cells #[.int .i64 (a : Int)] 3)) := hs.alloc (Nat.le_trans BEL.out.size hs.size) _
                  refine ⟨⟨⟨_, hs⟩, rfl⟩, ?_⟩
                  try simp only [Act.put, List.setIfInBounds_toArray, List.set_cons_zero, List.set_cons_succ]
                  rw [wpWays_two4]
                  try simp only [List.map_cons, List.map_nil, opAt, List.getElem?_toArray, List.getElem?_cons_zero, List.getElem?_cons_succ, Option.getD_some]
                  refine wpQuiet_nil ⟨?_, ?_⟩
                  · skip
                    go_wp2_with (refine wpList_load_row rfl 64 (.tmp 15) rfl g15 rfl 64 C' (0, 0) _ (by rw [EC'.out]; exact h15) Try.underlying64 rfl (infoMap.trans hS'.out) ?_)
                    refine ⟨⟨⟨_, hs⟩, rfl⟩, ?_⟩
                    try simp only [Act.put, List.setIfInBounds_toArray, List.set_cons_zero, List.set_cons_succ]
                    rw [wpWays_one4]
                    try simp only [List.map_cons, List.map_nil, opAt, List.getElem?_toArray, List.getElem?_cons_zero, List.getElem?_cons_succ, Option.getD_some]
                    refine wpQuiet_nil ?_
                    go_wp2_with (at_builtin; refine wpList_append_vz rfl (.tmp 111) (.tmp 113) 24 rfl Try.underlying24 _ 8 infoInt rfl rfl ho _ _ 1 [nv a] ((had ++ [a]).map nv) rfl rfl (cellsAt_block [nv a] hgb) (nv_one [a]) HVZ.out HL1.out HL2.out (Nat.le_trans BEL.out.size hs.size) ?_; intro A2 c2 w6 ho2 hg2; rw [HL3.out] at ho2 ⊢)
                    have hg2 : (w0.alloc (Obj.cells #[.int .i64 (a : Int)] 3)).grownBy w6 (Value.slice A1 n c1).ownBlock := hg2
                    have n6 := own_not_map ho (show MapAt (w0.alloc (Obj.cells #[.int .i64 (a : Int)] 3)) g6 64 (k : Int) U by unfold MapAt; rw [← ED.out]; exact h6) (by decide)
                    have h6 : w6.heap[g6]? = some (.cells D 64 (0, 0)) := (hg2.block g6 (Array.getElem?_eq_some_iff.1 h6).1 (Ne.symm n6)).trans h6
                    have h7 := map_grown h7 hg2 (own_not_map ho h7 (by decide))
                    have hs : Below w.heap.size W5 w6 := ho.belowGrown (Nat.le_refl _) (Nat.le_trans BEL.out.size hs.size) hs hg2
                    refine ⟨⟨⟨_, hs⟩, rfl⟩, ?_⟩
                    try simp only [Act.put, List.setIfInBounds_toArray, List.set_cons_zero, List.set_cons_succ]
                    rw [wpWays_one4]
                    try simp only [List.map_cons, List.map_nil, opAt, List.getElem?_toArray, List.getElem?_cons_zero, List.getElem?_cons_succ, Option.getD_some]
                    refine wpQuiet_nil ?_
                    go_wp2_with (refine wpList_store_row rfl 64 (.tmp 6) (.tmp 110) rfl g6 C' rfl rfl 64 D h6 (infoMap.trans hS'.out) (Option.some.inj (hSD.out.symm.trans hS'.out)) hO'.out ?_)
                    have n6 := own_not_map ho2 (show MapAt w6 g6 64 (k : Int) U by unfold MapAt; rw [← ED.out]; exact h6) (by decide)
                    have h7 : MapAt (w6.setRow g6 C') g7 64 (k : Int) map0 := (setRow_other _ _ _ _ (Ne.symm hne)).trans h7
                    have ho2 := ho2.keep (w' := (w6.setRow g6 C')) (fun g hg => setRow_other _ _ _ _ (fun e => n6 (by rw [hg, e])))
                    have h6 : (w6.setRow g6 C').heap[g6]? = some (.cells C' 64 (0, 0)) := setRow_heap _ _ _ _ _ _ h6
                    have hs : Below w.heap.size W5 (w6.setRow g6 C') := below_setRow hs hl6 _
                    refine ⟨⟨⟨_, hs⟩, rfl⟩, ?_⟩
                    try simp only [Act.put, List.setIfInBounds_toArray, List.set_cons_zero, List.set_cons_succ]
                    rw [wpWays_done4]
                    try simp only [List.map_cons, List.map_nil, opAt, List.getElem?_toArray, List.getElem?_cons_zero, List.getElem?_cons_succ, Option.getD_some]
                    repeat (go_big_quiet_step (fail))
                    refine wpQuiet_nil ?_
                    go_wp2_with fail
                    go_roundw
                    case rel => exact ⟨j + 1, _, had ++ [a], A2, c2, n + 1, by omega, by omega, by omega, by go_num, rfl, Lib.hid (by simp [HN.out]), Lib.hid ⟨by unfold MapAt; rw [← EC'.out]; exact h6, h7, ho2, HI'.out, BEL.out.trans hs, hl6, hne⟩⟩
                    case measure => simp [intOf]; omega
                  · skip
                    go_wp2_with (at_builtin; refine wpList_append_vz rfl (.tmp 111) (.tmp 113) 24 rfl Try.underlying24 _ 8 infoInt rfl rfl ho _ _ 1 [nv a] ((had ++ [a]).map nv) rfl rfl (cellsAt_block [nv a] hgb) (nv_one [a]) HVZ.out HL1.out HL2.out (Nat.le_trans BEL.out.size hs.size) ?_; intro A2 c2 w9 ho2 hg2; rw [HL3.out] at ho2 ⊢)
                    have hg2 : (w0.alloc (Obj.cells #[.int .i64 (a : Int)] 3)).grownBy w9 (Value.slice A1 n c1).ownBlock := hg2
                    have n6 := own_not_map ho (show MapAt (w0.alloc (Obj.cells #[.int .i64 (a : Int)] 3)) g6 64 (k : Int) U by unfold MapAt; rw [← ED.out]; exact h6) (by decide)
                    have h15 := map_grown h15 hg2 (own_not_map ho h15 (by decide))
                    have h6 : w9.heap[g6]? = some (.cells D 64 (0, 0)) := (hg2.block g6 (Array.getElem?_eq_some_iff.1 h6).1 (Ne.symm n6)).trans h6
                    have h7 := map_grown h7 hg2 (own_not_map ho h7 (by decide))
                    have hs : Below w.heap.size W5 w9 := ho.belowGrown (Nat.le_refl _) (Nat.le_trans BEL.out.size hs.size) hs hg2
                    refine ⟨⟨⟨_, hs⟩, rfl⟩, ?_⟩
                    try simp only [Act.put, List.setIfInBounds_toArray, List.set_cons_zero, List.set_cons_succ]
                    rw [wpWays_one4]
                    try simp only [List.map_cons, List.map_nil, opAt, List.getElem?_toArray, List.getElem?_cons_zero, List.getElem?_cons_succ, Option.getD_some]
                    refine wpQuiet_nil ?_
                    go_wp2_with (refine wpList_load_row rfl 64 (.tmp 15) rfl g15 rfl 64 C' (0, 0) _ (by rw [EC'.out]; exact h15) Try.underlying64 rfl (infoMap.trans hS'.out) ?_)
                    refine ⟨⟨⟨_, hs⟩, rfl⟩, ?_⟩
                    try simp only [Act.put, List.setIfInBounds_toArray, List.set_cons_zero, List.set_cons_succ]
                    rw [wpWays_one4]
                    try simp only [List.map_cons, List.map_nil, opAt, List.getElem?_toArray, List.getElem?_cons_zero, List.getElem?_cons_succ, Option.getD_some]
                    refine wpQuiet_nil ?_
                    go_wp2_with (refine wpList_store_row rfl 64 (.tmp 6) (.tmp 110) rfl g6 C' rfl rfl 64 D h6 (infoMap.trans hS'.out) (Option.some.inj (hSD.out.symm.trans hS'.out)) hO'.out ?_)
                    have n6 := own_not_map ho2 (show MapAt w9 g6 64 (k : Int) U by unfold MapAt; rw [← ED.out]; exact h6) (by decide)
                    have h7 : MapAt (w9.setRow g6 C') g7 64 (k : Int) map0 := (setRow_other _ _ _ _ (Ne.symm hne)).trans h7
                    have ho2 := ho2.keep (w' := (w9.setRow g6 C')) (fun g hg => setRow_other _ _ _ _ (fun e => n6 (by rw [hg, e])))
                    have h6 : (w9.setRow g6 C').heap[g6]? = some (.cells C' 64 (0, 0)) := setRow_heap _ _ _ _ _ _ h6
                    have hs : Below w.heap.size W5 (w9.setRow g6 C') := below_setRow hs hl6 _
                    refine ⟨⟨⟨_, hs⟩, rfl⟩, ?_⟩
                    try simp only [Act.put, List.setIfInBounds_toArray, List.set_cons_zero, List.set_cons_succ]
                    rw [wpWays_done4]
                    try simp only [List.map_cons, List.map_nil, opAt, List.getElem?_toArray, List.getElem?_cons_zero, List.getElem?_cons_succ, Option.getD_some]
                    repeat (go_big_quiet_step (fail))
                    refine wpQuiet_nil ?_
                    go_wp2_with fail
                    go_roundw
                    case rel => exact ⟨j + 1, _, had ++ [a], A2, c2, n + 1, by omega, by omega, by omega, by go_num, rfl, Lib.hid (by simp [HN.out]), Lib.hid ⟨by unfold MapAt; rw [← EC'.out]; exact h6, h7, ho2, HI'.out, BEL.out.trans hs, hl6, hne⟩⟩
                    case measure => simp [intOf]; omega
    · obtain ⟨D, eD⟩ : ∃ D, D = mapC (k : Int) U := ⟨_, rfl⟩
      have hUl := hB.out.inv.len
      have hSD : Hid (some 513 = some D.size) := Lib.hid (by rw [eD, size_mapC hUl])
      obtain ⟨hfr, hfl⟩ := hB.out.inv.free hk8
      have HFR : Hid (∀ W, Calls Try.prog 33 #[.agg D] W fun e w' => e = .returned (.int .i64 ((k - 2 - n : Nat) : Int)) ∧ Below W.heap.size W w') := Lib.hid (fun W => free_bm k U hUl (by omega) W D eD (k - 2 - n) (by rw [← hn.out]; exact hfr.symm))
      have HG6 : Hid (wr.heap[g6]? = some (.cells D 64 (0, 0))) := Lib.hid (by rw [eD]; exact hB.out.m6)
      have BEL := Lib.hid hB.out.bel
      have hfe : ((k - 2 - n : Nat) : Int) = (k : Int) - 2 - (n : Int) := by have := hn.out; omega
      have hcmp : (((k - 2 - n : Nat) : Int) == (k : Int) - 2 - (n : Int)) = true := by rw [hfe]; simp
      have hlt2 : ¬ (j < zs.length ∧ j < 100) := hlt
      clear eD hfr hfe hB OU hlt
      go_upto_region 28 with fail
      all_goals (try (exfalso; omega))
      all_goals
        go_wp2_with (go_at_call 25; (refine (takes_any _).mono ?_); rintro e w8 ⟨rfl, hb8⟩)
        have hg8 := (hb8.block g6 (Array.getElem?_eq_some_iff.1 HG6.out).1).trans HG6.out
        refine wp_load_row 64 (.tmp 6) rfl g6 rfl 64 D (0, 0) _ hg8 Try.underlying64 rfl (infoMap.trans hSD.out) ?_
        rename_i K2 hK2
        refine hK2 _ _ ?_
        clear hK2
        simp only [Act.put, List.setIfInBounds_toArray, List.set_cons_zero, List.set_cons_succ]
        go_wp2_with (go_at_call 33; (refine (HFR.out _).mono ?_); rintro e w9 ⟨rfl, hb9⟩)
        all_goals go_ret
        all_goals exact ⟨by first | rfl | simp, (BEL.out.trans (hb8.mono BEL.out.size)).trans (hb9.mono (Nat.le_trans BEL.out.size hb8.size))⟩
end Go.Proofs.Ytccjelkpppaomaa
