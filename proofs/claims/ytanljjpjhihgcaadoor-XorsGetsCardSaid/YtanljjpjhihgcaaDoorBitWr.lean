/- Put of package bits: its contract. -/
import Derived.Test.YtanljjpjhihgcaaDoorBitTake
import Derived.Test.YtanljjpjhihgcaaDoorRunPut
import Derived.BigRegion
import Derived.RegionTactic
namespace Go.Proofs.YtanljjpjhihgcaaDoor
open Go.RowKit BitM
set_option linter.unusedVariables false

/-- Full words, the last one first. -/
def Chain (w : World) (base : Nat) : Option Addr → List Nat → Prop
  | f, [] => f = none
  | f, x :: r => ∃ b f', f = some ⟨b, 0, none⟩ ∧ base ≤ b ∧ w.heap[b]? = some (.cells #[.int .u64 (x : Int), .pointer f'] 90 (0, 0)) ∧ Chain w base f' r

theorem Chain.keep {w w' : World} {base : Nat} : ∀ {f : Option Addr} {ws : List Nat}, Chain w base f ws → (∀ b x f', base ≤ b → w.heap[b]? = some (.cells #[.int .u64 x, .pointer f'] 90 (0, 0)) → w'.heap[b]? = w.heap[b]?) → Chain w' base f ws
  | f, [], h, _ => h
  | f, x :: r, h, hk => by
    obtain ⟨b, f', h1, h2, h3, h4⟩ := h
    exact ⟨b, f', h1, h2, (hk b _ _ h2 h3).trans h3, Chain.keep h4 hk⟩
theorem Chain.mono {w : World} {base base' : Nat} (hb : base' ≤ base) : ∀ {f : Option Addr} {ws : List Nat}, Chain w base f ws → Chain w base' f ws
  | f, [], h => h
  | f, x :: r, h => by
    obtain ⟨b, f', h1, h2, h3, h4⟩ := h
    exact ⟨b, f', h1, Nat.le_trans hb h2, h3, Chain.mono hb h4⟩

/-- A Writer lies in block g. -/
def WrAt (w : World) (base g : Nat) (ws : List Nat) (r m : Nat) : Prop :=
  ∃ f, w.heap[g]? = some (.cells #[.pointer f, .int .u64 (r : Int), .int .i64 (m : Int)] 66 (0, 0)) ∧ base ≤ g ∧ m < 64 ∧ r < 18446744073709551616 ∧ (∀ x ∈ ws, x < 18446744073709551616) ∧ Chain w base f ws

theorem chain_other {w : World} {g : Nat} {f : Option Addr} {r m : Int} (hg : w.heap[g]? = some (.cells #[.pointer f, .int .u64 r, .int .i64 m] 66 (0, 0))) {b : Nat} {x : Int} {f' : Option Addr}
    (hb : w.heap[b]? = some (.cells #[.int .u64 x, .pointer f'] 90 (0, 0))) : b ≠ g := by
  rintro rfl
  rw [hg] at hb
  simp at hb

theorem WrAt.below {w w' : World} {base g : Nat} {ws : List Nat} {r m : Nat} (h : WrAt w base g ws r m) (hb : Below w.heap.size w w') : WrAt w' base g ws r m := by
  obtain ⟨f, h1, h2, h3, h4, h5, h6⟩ := h
  refine ⟨f, (hb.block g (Array.getElem?_eq_some_iff.1 h1).1).trans h1, h2, h3, h4, h5, h6.keep fun b x f' _ hx => hb.block b (Array.getElem?_eq_some_iff.1 hx).1⟩
theorem WrAt.beside {w w' : World} {base g : Nat} {ws : List Nat} {r m : Nat} (h : WrAt w base g ws r m) {q : Nat} (hg : w.grownBy w' (some q)) (hq : q < base) : WrAt w' base g ws r m := by
  obtain ⟨f, h1, h2, h3, h4, h5, h6⟩ := h
  exact ⟨f, (hg.block g (Array.getElem?_eq_some_iff.1 h1).1 (by simp; omega)).trans h1, h2, h3, h4, h5, h6.keep fun b x f' hbb hx => hg.block b (Array.getElem?_eq_some_iff.1 hx).1 (by simp; omega)⟩

theorem wput_nil (v : Int) (n : Int) (w : World) : Calls Tryd.prog 35 #[.pointer none, .int .u64 v, .int .i64 n] w fun e w' => e = .returned (.tuple #[]) ∧ w = w' := by
  go_enter Tryd.func35, Tryd.ntmps35
  go_wp2_with fail
  refine bodyPost_ret (results_none rfl _ _ _) rfl ?_
  exact ⟨rfl, rfl⟩

set_option maxHeartbeats 1000000 in
set_option maxRecDepth 100000 in
theorem wput_any (base g : Nat) (ws : List Nat) (r m v : Nat) (n : Int) (w : World) (h : WrAt w base g ws r m) (hv : v < 18446744073709551616) :
    Calls Tryd.prog 35 #[.pointer (some ⟨g, 0, none⟩), .int .u64 (v : Int), .int .i64 n] w fun e w' => e = .returned (.tuple #[]) ∧ (∃ ws' r' m', WrAt w' base g ws' r' m' ∧ wlen ws' m' = wlen ws m + wi n ∧ wval ws' r' m' = wval ws r m * 2 ^ wi n + v % 2 ^ wi n) ∧ w.grownBy w' (some g) := by
  obtain ⟨f, h1, hbg, hm, hr, hws, hch⟩ := h
  have c0 : w.cell? ⟨g, 0, none⟩ = some (.pointer f) := cell_of_row _ _ _ _ _ _ h1
  have c1 : w.cell? ⟨g, 1, none⟩ = some (.int .u64 (r : Int)) := cell_of_row _ _ _ _ _ _ h1
  have c2 : w.cell? ⟨g, 2, none⟩ = some (.int .i64 (m : Int)) := cell_of_row _ _ _ _ _ _ h1
  have f0 := frozen_of_row w g 0 _ _ h1
  have f1 := frozen_of_row w g 1 _ _ h1
  have f2 := frozen_of_row w g 2 _ _ h1
  have hlt := (Array.getElem?_eq_some_iff.1 h1).1
  have hwl := wi_le n
  obtain ⟨k, hk⟩ : ∃ k, k = wi n := ⟨_, rfl⟩
  rw [← hk] at hwl ⊢
  have HK := Lib.hid hk
  clear hk
  obtain ⟨u, hu⟩ : ∃ u, u = v % 2 ^ k := ⟨_, rfl⟩
  rw [← hu]
  have hul : u < 2 ^ k := by rw [hu]; exact Nat.mod_lt _ (Nat.pow_pos (by omega))
  have hand := and_low v k hv hwl
  rw [← hu] at hand
  have HAND := Lib.hid hand
  have H1 := Lib.hid h1
  have HCH := Lib.hid hch
  have HWS := Lib.hid hws
  have h64 : (2 : Nat) ^ k ≤ 2 ^ 64 := Nat.pow_le_pow_right (by omega) hwl
  clear hu hand h1 hch hws
  by_cases hroom : k < 64 - m
  · have hd : (k : Int) < 64 - (m : Int) := by omega
    go_enter Tryd.func35, Tryd.ntmps35
    go_wp2_with (first
      | (go_at_call 57; refine (within_any _ _).mono ?_; rw [← HK.out]; rintro e w1 ⟨rfl, rfl⟩)
      | (go_at_call 58; refine (low_any k hwl _).mono ?_; rintro e w2 ⟨rfl, rfl⟩))
    rw [HAND.out]
    have e1 : IntKind.u64.wrap ((r : Int) * 2 ^ k) = ((r * 2 ^ k % 2 ^ 64 : Nat) : Int) := by
      have : (r : Int) * 2 ^ k = ((r * 2 ^ k : Nat) : Int) := by simp
      rw [this, IntKind.wrap_u64]
      omega
    have e2 : ∃ q, r * 2 ^ k % 2 ^ 64 = q * 2 ^ k ∧ q * 2 ^ k + u < 18446744073709551616 := by
      have h2 : (2 : Nat) ^ 64 = 2 ^ (64 - k) * 2 ^ k := by rw [← Nat.pow_add]; congr 1; omega
      refine ⟨r % 2 ^ (64 - k), by rw [h2, Nat.mul_mod_mul_right], ?_⟩
      have h3 : r % 2 ^ (64 - k) < 2 ^ (64 - k) := Nat.mod_lt _ (Nat.pow_pos (by omega))
      have h4 : (r % 2 ^ (64 - k) + 1) * 2 ^ k ≤ 2 ^ (64 - k) * 2 ^ k := Nat.mul_le_mul_right _ h3
      rw [← h2, Nat.add_mul] at h4
      omega
    obtain ⟨q, hq, hq64⟩ := e2
    rw [e1, hq, or_join q u k hul hq64]
    have hmk : (m : Int) + (k : Int) = ((m + k : Nat) : Int) := by omega
    rw [hmk]
    refine bodyPost_ret (results_none rfl _ _ _) rfl ?_
    refine ⟨rfl, ⟨ws, q * 2 ^ k + u, m + k, ?_, ?_, ?_⟩, grown_set (grown_set (World.grownBy.refl w _) 1 _) 2 _⟩
    · refine ⟨f, ?_, hbg, by omega, hq64, HWS.out, HCH.out.keep fun b x f' _ hx => ?_⟩
      · have h2 := heap_setCell_same _ g 2 _ _ (.int .i64 ((m + k : Nat) : Int)) (heap_setCell_same w g 1 _ _ (.int .u64 ((q * 2 ^ k + u : Nat) : Int)) H1.out)
        rw [h2]
        rfl
      · have hne := chain_other H1.out hx
        rw [heap_setCell_other _ _ _ _ hne, heap_setCell_other _ _ _ _ hne]
    · unfold wlen; omega
    · have := put_room ws r m k u (by omega) hul
      rw [hq] at this
      exact this
  · have hd : ¬ (k : Int) < 64 - (m : Int) := by omega
    go_enter Tryd.func35, Tryd.ntmps35
    go_wp2_with (first
      | (go_at_call 57; refine (within_any _ _).mono ?_; rw [← HK.out]; rintro e w1 ⟨rfl, rfl⟩)
      | (go_at_call 58; refine (low_any k hwl _).mono ?_; rintro e w2 ⟨rfl, rfl⟩))
    obtain ⟨R, hR⟩ : ∃ R, R = 64 - m := ⟨_, rfl⟩
    obtain ⟨o, ho⟩ : ∃ o, o = k - R := ⟨_, rfl⟩
    have v1 : (k : Int) - (64 - (m : Int)) = (o : Int) := by omega
    have v2 : (64 : Int) - (m : Int) = (R : Int) := by omega
    rw [HAND.out, v1, v2]
    have hou : u / 2 ^ o < 2 ^ R := by
      rw [Nat.div_lt_iff_lt_mul (Nat.pow_pos (by omega)), ← Nat.pow_add]
      rw [show R + o = k by omega]
      exact hul
    have hwl2 := put_word_lt r m k u hm (by omega) hul
    rw [← hR, ← ho] at hwl2
    obtain ⟨q, hq⟩ : ∃ q, r * 2 ^ R % 2 ^ 64 = q * 2 ^ R := by
      have h2 : (2 : Nat) ^ 64 = 2 ^ (64 - R) * 2 ^ R := by rw [← Nat.pow_add]; congr 1; omega
      exact ⟨r % 2 ^ (64 - R), by rw [h2, Nat.mul_mod_mul_right]⟩
    have e1 : IntKind.u64.wrap ((r : Int) * 2 ^ R) = ((q * 2 ^ R : Nat) : Int) := by
      have : (r : Int) * 2 ^ R = ((r * 2 ^ R : Nat) : Int) := by simp
      rw [this, IntKind.wrap_u64, ← hq]
      omega
    have e2 : (u : Int) / 2 ^ o = ((u / 2 ^ o : Nat) : Int) := by simp
    obtain ⟨y, hy⟩ : ∃ y, y = u / 2 ^ o := ⟨_, rfl⟩
    rw [hq] at hwl2
    rw [← hy] at hou hwl2 e2
    obtain ⟨X, hX⟩ : ∃ X, X = q * 2 ^ R + y := ⟨_, rfl⟩
    have e3 := or_join q y R hou (by omega)
    rw [← hX] at e3
    have e3' : bits BinOp.or IntKind.u64 ((q : Int) * 2 ^ R) (y : Int) = (X : Int) := by
      have : (q : Int) * 2 ^ R = ((q * 2 ^ R : Nat) : Int) := by simp
      rw [this]
      exact e3
    have E3 := Lib.hid e3'
    clear e3 e3'
    have hu64 : u < 18446744073709551616 := by omega
    have hfull := put_full ws r m k u hm (by omega) hul
    rw [← hR, ← ho, hq, ← hy, ← hX] at hfull
    have hX64 : X < 18446744073709551616 := by omega
    have HFULL := Lib.hid hfull
    have HR := Lib.hid hR
    have HO := Lib.hid ho
    have hRo : (0 : Int) ≤ (R : Int) := by omega
    have hoo : (0 : Int) ≤ (o : Int) := by omega
    have hR64 : min R 64 = R := by omega
    have ho64 : min o 64 = o := by omega
    clear hfull hR ho hq hy hX v1 v2 hwl2 hou hul hd hroom
    go_region
    rw [E3.out]
    have hz1 : (((w.setCell ⟨g, 0, none⟩ (.pointer (some ⟨w.heap.size, 0, none⟩))).alloc (.cells #[.int .u64 (X : Int), .pointer f] 90)).drew).heap[g]? = some (.cells #[.pointer (some ⟨w.heap.size, 0, none⟩), .int .u64 (r : Int), .int .i64 (m : Int)] 66 (0, 0)) := by
      have h2 := heap_setCell_same w g 0 _ _ (.pointer (some ⟨w.heap.size, 0, none⟩)) H1.out
      refine (Below.heap_alloc _ _ g (by simpa using hlt)).trans ?_
      rw [h2]
      rfl
    have hz2 : (((w.setCell ⟨g, 0, none⟩ (.pointer (some ⟨w.heap.size, 0, none⟩))).alloc (.cells #[.int .u64 (X : Int), .pointer f] 90)).drew).heap[w.heap.size]? = some (.cells #[.int .u64 (X : Int), .pointer f] 90 (0, 0)) := by
      have := heap_alloc_new (w.setCell ⟨g, 0, none⟩ (.pointer (some ⟨w.heap.size, 0, none⟩))) (.cells #[.int .u64 (X : Int), .pointer f] 90)
      have hs : (w.setCell ⟨g, 0, none⟩ (.pointer (some ⟨w.heap.size, 0, none⟩))).heap.size = w.heap.size := by simp
      rw [hs] at this
      exact this
    have hz3 : w.grownBy (((w.setCell ⟨g, 0, none⟩ (.pointer (some ⟨w.heap.size, 0, none⟩))).alloc (.cells #[.int .u64 (X : Int), .pointer f] 90)).drew) (some g) := by
      have h1 := grown_set (World.grownBy.refl w (some g)) 0 (.pointer (some ⟨w.heap.size, 0, none⟩))
      exact grown_below_any h1 (((Below.refl _ _).alloc (Nat.le_refl _) _).drew)
    have hz4 := HCH.out.keep (w' := ((w.setCell ⟨g, 0, none⟩ (.pointer (some ⟨w.heap.size, 0, none⟩))).alloc (.cells #[.int .u64 (X : Int), .pointer f] 90)).drew) fun b x f' _ hx => hz3.block b (Array.getElem?_eq_some_iff.1 hx).1 (by simp; exact fun e => chain_other H1.out hx e)
    generalize ((w.setCell ⟨g, 0, none⟩ (.pointer (some ⟨w.heap.size, 0, none⟩))).alloc (.cells #[.int .u64 (X : Int), .pointer f] 90)).drew = wz at *
    clear c0 c1 c2 f0 f1 f2
    have c1 : wz.cell? ⟨g, 1, none⟩ = some (.int .u64 (r : Int)) := cell_of_row _ _ _ _ _ _ hz1
    have c2 : wz.cell? ⟨g, 2, none⟩ = some (.int .i64 (m : Int)) := cell_of_row _ _ _ _ _ _ hz1
    have f1 := frozen_of_row wz g 1 _ _ hz1
    have f2 := frozen_of_row wz g 2 _ _ hz1
    have HZ1 := Lib.hid hz1
    have HZ2 := Lib.hid hz2
    have HZ4 := Lib.hid hz4
    clear hz1 hz2 hz4
    go_wp2_with fail
    refine bodyPost_end (results_none rfl _ _ _) rfl ?_
    refine ⟨rfl, ⟨X :: ws, u, o, ?_, ?_, ?_⟩, grown_set (grown_set hz3 1 _) 2 _⟩
    · refine ⟨some ⟨w.heap.size, 0, none⟩, ?_, hbg, by have := HO.out; have := HR.out; omega, hu64, ?_, ?_⟩
      · have h2 := heap_setCell_same _ g 2 _ _ (.int .i64 (o : Int)) (heap_setCell_same wz g 1 _ _ (.int .u64 (u : Int)) HZ1.out)
        rw [h2]
        rfl
      · intro x hx
        rcases List.mem_cons.1 hx with rfl | hx
        · exact hX64
        · exact HWS.out x hx
      · have hne : w.heap.size ≠ g := by omega
        refine ⟨w.heap.size, f, rfl, by omega, ?_, ?_⟩
        · rw [heap_setCell_other _ _ _ _ hne, heap_setCell_other _ _ _ _ hne]
          exact HZ2.out
        · refine HZ4.out.keep fun b x f' _ hx => ?_
          have hne := chain_other HZ1.out hx
          rw [heap_setCell_other _ _ _ _ hne, heap_setCell_other _ _ _ _ hne]
    · have := HO.out; have := HR.out; unfold wlen; rw [List.length_cons]; omega
    · exact HFULL.out
end Go.Proofs.YtanljjpjhihgcaaDoor
