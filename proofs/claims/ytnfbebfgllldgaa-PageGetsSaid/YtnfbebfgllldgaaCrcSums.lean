/- For all bytes and every place the statement CrcSums answers true: of the bytes the sum is told, in one go or in two. No condition. -/
import Derived.Test.YtnfbebfgllldgaaSums
import Derived.Test.YtnfbebfgllldgaaApp
import Derived.Lib.MinMax
namespace Go.Proofs.Ytnfbebfgllldgaa
open Go.RowKit CrcM
set_option linter.unusedVariables false

theorem info5 : (Try.prog.info? 5).map (fun i => (i.zero, i.size, i.bytes)) = some (some (.int .u8 0), 1, 1) := by kernel_rfl

/-- A place in a list, as the statements choose it. -/
theorem mod_place (a : Int) (n : Nat) (hn : n ≤ 4611686018427387904) : ∃ k : Nat, wrap64 ((IntKind.u64.wrap a).tmod ((n : Int) + 1)) = (k : Int) ∧ k ≤ n := by
  have h0 : 0 ≤ IntKind.u64.wrap a := by rw [IntKind.wrap_u64]; omega
  have h1 : (IntKind.u64.wrap a).tmod ((n : Int) + 1) = IntKind.u64.wrap a % ((n : Int) + 1) := Int.tmod_eq_emod_of_nonneg h0
  have h2 : 0 ≤ IntKind.u64.wrap a % ((n : Int) + 1) := Int.emod_nonneg _ (by omega)
  have h3 : IntKind.u64.wrap a % ((n : Int) + 1) < (n : Int) + 1 := Int.emod_lt_of_pos _ (by omega)
  refine ⟨(IntKind.u64.wrap a % ((n : Int) + 1)).toNat, ?_, by omega⟩
  rw [h1, IntWalk.wrap64_in _ ⟨by omega, by omega⟩]
  omega

set_option maxRecDepth 100000 in
theorem crcSums_walk (A : Option Addr) (cap : Nat) (xs : List UInt8) {w : World} (hx : BytesAt w A xs) (hlc : xs.length ≤ cap) (hcm : cap ≤ maxLen) (a : Int) (ha : (Lit.int .i64 a).wf = true) :
    Calls Try.prog 7 #[.slice A xs.length cap, .int .i64 a] w fun e w' => e = .returned (.bool true) ∧ Below w.heap.size w w' := by
  obtain ⟨ys, hys⟩ : ∃ ys, ys = xs.take 300 := ⟨_, rfl⟩
  have hyl : ys.length = min xs.length 300 := by rw [hys, List.length_take, Nat.min_comm]
  have hy3 : ys.length ≤ 300 := by omega
  have hyx : ys.length ≤ xs.length := by omega
  have hmin : min (xs.length : Int) 300 = (ys.length : Int) := by omega
  unfold maxLen at hcm
  have hby : BytesAt (w.alloc (.cells #[] 5)) A ys := by rw [hys]; exact (hx.take 300).below ((Below.refl _ _).alloc (Nat.le_refl _) _)
  have hown := OwnB.new w 5 [] w.heap.size (Nat.le_refl _) (by simp)
  obtain ⟨k, hk, hkl⟩ := mod_place a ys.length (by omega)
  have hbs : behindN (sumN (ys.take k)) (ys.drop k) = sumN ys := by rw [behindN_sum, List.take_append_drop]
  have k0 : (0 : Int) ≤ (k : Int) := by omega
  have k1 : (k : Int) ≤ (ys.length : Int) := by omega
  have HYL := Lib.hid hyl
  have HYS := Lib.hid hys
  clear hyl hys
  go_enter Try.func7, Try.ntmps7
  go_wp2_with (first
    | (at_builtin; refine wpList_append_bytes rfl (.tmp 8) (.tmp 13) 27 rfl Try.underlying27 info5 rfl hown _ _ rfl hby (by simp; omega) (by simp) ?_; intro g c1 w1 ho1 hg1 _; simp only [List.nil_append] at ho1 ⊢; have hcv := run_text (P := Try.prog) 27 9 Try.underlying27 Try.underlying5 Try.underlying9 _ c1 ho1.bytes)
    | (go_at_call 36; refine (new_any _).mono ?_; rintro e w2 ⟨rfl, hb2⟩)
    | (refine wpList_store_row rfl 64 (.tmp 6) (.tmp 17) rfl w2.heap.size tab rfl rfl 64 Try.zeroCells64 (heap_alloc_new _ _) (by rw [size_tab]; exact info64) (by rw [size_tab, zero64, size_tabC]) (tab_one _) ?_; rw [World.setRow_alloc_new]))
  have hsz : w.heap.size + 1 ≤ w2.heap.size := by have := hb2.size; have := hg1.size; simp at *; omega
  have hbx : ∀ y : SubW (w2.heap.size + 1) (w2.alloc (.cells tab 64)), OwnB y.at_ w.heap.size g c1 5 ys := fun y => ((ho1.below hb2 ho1.lt).alloc _).below y.ok_ (by have := ho1.lt; have := hb2.size; omega)
  have hg : ∀ y : SubW (w2.heap.size + 1) (w2.alloc (.cells tab 64)), y.at_.heap[w2.heap.size]? = some (.cells tab 64 (0, 0)) := fun y => (y.ok_.block _ (by omega)).trans (heap_alloc_new _ _)
  have hcv : ∀ y : SubW (w2.heap.size + 1) (w2.alloc (.cells tab 64)), (convert 27 9 (.slice (some ⟨g, 0, none⟩) ys.length c1)).run Try.prog y.at_ = .ok (.string ⟨ys.toArray⟩) y.at_ := fun y => run_text (P := Try.prog) 27 9 Try.underlying27 Try.underlying5 Try.underlying9 _ c1 (hbx y).bytes
  obtain ⟨_, hc1l, hc1m, _⟩ := ho1.parts
  unfold maxLen at hc1m
  have hbelow : Below w.heap.size w (w2.alloc (.cells tab 64)) := by
    have h1 : Below w.heap.size w w1 := ((Below.refl _ _).alloc (Nat.le_refl _) _).grown hg1 (by simp) (fun k hk => by injection hk with hk; omega)
    have h2 : Below w.heap.size w w2 := h1.trans (hb2.mono h1.size)
    exact h2.alloc h2.size _
  refine region_below (w2.heap.size + 1) (w2.alloc (.cells tab 64)) (Below.refl _ _) (by kernel_rfl) (by kernel_rfl) ?_
  have TG := Lib.hid hg
  have TB := Lib.hid hbx
  clear hg hbx
  repeat (first
    | (go_big_quiet_want; refine quiet_load_row 64 (.tmp 6) rfl w2.heap.size rfl 64 tab (0, 0) _ TG.out Try.underlying64 rfl (by rw [size_tab]; exact info64) ?_; simp only [Act.put, List.setIfInBounds_toArray, List.set_cons_zero, List.set_cons_succ]; go_big_quiet_on)
    | go_big_quiet_step ((first
        | (go_at_call 37; exact calls_sub (by simp) (sums_any _))
        | (go_at_call 39; exact calls_sub (by simp) (ref_len _ _ _ ys _ rfl (TB.out _).bytes (by omega)))
        | (go_at_call 40; exact calls_sub (by simp) (behind_len _ (sumN_lt _) _ _ _ (ys.drop k) _ (by simp) ((TB.out _).bytes.cut k _ (fun hlt => cut_addr hlt hc1l)) (by omega)))
        | (go_at_call 38; exact calls_sub (by simp) (sum_len _ _ _ ys _ rfl (TB.out _).bytes (by omega)))
        | (go_at_call 38; exact calls_sub (by simp) (sum_len _ _ _ (ys.take k) _ (by simp; omega) ((TB.out _).bytes.take k) (by omega))))))
  refine wpQuiet_nil ?_
  rintro w' ⟨y, rfl⟩
  go_wp2
  all_goals go_ret
  all_goals exact ⟨rfl, hbelow.trans (y.ok_.mono (by omega))⟩
end Go.Proofs.Ytnfbebfgllldgaa
