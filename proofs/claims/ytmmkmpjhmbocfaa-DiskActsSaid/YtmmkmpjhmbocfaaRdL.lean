/- DiskActs: append of so many noughts, none too, to a row of one's own. -/
import Derived.Test.YtmmkmpjhmbocfaaPartD
namespace Go.Proofs.Ytmmkmpjhmbocfaa
open Go.RowKit
set_option linter.unusedVariables false
section
variable {P : Program} {w : World} {base : Nat} {v : Value} {E : TypeId} {xs zs : List UInt8}
theorem run_append_zs (t tn ty : TypeId) (ht : P.underlying t = some (.slice E)) (kn : IntKind) (htn : P.underlying tn = some (.int kn)) (hi : (P.info? E).map (fun i => (i.zero, i.size, i.bytes)) = some (some (.int .u8 0), 1, 1))
    (hown : OwnS w base v E xs) (m : Nat) (hz : xs ++ List.replicate m 0 = zs) (hl : xs.length + m ≤ 140737488355328) (hbase : base ≤ w.heap.size) :
    ∃ A' c' w', (Builtin.append_ #[t, tn] ty #[v, .int .i64 m]).run P w = .ok (.slice A' zs.length c') w' ∧
      OwnS w' base (.slice A' zs.length c') E zs ∧ w.grownBy w' v.ownBlock := by
  subst hz
  obtain ⟨i, hi0, hz, hs, hb⟩ := info_parts hi
  by_cases h0 : m = 0
  · subst h0
    have hw : IntKind.i64.wrap (0 : Int) = 0 := by decide
    rcases hown.cases with ⟨rfl, rfl⟩ | ⟨g, cap, rfl, ho⟩
    · refine ⟨none, 0, w, ?_, by simpa using OwnS.nil w base E, World.grownBy.refl w _⟩
      simp [Builtin.append_, run_underlying ht, run_underlying htn, sizeOf, typeInfo, zeroValue, hi0, hz, hb, asInt, asIntOf, hw, Builtin.zeroCells]
    · refine ⟨some ⟨g, 0, none⟩, cap, w, ?_, by simpa using hown, World.grownBy.refl w _⟩
      obtain ⟨_, hn, _⟩ := ho.parts
      simp [Builtin.append_, run_underlying ht, run_underlying htn, sizeOf, typeInfo, zeroValue, hi0, hz, hb, asInt, asIntOf, hw, hn, Builtin.zeroCells, storeCells]
  · rcases hown.cases with ⟨rfl, rfl⟩ | ⟨g, cap, rfl, ho⟩
    · have hr := Lib.run_append_nil_zeros (P := P) w t tn ty E i _ .i64 kn ht htn hi0 hz m (by omega) (by omega) (by simp at hl; omega) (by rw [hb]; simp at hl; omega)
      refine ⟨some ⟨w.heap.size, 0, none⟩, grownCap w m 0 E, w.drew.alloc (.cells (Builtin.zeroCells (Value.int .u8 0).cells m ++ Builtin.zeroCells (Value.int .u8 0).cells (grownCap w m 0 E - m)) E), (by simpa using hr), ?_, ⟨rfl, rfl, rfl, by simp, fun k hk _ => heap_alloc_old w.drew _ hk⟩⟩
      have hge := grownCap_ge w m 0 E
      have hcm2 : grownCap w m 0 E ≤ maxLen := grownCap_le_maxLen w m 0 E (by unfold maxLen; simp at hl; omega)
      refine ⟨by simp, .inr ⟨w.heap.size, grownCap w m 0 E, _, by simp, hbase, heap_alloc_new w.drew _, by simpa using hge, hcm2, ?_, ?_⟩⟩
      · simp [size_zeroCells, Value.cells]
        omega
      · rw [show (Value.int .u8 0).cells = #[Value.int .u8 0] from rfl, zeroCells_u8]
        simp
    · obtain ⟨g', cap', w', h1, h2, h3⟩ := run_append_zeros (P := P) t tn ty ht .i64 kn htn hi ho m (by omega) hl hbase
      exact ⟨_, _, _, h1, h2, h3⟩
theorem own_at {n c : Nat} {A : Option Addr} {a : Addr} {N0 : Nat} (h : OwnS w base (.slice A n c) E xs) (ha : A = some a) (hN : N0 ≤ base) : N0 ≤ a.block ∧ ∃ cur, w.heap[a.block]? = some (.cells cur E (0, 0)) := by
  subst ha
  rcases h.2 with ⟨h0, _⟩ | ⟨g, cap, cur, hv, hb, hh, _⟩
  · cases h0
  · injection hv with hv
    injection hv with hv
    subst hv
    exact ⟨Nat.le_trans hN hb, cur, hh⟩
end
end Go.Proofs.Ytmmkmpjhmbocfaa
