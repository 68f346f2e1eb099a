/- Rows of entries, keys and children in memory; which of them package node lets be: apart, rightEntries. -/
import Derived.Test.YtgkddhncfaeidaaNdE
import Derived.Deep.DeepCutAuto
namespace Go.Proofs.Ytgkddhncfaeidaa
open Go.ChangeShapes Go.WideShapes Go.ChangeAt Go.RowKit CrcM PageM
set_option linter.unusedVariables false

/-- An entry's cells. -/
def entAt (w : World) (b o : Nat) (e : EntD) : Prop := w.cell? ⟨b, o, none⟩ = some (.int .i64 e.se) ∧ w.cell? ⟨b, o + 1, none⟩ = some (.int .i64 e.st) ∧ w.cell? ⟨b, o + 2, none⟩ = some (.int .i64 e.en) ∧ w.cell? ⟨b, o + 3, none⟩ = some (.int .i64 e.ad) ∧
  w.cell? ⟨b, o + 4, none⟩ = some (.int .i64 e.le) ∧ w.cell? ⟨b, o + 5, none⟩ = some (.int .i64 e.cn) ∧ w.cell? ⟨b, o + 6, none⟩ = some (.int .i64 e.co) ∧ w.cell? ⟨b, o + 7, none⟩ = some (.int .u32 e.cr)
def keyAt (w : World) (b o : Nat) (k : KeyD) : Prop := w.cell? ⟨b, o, none⟩ = some (.int .i64 k.se) ∧ w.cell? ⟨b, o + 1, none⟩ = some (.int .i64 k.st)
/-- A row of entries. -/
def EnAt (w : World) (A : Option Addr) (es : List EntD) : Prop := es ≠ [] → ∃ b off, A = some ⟨b, off, none⟩ ∧ ∀ i e, es[i]? = some e → entAt w b (off + i * 8) e
/-- A row of keys. -/
def KyAt (w : World) (A : Option Addr) (ks : List KeyD) : Prop := ks ≠ [] → ∃ b off, A = some ⟨b, off, none⟩ ∧ ∀ i k, ks[i]? = some k → keyAt w b (off + i * 2) k
/-- A row of numbers. -/
def KdAt (w : World) (A : Option Addr) (zs : List Int) : Prop := zs ≠ [] → ∃ b off, A = some ⟨b, off, none⟩ ∧ ∀ i z, zs[i]? = some z → w.cell? ⟨b, off + i, none⟩ = some (.int .i64 z)

theorem entAt.lt {w : World} {b o : Nat} {e : EntD} (h : entAt w b o e) : b < w.heap.size := World.block_lt_of_cell? _ _ h.1
theorem entAt.below {w w' : World} {b o : Nat} {e : EntD} (h : entAt w b o e) (hb : Below w.heap.size w w') : entAt w' b o e := by
  have hl := h.lt
  obtain ⟨h0, h1, h2, h3, h4, h5, h6, h7⟩ := h
  exact ⟨(hb.cell hl).trans h0, (hb.cell hl).trans h1, (hb.cell hl).trans h2, (hb.cell hl).trans h3, (hb.cell hl).trans h4, (hb.cell hl).trans h5, (hb.cell hl).trans h6, (hb.cell hl).trans h7⟩
theorem keyAt.lt {w : World} {b o : Nat} {k : KeyD} (h : keyAt w b o k) : b < w.heap.size := World.block_lt_of_cell? _ _ h.1
theorem keyAt.below {w w' : World} {b o : Nat} {k : KeyD} (h : keyAt w b o k) (hb : Below w.heap.size w w') : keyAt w' b o k := by
  have hl := h.lt
  exact ⟨(hb.cell hl).trans h.1, (hb.cell hl).trans h.2⟩
theorem EnAt.below {w w' : World} {A : Option Addr} {es : List EntD} (h : EnAt w A es) (hb : Below w.heap.size w w') : EnAt w' A es := fun hne => by
  obtain ⟨b, off, hA, hc⟩ := h hne
  exact ⟨b, off, hA, fun i e hi => (hc i e hi).below hb⟩
theorem KyAt.below {w w' : World} {A : Option Addr} {ks : List KeyD} (h : KyAt w A ks) (hb : Below w.heap.size w w') : KyAt w' A ks := fun hne => by
  obtain ⟨b, off, hA, hc⟩ := h hne
  exact ⟨b, off, hA, fun i e hi => (hc i e hi).below hb⟩
theorem KdAt.below {w w' : World} {A : Option Addr} {zs : List Int} (h : KdAt w A zs) (hb : Below w.heap.size w w') : KdAt w' A zs := fun hne => by
  obtain ⟨b, off, hA, hc⟩ := h hne
  exact ⟨b, off, hA, fun i z hi => (hb.cell (World.block_lt_of_cell? _ _ (hc i z hi))).trans (hc i z hi)⟩

/-- What a leaf's entries must be, one by one. -/
def okStep (es : List EntD) (i : Nat) : Prop := ∃ e, es[i]? = some e ∧ okEnt e ∧ (i = 0 ∨ ∃ p, es[i - 1]? = some p ∧ apartB p e = true)
def okEnts (es : List EntD) : Prop := 1 ≤ es.length ∧ es.length ≤ 7 ∧ ∀ i, i < es.length → okStep es i

theorem below_two {w w1 : World} {A B : Obj} (h : Below ((w.alloc A).alloc B).heap.size ((w.alloc A).alloc B) w1) : Below w.heap.size w w1 :=
  (((Below.refl _ w).alloc (Nat.le_refl _) A).alloc (by simp) B).trans (h.mono (by simp; omega))
theorem below_one {w w1 : World} {A : Obj} (h : Below (w.alloc A).heap.size (w.alloc A) w1) : Below w.heap.size w w1 :=
  ((Below.refl _ w).alloc (Nat.le_refl _) A).trans (h.mono (by simp))

set_option maxRecDepth 100000 in
set_option maxHeartbeats 1000000 in
theorem apart_any (a b : EntD) (r : Bool) (hr : apartB a b = r) (w : World) :
    Calls Try.prog 61 #[.agg #[.int .i64 a.se, .int .i64 a.st, .int .i64 a.en, .int .i64 a.ad, .int .i64 a.le, .int .i64 a.cn, .int .i64 a.co, .int .u32 a.cr], .agg #[.int .i64 b.se, .int .i64 b.st, .int .i64 b.en, .int .i64 b.ad, .int .i64 b.le, .int .i64 b.cn, .int .i64 b.co, .int .u32 b.cr]] w fun e w' => e = .returned (.bool r) ∧ Below w.heap.size w w' := by
  obtain ⟨l, hl⟩ : ∃ l : Bool, lessB a.key b.key = l := ⟨_, rfl⟩
  have HL : Hid (∀ w', Calls Try.prog 63 #[.agg #[.int .i64 a.se, .int .i64 a.st], .agg #[.int .i64 b.se, .int .i64 b.st]] w' fun e w1 => e = .returned (.bool l) ∧ Below w'.heap.size w' w1) := Lib.hid (fun w' => hl ▸ less_any a.key b.key w')
  unfold apartB at hr
  rw [hl] at hr
  have HR := Lib.hid hr
  clear hl hr
  cases l with
  | false =>
    go_enter Try.func61, Try.ntmps61
    go_wp2_with (go_at_call 63; refine (HL.out _).mono ?_; rintro e w1 ⟨rfl, hb1⟩)
    go_ret
    have HF : Hid (false = r) := Lib.hid (by have := HR.out; simpa using this)
    exact ⟨nd_retB HF.out, below_two hb1⟩
  | true =>
    by_cases h : a.se = b.se
    · have hb : (a.se != b.se) = false := by simp [h]
      have HF : Hid (decide (a.en < b.st) = r) := Lib.hid (by rw [← HR.out]; simp [h])
      clear HR h
      go_enter Try.func61, Try.ntmps61
      go_wp2_with (go_at_call 63; refine (HL.out _).mono ?_; rintro e w1 ⟨rfl, hb1⟩; have hk1 := (hb1.block w.heap.size (by simp; omega)).trans (heap_alloc2_old w _ _); have hk2 := (hb1.block (w.heap.size + 1) (by simp)).trans (heap_alloc2_new w _ _); have c1 := (cell_of_row _ _ 0 _ _ _ hk1).trans rfl; have c2 := (cell_of_row _ _ 0 _ _ _ hk2).trans rfl; have c3 := (cell_of_row _ _ 2 _ _ _ hk1).trans rfl; have c4 := (cell_of_row _ _ 1 _ _ _ hk2).trans rfl; clear hk1 hk2)
      go_ret
      exact ⟨nd_retB HF.out, below_two hb1⟩
    · have hb : (a.se != b.se) = true := by simp [h]
      have HF : Hid (true = r) := Lib.hid (by rw [← HR.out]; simp [h])
      clear HR h
      go_enter Try.func61, Try.ntmps61
      go_wp2_with (go_at_call 63; refine (HL.out _).mono ?_; rintro e w1 ⟨rfl, hb1⟩; have hk1 := (hb1.block w.heap.size (by simp; omega)).trans (heap_alloc2_old w _ _); have hk2 := (hb1.block (w.heap.size + 1) (by simp)).trans (heap_alloc2_new w _ _); have c1 := (cell_of_row _ _ 0 _ _ _ hk1).trans rfl; have c2 := (cell_of_row _ _ 0 _ _ _ hk2).trans rfl; clear hk1 hk2)
      go_ret
      exact ⟨nd_retB HF.out, below_two hb1⟩
end Go.Proofs.Ytgkddhncfaeidaa
