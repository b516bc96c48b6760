/-
  Contracts of Writes and Places, the code's and the document's own.
-/
import Derived.Test.YtkapbeipjjcalaaDoorInsnT
import Derived.Test.YtkapbeipjjcalaaDoorRefOU
namespace Go.Proofs.YtkapbeipjjcalaaDoor
set_option linter.unusedSimpArgs false
set_option linter.unusedVariables false
open Go.ChangeShapes Go.WideShapes Go.ChangeAt Go.RowKit

theorem writes_e (T : Rw) (E : Int) (op dst src off imm : Int) (w : World) (d0 : 0 ≤ dst) (d1 : dst < 256) (hz : SzOk w)
    (HT : Hid (∀ W, SzOk W → Calls Tryd.prog 17 #[.agg #[.int .u8 op, .int .u8 dst, .int .u8 src, .int .i16 off, .int .i32 imm]] W fun e w' => e = .returned (.tuple #[rowV T, .int .i64 E]) ∧ Below W.heap.size W w')) (hE : (E != 0) = true) :
    Calls Tryd.prog 8 #[.agg #[.int .u8 op, .int .u8 dst, .int .u8 src, .int .i16 off, .int .i32 imm]] w fun e w' => e = .returned (.int .i64 (-1)) ∧ Below w.heap.size w w' := by
  have HZ := hid hz
  clear hz
  go_enter Tryd.func8, Tryd.ntmps8
  go_wp2_with fail
  refine (HT.out _ (HZ.out.alloc _)).mono ?_
  rintro e w1 ⟨rfl, b1⟩
  have hb1 := hid (((Below.refl w.heap.size w).alloc (Nat.le_refl _) (.cells #[.int .u8 op, .int .u8 dst, .int .u8 src, .int .i16 off, .int .i32 imm] 24)).trans (b1.mono (by simp)))
  have q0 : w.heap.size < w1.heap.size := by have := b1.size; simp at this; omega
  obtain ⟨hc, hf⟩ := bcell b1
  clear b1
  simp only [rowV, whV]
  go_wp2
  go_ret
  exact ⟨rfl, hb1.out.alloc hb1.out.size _⟩

theorem writes_d (T : Rw) (E : Int) (op dst src off imm : Int) (w : World) (d0 : 0 ≤ dst) (d1 : dst < 256) (hz : SzOk w)
    (HT : Hid (∀ W, SzOk W → Calls Tryd.prog 17 #[.agg #[.int .u8 op, .int .u8 dst, .int .u8 src, .int .i16 off, .int .i32 imm]] W fun e w' => e = .returned (.tuple #[rowV T, .int .i64 E]) ∧ Below W.heap.size W w')) (hE : (E != 0) = false) (h1 : (T.dst == 3) = true) :
    Calls Tryd.prog 8 #[.agg #[.int .u8 op, .int .u8 dst, .int .u8 src, .int .i16 off, .int .i32 imm]] w fun e w' => e = .returned (.int .i64 (dst)) ∧ Below w.heap.size w w' := by
  have HZ := hid hz
  clear hz
  go_enter Tryd.func8, Tryd.ntmps8
  go_wp2_with fail
  refine (HT.out _ (HZ.out.alloc _)).mono ?_
  rintro e w1 ⟨rfl, b1⟩
  have hb1 := hid (((Below.refl w.heap.size w).alloc (Nat.le_refl _) (.cells #[.int .u8 op, .int .u8 dst, .int .u8 src, .int .i16 off, .int .i32 imm] 24)).trans (b1.mono (by simp)))
  have q0 : w.heap.size < w1.heap.size := by have := b1.size; simp at this; omega
  obtain ⟨hc, hf⟩ := bcell b1
  clear b1
  simp only [rowV, whV]
  go_wp2
  go_ret
  exact ⟨rfl, hb1.out.alloc hb1.out.size _⟩

theorem writes_c (T : Rw) (E : Int) (op dst src off imm : Int) (w : World) (d0 : 0 ≤ dst) (d1 : dst < 256) (hz : SzOk w)
    (HT : Hid (∀ W, SzOk W → Calls Tryd.prog 17 #[.agg #[.int .u8 op, .int .u8 dst, .int .u8 src, .int .i16 off, .int .i32 imm]] W fun e w' => e = .returned (.tuple #[rowV T, .int .i64 E]) ∧ Below W.heap.size W w')) (hE : (E != 0) = false) (h1 : (T.dst == 3) = false) (h2 : (T.cls == 8) = true) :
    Calls Tryd.prog 8 #[.agg #[.int .u8 op, .int .u8 dst, .int .u8 src, .int .i16 off, .int .i32 imm]] w fun e w' => e = .returned (.int .i64 (0)) ∧ Below w.heap.size w w' := by
  have HZ := hid hz
  clear hz
  go_enter Tryd.func8, Tryd.ntmps8
  go_wp2_with fail
  refine (HT.out _ (HZ.out.alloc _)).mono ?_
  rintro e w1 ⟨rfl, b1⟩
  have hb1 := hid (((Below.refl w.heap.size w).alloc (Nat.le_refl _) (.cells #[.int .u8 op, .int .u8 dst, .int .u8 src, .int .i16 off, .int .i32 imm] 24)).trans (b1.mono (by simp)))
  have q0 : w.heap.size < w1.heap.size := by have := b1.size; simp at this; omega
  obtain ⟨hc, hf⟩ := bcell b1
  clear b1
  simp only [rowV, whV]
  go_wp2
  go_ret
  exact ⟨rfl, hb1.out.alloc hb1.out.size _⟩

theorem writes_n (T : Rw) (E : Int) (op dst src off imm : Int) (w : World) (d0 : 0 ≤ dst) (d1 : dst < 256) (hz : SzOk w)
    (HT : Hid (∀ W, SzOk W → Calls Tryd.prog 17 #[.agg #[.int .u8 op, .int .u8 dst, .int .u8 src, .int .i16 off, .int .i32 imm]] W fun e w' => e = .returned (.tuple #[rowV T, .int .i64 E]) ∧ Below W.heap.size W w')) (hE : (E != 0) = false) (h1 : (T.dst == 3) = false) (h2 : (T.cls == 8) = false) :
    Calls Tryd.prog 8 #[.agg #[.int .u8 op, .int .u8 dst, .int .u8 src, .int .i16 off, .int .i32 imm]] w fun e w' => e = .returned (.int .i64 (-1)) ∧ Below w.heap.size w w' := by
  have HZ := hid hz
  clear hz
  go_enter Tryd.func8, Tryd.ntmps8
  go_wp2_with fail
  refine (HT.out _ (HZ.out.alloc _)).mono ?_
  rintro e w1 ⟨rfl, b1⟩
  have hb1 := hid (((Below.refl w.heap.size w).alloc (Nat.le_refl _) (.cells #[.int .u8 op, .int .u8 dst, .int .u8 src, .int .i16 off, .int .i32 imm] 24)).trans (b1.mono (by simp)))
  have q0 : w.heap.size < w1.heap.size := by have := b1.size; simp at this; omega
  obtain ⟨hc, hf⟩ := bcell b1
  clear b1
  simp only [rowV, whV]
  go_wp2
  go_ret
  exact ⟨rfl, hb1.out.alloc hb1.out.size _⟩

theorem places_e (T : Rw) (E : Int) (op dst src off imm : Int) (w : World) (d0 : 0 ≤ dst) (d1 : dst < 256) (hz : SzOk w)
    (HT : Hid (∀ W, SzOk W → Calls Tryd.prog 13 #[.agg #[.int .u8 op, .int .u8 dst, .int .u8 src, .int .i16 off, .int .i32 imm]] W fun e w' => e = .returned (.tuple #[whV T, .int .i64 E]) ∧ Below W.heap.size W w')) (hE : (E != 0) = true) :
    Calls Tryd.prog 10 #[.agg #[.int .u8 op, .int .u8 dst, .int .u8 src, .int .i16 off, .int .i32 imm]] w fun e w' => e = .returned (.int .i64 (0)) ∧ Below w.heap.size w w' := by
  have HZ := hid hz
  clear hz
  go_enter Tryd.func10, Tryd.ntmps10
  go_wp2_with fail
  refine (HT.out _ (HZ.out.alloc _)).mono ?_
  rintro e w1 ⟨rfl, b1⟩
  have hb1 := hid (((Below.refl w.heap.size w).alloc (Nat.le_refl _) (.cells #[.int .u8 op, .int .u8 dst, .int .u8 src, .int .i16 off, .int .i32 imm] 24)).trans (b1.mono (by simp)))
  have q0 : w.heap.size < w1.heap.size := by have := b1.size; simp at this; omega
  obtain ⟨hc, hf⟩ := bcell b1
  clear b1
  simp only [rowV, whV]
  go_wp2
  go_ret
  exact ⟨rfl, hb1.out.alloc hb1.out.size _⟩

theorem places_a (T : Rw) (E : Int) (op dst src off imm : Int) (w : World) (d0 : 0 ≤ dst) (d1 : dst < 256) (hz : SzOk w)
    (HT : Hid (∀ W, SzOk W → Calls Tryd.prog 13 #[.agg #[.int .u8 op, .int .u8 dst, .int .u8 src, .int .i16 off, .int .i32 imm]] W fun e w' => e = .returned (.tuple #[whV T, .int .i64 E]) ∧ Below W.heap.size W w')) (hE : (E != 0) = false) (h1 : (T.cls == 10) = true) :
    Calls Tryd.prog 10 #[.agg #[.int .u8 op, .int .u8 dst, .int .u8 src, .int .i16 off, .int .i32 imm]] w fun e w' => e = .returned (.int .i64 (2)) ∧ Below w.heap.size w w' := by
  have HZ := hid hz
  clear hz
  go_enter Tryd.func10, Tryd.ntmps10
  go_wp2_with fail
  refine (HT.out _ (HZ.out.alloc _)).mono ?_
  rintro e w1 ⟨rfl, b1⟩
  have hb1 := hid (((Below.refl w.heap.size w).alloc (Nat.le_refl _) (.cells #[.int .u8 op, .int .u8 dst, .int .u8 src, .int .i16 off, .int .i32 imm] 24)).trans (b1.mono (by simp)))
  have q0 : w.heap.size < w1.heap.size := by have := b1.size; simp at this; omega
  obtain ⟨hc, hf⟩ := bcell b1
  clear b1
  simp only [rowV, whV]
  go_wp2
  go_ret
  exact ⟨rfl, hb1.out.alloc hb1.out.size _⟩

theorem places_b (T : Rw) (E : Int) (op dst src off imm : Int) (w : World) (d0 : 0 ≤ dst) (d1 : dst < 256) (hz : SzOk w)
    (HT : Hid (∀ W, SzOk W → Calls Tryd.prog 13 #[.agg #[.int .u8 op, .int .u8 dst, .int .u8 src, .int .i16 off, .int .i32 imm]] W fun e w' => e = .returned (.tuple #[whV T, .int .i64 E]) ∧ Below W.heap.size W w')) (hE : (E != 0) = false) (h1 : (T.cls == 10) = false) (h2 : (T.cls == 11) = true) :
    Calls Tryd.prog 10 #[.agg #[.int .u8 op, .int .u8 dst, .int .u8 src, .int .i16 off, .int .i32 imm]] w fun e w' => e = .returned (.int .i64 (2)) ∧ Below w.heap.size w w' := by
  have HZ := hid hz
  clear hz
  go_enter Tryd.func10, Tryd.ntmps10
  go_wp2_with fail
  refine (HT.out _ (HZ.out.alloc _)).mono ?_
  rintro e w1 ⟨rfl, b1⟩
  have hb1 := hid (((Below.refl w.heap.size w).alloc (Nat.le_refl _) (.cells #[.int .u8 op, .int .u8 dst, .int .u8 src, .int .i16 off, .int .i32 imm] 24)).trans (b1.mono (by simp)))
  have q0 : w.heap.size < w1.heap.size := by have := b1.size; simp at this; omega
  obtain ⟨hc, hf⟩ := bcell b1
  clear b1
  simp only [rowV, whV]
  go_wp2
  go_ret
  exact ⟨rfl, hb1.out.alloc hb1.out.size _⟩

theorem places_n (T : Rw) (E : Int) (op dst src off imm : Int) (w : World) (d0 : 0 ≤ dst) (d1 : dst < 256) (hz : SzOk w)
    (HT : Hid (∀ W, SzOk W → Calls Tryd.prog 13 #[.agg #[.int .u8 op, .int .u8 dst, .int .u8 src, .int .i16 off, .int .i32 imm]] W fun e w' => e = .returned (.tuple #[whV T, .int .i64 E]) ∧ Below W.heap.size W w')) (hE : (E != 0) = false) (h1 : (T.cls == 10) = false) (h2 : (T.cls == 11) = false) :
    Calls Tryd.prog 10 #[.agg #[.int .u8 op, .int .u8 dst, .int .u8 src, .int .i16 off, .int .i32 imm]] w fun e w' => e = .returned (.int .i64 (1)) ∧ Below w.heap.size w w' := by
  have HZ := hid hz
  clear hz
  go_enter Tryd.func10, Tryd.ntmps10
  go_wp2_with fail
  refine (HT.out _ (HZ.out.alloc _)).mono ?_
  rintro e w1 ⟨rfl, b1⟩
  have hb1 := hid (((Below.refl w.heap.size w).alloc (Nat.le_refl _) (.cells #[.int .u8 op, .int .u8 dst, .int .u8 src, .int .i16 off, .int .i32 imm] 24)).trans (b1.mono (by simp)))
  have q0 : w.heap.size < w1.heap.size := by have := b1.size; simp at this; omega
  obtain ⟨hc, hf⟩ := bcell b1
  clear b1
  simp only [rowV, whV]
  go_wp2
  go_ret
  exact ⟨rfl, hb1.out.alloc hb1.out.size _⟩

theorem rwrites_e (T : Rw) (r : RR) (E : Int) (op dst src off imm : Int) (w : World) (d0 : 0 ≤ dst) (d1 : dst < 256)
    (HT : Hid (∀ W, Calls Tryd.prog 21 #[.agg #[.int .u8 op, .int .u8 dst, .int .u8 src, .int .i16 off, .int .i32 imm]] W fun e w' => e = .returned (.tuple #[whV T, .int .i64 E]) ∧ Below W.heap.size W w')) (hE : (E != 0) = true) :
    Calls Tryd.prog 9 #[.agg #[.int .u8 op, .int .u8 dst, .int .u8 src, .int .i16 off, .int .i32 imm]] w fun e w' => e = .returned (.int .i64 (-1)) ∧ Below w.heap.size w w' := by
  go_enter Tryd.func9, Tryd.ntmps9
  go_wp2_with fail
  refine (HT.out _).mono ?_
  rintro e w1 ⟨rfl, b1⟩
  have hb1 := hid (((Below.refl w.heap.size w).alloc (Nat.le_refl _) (.cells #[.int .u8 op, .int .u8 dst, .int .u8 src, .int .i16 off, .int .i32 imm] 24)).trans (b1.mono (by simp)))
  have q0 : w.heap.size < w1.heap.size := by have := b1.size; simp at this; omega
  obtain ⟨hc, hf⟩ := bcell b1
  clear b1
  simp only [whV]
  go_wp2
  go_ret
  exact ⟨rfl, hb1.out.alloc hb1.out.size _⟩

theorem rwrites_c (T : Rw) (r : RR) (E : Int) (op dst src off imm : Int) (w : World) (d0 : 0 ≤ dst) (d1 : dst < 256)
    (HT : Hid (∀ W, Calls Tryd.prog 21 #[.agg #[.int .u8 op, .int .u8 dst, .int .u8 src, .int .i16 off, .int .i32 imm]] W fun e w' => e = .returned (.tuple #[whV T, .int .i64 E]) ∧ Below W.heap.size W w'))
    (HF : Hid (∀ W, Calls Tryd.prog 22 #[.agg #[.int .u8 op, .int .u8 dst, .int .u8 src, .int .i16 off, .int .i32 imm]] W fun e w' => e = .returned (.tuple #[rrV r, .bool true]) ∧ Below W.heap.size W w')) (hE : (E != 0) = false) (h2 : (T.cls == 8) = true) :
    Calls Tryd.prog 9 #[.agg #[.int .u8 op, .int .u8 dst, .int .u8 src, .int .i16 off, .int .i32 imm]] w fun e w' => e = .returned (.int .i64 (0)) ∧ Below w.heap.size w w' := by
  go_enter Tryd.func9, Tryd.ntmps9
  go_wp2_with fail
  refine (HT.out _).mono ?_
  rintro e w1 ⟨rfl, b1⟩
  have hb1 := hid (((Below.refl w.heap.size w).alloc (Nat.le_refl _) (.cells #[.int .u8 op, .int .u8 dst, .int .u8 src, .int .i16 off, .int .i32 imm] 24)).trans (b1.mono (by simp)))
  have q0 : w.heap.size < w1.heap.size := by have := b1.size; simp at this; omega
  obtain ⟨hc, hf⟩ := bcell b1
  clear b1
  simp only [whV]
  go_wp2_with fail
  refine (HF.out _).mono ?_
  rintro e w2 ⟨rfl, b2⟩
  have hb2 := hid ((hb1.out.alloc hb1.out.size (.cells #[.int .i64 T.cls, .int .i64 T.op, .int .i64 T.size, .bool T.wide, .bool T.reg] 52)).trans (b2.mono (by have := hb1.out.size; simp; omega)))
  have q1 : w1.heap.size < w2.heap.size := by have := b2.size; simp at this; omega
  have q2 : w.heap.size < w2.heap.size := by omega
  have a1 : w2.cell? ⟨w.heap.size, 1, none⟩ = some (.int .u8 dst) := by rw [b2.cell (p := ⟨w.heap.size, 1, none⟩) (by simp; omega)]; simp [go_sem, hc, q0]
  have a3 : w2.cell? ⟨w1.heap.size, 0, none⟩ = some (.int .i64 T.cls) := by rw [b2.cell (p := ⟨w1.heap.size, 0, none⟩) (by simp)]; simp
  clear hc hf b2
  simp only [rrV]
  go_wp2
  go_ret
  exact ⟨rfl, hb2.out.alloc hb2.out.size _⟩

theorem rwrites_d (T : Rw) (r : RR) (E : Int) (op dst src off imm : Int) (w : World) (d0 : 0 ≤ dst) (d1 : dst < 256)
    (HT : Hid (∀ W, Calls Tryd.prog 21 #[.agg #[.int .u8 op, .int .u8 dst, .int .u8 src, .int .i16 off, .int .i32 imm]] W fun e w' => e = .returned (.tuple #[whV T, .int .i64 E]) ∧ Below W.heap.size W w'))
    (HF : Hid (∀ W, Calls Tryd.prog 22 #[.agg #[.int .u8 op, .int .u8 dst, .int .u8 src, .int .i16 off, .int .i32 imm]] W fun e w' => e = .returned (.tuple #[rrV r, .bool true]) ∧ Below W.heap.size W w')) (hE : (E != 0) = false) (h2 : (T.cls == 8) = false) (h1 : (r.dst == 2) = true) :
    Calls Tryd.prog 9 #[.agg #[.int .u8 op, .int .u8 dst, .int .u8 src, .int .i16 off, .int .i32 imm]] w fun e w' => e = .returned (.int .i64 (dst)) ∧ Below w.heap.size w w' := by
  go_enter Tryd.func9, Tryd.ntmps9
  go_wp2_with fail
  refine (HT.out _).mono ?_
  rintro e w1 ⟨rfl, b1⟩
  have hb1 := hid (((Below.refl w.heap.size w).alloc (Nat.le_refl _) (.cells #[.int .u8 op, .int .u8 dst, .int .u8 src, .int .i16 off, .int .i32 imm] 24)).trans (b1.mono (by simp)))
  have q0 : w.heap.size < w1.heap.size := by have := b1.size; simp at this; omega
  obtain ⟨hc, hf⟩ := bcell b1
  clear b1
  simp only [whV]
  go_wp2_with fail
  refine (HF.out _).mono ?_
  rintro e w2 ⟨rfl, b2⟩
  have hb2 := hid ((hb1.out.alloc hb1.out.size (.cells #[.int .i64 T.cls, .int .i64 T.op, .int .i64 T.size, .bool T.wide, .bool T.reg] 52)).trans (b2.mono (by have := hb1.out.size; simp; omega)))
  have q1 : w1.heap.size < w2.heap.size := by have := b2.size; simp at this; omega
  have q2 : w.heap.size < w2.heap.size := by omega
  have a1 : w2.cell? ⟨w.heap.size, 1, none⟩ = some (.int .u8 dst) := by rw [b2.cell (p := ⟨w.heap.size, 1, none⟩) (by simp; omega)]; simp [go_sem, hc, q0]
  have a3 : w2.cell? ⟨w1.heap.size, 0, none⟩ = some (.int .i64 T.cls) := by rw [b2.cell (p := ⟨w1.heap.size, 0, none⟩) (by simp)]; simp
  clear hc hf b2
  simp only [rrV]
  go_wp2
  go_ret
  exact ⟨rfl, hb2.out.alloc hb2.out.size _⟩

theorem rwrites_n (T : Rw) (r : RR) (E : Int) (op dst src off imm : Int) (w : World) (d0 : 0 ≤ dst) (d1 : dst < 256)
    (HT : Hid (∀ W, Calls Tryd.prog 21 #[.agg #[.int .u8 op, .int .u8 dst, .int .u8 src, .int .i16 off, .int .i32 imm]] W fun e w' => e = .returned (.tuple #[whV T, .int .i64 E]) ∧ Below W.heap.size W w'))
    (HF : Hid (∀ W, Calls Tryd.prog 22 #[.agg #[.int .u8 op, .int .u8 dst, .int .u8 src, .int .i16 off, .int .i32 imm]] W fun e w' => e = .returned (.tuple #[rrV r, .bool true]) ∧ Below W.heap.size W w')) (hE : (E != 0) = false) (h2 : (T.cls == 8) = false) (h1 : (r.dst == 2) = false) :
    Calls Tryd.prog 9 #[.agg #[.int .u8 op, .int .u8 dst, .int .u8 src, .int .i16 off, .int .i32 imm]] w fun e w' => e = .returned (.int .i64 (-1)) ∧ Below w.heap.size w w' := by
  go_enter Tryd.func9, Tryd.ntmps9
  go_wp2_with fail
  refine (HT.out _).mono ?_
  rintro e w1 ⟨rfl, b1⟩
  have hb1 := hid (((Below.refl w.heap.size w).alloc (Nat.le_refl _) (.cells #[.int .u8 op, .int .u8 dst, .int .u8 src, .int .i16 off, .int .i32 imm] 24)).trans (b1.mono (by simp)))
  have q0 : w.heap.size < w1.heap.size := by have := b1.size; simp at this; omega
  obtain ⟨hc, hf⟩ := bcell b1
  clear b1
  simp only [whV]
  go_wp2_with fail
  refine (HF.out _).mono ?_
  rintro e w2 ⟨rfl, b2⟩
  have hb2 := hid ((hb1.out.alloc hb1.out.size (.cells #[.int .i64 T.cls, .int .i64 T.op, .int .i64 T.size, .bool T.wide, .bool T.reg] 52)).trans (b2.mono (by have := hb1.out.size; simp; omega)))
  have q1 : w1.heap.size < w2.heap.size := by have := b2.size; simp at this; omega
  have q2 : w.heap.size < w2.heap.size := by omega
  have a1 : w2.cell? ⟨w.heap.size, 1, none⟩ = some (.int .u8 dst) := by rw [b2.cell (p := ⟨w.heap.size, 1, none⟩) (by simp; omega)]; simp [go_sem, hc, q0]
  have a3 : w2.cell? ⟨w1.heap.size, 0, none⟩ = some (.int .i64 T.cls) := by rw [b2.cell (p := ⟨w1.heap.size, 0, none⟩) (by simp)]; simp
  clear hc hf b2
  simp only [rrV]
  go_wp2
  go_ret
  exact ⟨rfl, hb2.out.alloc hb2.out.size _⟩

theorem rplaces_e (T : Rw) (r : RR) (E : Int) (op dst src off imm : Int) (w : World) (d0 : 0 ≤ dst) (d1 : dst < 256)
    (HT : Hid (∀ W, Calls Tryd.prog 21 #[.agg #[.int .u8 op, .int .u8 dst, .int .u8 src, .int .i16 off, .int .i32 imm]] W fun e w' => e = .returned (.tuple #[whV T, .int .i64 E]) ∧ Below W.heap.size W w')) (hE : (E != 0) = true) :
    Calls Tryd.prog 11 #[.agg #[.int .u8 op, .int .u8 dst, .int .u8 src, .int .i16 off, .int .i32 imm]] w fun e w' => e = .returned (.int .i64 (0)) ∧ Below w.heap.size w w' := by
  go_enter Tryd.func11, Tryd.ntmps11
  go_wp2_with fail
  refine (HT.out _).mono ?_
  rintro e w1 ⟨rfl, b1⟩
  have hb1 := hid (((Below.refl w.heap.size w).alloc (Nat.le_refl _) (.cells #[.int .u8 op, .int .u8 dst, .int .u8 src, .int .i16 off, .int .i32 imm] 24)).trans (b1.mono (by simp)))
  have q0 : w.heap.size < w1.heap.size := by have := b1.size; simp at this; omega
  obtain ⟨hc, hf⟩ := bcell b1
  clear b1
  simp only [whV]
  go_wp2
  go_ret
  exact ⟨rfl, hb1.out.alloc hb1.out.size _⟩

theorem rplaces_a (T : Rw) (r : RR) (E : Int) (op dst src off imm : Int) (w : World) (d0 : 0 ≤ dst) (d1 : dst < 256)
    (HT : Hid (∀ W, Calls Tryd.prog 21 #[.agg #[.int .u8 op, .int .u8 dst, .int .u8 src, .int .i16 off, .int .i32 imm]] W fun e w' => e = .returned (.tuple #[whV T, .int .i64 E]) ∧ Below W.heap.size W w')) (hE : (E != 0) = false) (h1 : (T.cls == 10) = true) :
    Calls Tryd.prog 11 #[.agg #[.int .u8 op, .int .u8 dst, .int .u8 src, .int .i16 off, .int .i32 imm]] w fun e w' => e = .returned (.int .i64 (2)) ∧ Below w.heap.size w w' := by
  go_enter Tryd.func11, Tryd.ntmps11
  go_wp2_with fail
  refine (HT.out _).mono ?_
  rintro e w1 ⟨rfl, b1⟩
  have hb1 := hid (((Below.refl w.heap.size w).alloc (Nat.le_refl _) (.cells #[.int .u8 op, .int .u8 dst, .int .u8 src, .int .i16 off, .int .i32 imm] 24)).trans (b1.mono (by simp)))
  have q0 : w.heap.size < w1.heap.size := by have := b1.size; simp at this; omega
  obtain ⟨hc, hf⟩ := bcell b1
  clear b1
  simp only [whV]
  go_wp2
  go_ret
  exact ⟨rfl, hb1.out.alloc hb1.out.size _⟩

theorem rplaces_b (T : Rw) (r : RR) (E : Int) (op dst src off imm : Int) (w : World) (d0 : 0 ≤ dst) (d1 : dst < 256)
    (HT : Hid (∀ W, Calls Tryd.prog 21 #[.agg #[.int .u8 op, .int .u8 dst, .int .u8 src, .int .i16 off, .int .i32 imm]] W fun e w' => e = .returned (.tuple #[whV T, .int .i64 E]) ∧ Below W.heap.size W w')) (hE : (E != 0) = false) (h1 : (T.cls == 10) = false) (h2 : (T.cls == 11) = true) :
    Calls Tryd.prog 11 #[.agg #[.int .u8 op, .int .u8 dst, .int .u8 src, .int .i16 off, .int .i32 imm]] w fun e w' => e = .returned (.int .i64 (2)) ∧ Below w.heap.size w w' := by
  go_enter Tryd.func11, Tryd.ntmps11
  go_wp2_with fail
  refine (HT.out _).mono ?_
  rintro e w1 ⟨rfl, b1⟩
  have hb1 := hid (((Below.refl w.heap.size w).alloc (Nat.le_refl _) (.cells #[.int .u8 op, .int .u8 dst, .int .u8 src, .int .i16 off, .int .i32 imm] 24)).trans (b1.mono (by simp)))
  have q0 : w.heap.size < w1.heap.size := by have := b1.size; simp at this; omega
  obtain ⟨hc, hf⟩ := bcell b1
  clear b1
  simp only [whV]
  go_wp2
  go_ret
  exact ⟨rfl, hb1.out.alloc hb1.out.size _⟩

theorem rplaces_n (T : Rw) (r : RR) (E : Int) (op dst src off imm : Int) (w : World) (d0 : 0 ≤ dst) (d1 : dst < 256)
    (HT : Hid (∀ W, Calls Tryd.prog 21 #[.agg #[.int .u8 op, .int .u8 dst, .int .u8 src, .int .i16 off, .int .i32 imm]] W fun e w' => e = .returned (.tuple #[whV T, .int .i64 E]) ∧ Below W.heap.size W w')) (hE : (E != 0) = false) (h1 : (T.cls == 10) = false) (h2 : (T.cls == 11) = false) :
    Calls Tryd.prog 11 #[.agg #[.int .u8 op, .int .u8 dst, .int .u8 src, .int .i16 off, .int .i32 imm]] w fun e w' => e = .returned (.int .i64 (1)) ∧ Below w.heap.size w w' := by
  go_enter Tryd.func11, Tryd.ntmps11
  go_wp2_with fail
  refine (HT.out _).mono ?_
  rintro e w1 ⟨rfl, b1⟩
  have hb1 := hid (((Below.refl w.heap.size w).alloc (Nat.le_refl _) (.cells #[.int .u8 op, .int .u8 dst, .int .u8 src, .int .i16 off, .int .i32 imm] 24)).trans (b1.mono (by simp)))
  have q0 : w.heap.size < w1.heap.size := by have := b1.size; simp at this; omega
  obtain ⟨hc, hf⟩ := bcell b1
  clear b1
  simp only [whV]
  go_wp2
  go_ret
  exact ⟨rfl, hb1.out.alloc hb1.out.size _⟩

end Go.Proofs.YtkapbeipjjcalaaDoor
