/-
  The contract of insn.Make, as the landed code has it, way o.
-/
import Derived.Test.YtkapbeipjjcalaaDoorInsnO
import Derived.Test.YtkapbeipjjcalaaDoorInsnT
import Derived.Deep.RegionWith
namespace Go.Proofs.YtkapbeipjjcalaaDoor
set_option linter.unusedSimpArgs false
set_option linter.unusedVariables false
open Go.ChangeShapes Go.WideShapes Go.ChangeAt Go.RowKit

set_option maxRecDepth 100000 in
set_option maxHeartbeats 600000 in
theorem make_o_n (cls o size : Int) (wide reg : Bool) (op dst src off imm op' : Int) (R : Rw) (w : World) (h0 : 0 ≤ op') (h1 : op' < 256) (hz : SzOk w)
    (HO : Hid (∀ W, SzOk W → Calls Tryd.prog 23 #[.agg #[.int .i64 cls, .int .i64 o, .int .i64 size, .bool wide, .bool reg]] W fun e w' => e = .returned (.int .u8 op') ∧ Below W.heap.size W w'))
    (HR : Hid (∀ W, SzOk W → Calls Tryd.prog 24 #[.agg #[.int .u8 op', .int .u8 dst, .int .u8 src, .int .i16 off, .int .i32 imm]] W fun e w' => e = .returned (rowV R) ∧ Below W.heap.size W w'))
    (n2 : (cls == 2) = false) (n10 : (cls == 10) = false) (n11 : (cls == 11) = false) (n0 : ∀ W, (binOp .eql 31 (.agg #[.int .i64 cls, .int .i64 o, .int .i64 size, .bool wide, .bool reg]) (.agg #[.int .i64 0, .int .i64 0, .int .i64 0, .bool false, .bool false])).run Tryd.prog W = .ok (.bool false) W)
    (hne : ∀ W, (binOp .neq 31 (.agg #[.int .i64 cls, .int .i64 o, .int .i64 size, .bool wide, .bool reg]) (.agg #[.int .i64 R.cls, .int .i64 R.op, .int .i64 R.size, .bool R.wide, .bool R.reg])).run Tryd.prog W = .ok (.bool true) W) :
    Calls Tryd.prog 14 #[.agg #[.int .i64 cls, .int .i64 o, .int .i64 size, .bool wide, .bool reg], .agg #[.int .u8 op, .int .u8 dst, .int .u8 src, .int .i16 off, .int .i32 imm]] w fun e w' => e = .returned (.tuple #[.agg #[.int .u8 0, .int .u8 0, .int .u8 0, .int .i16 0, .int .i32 0], .int .i64 1]) ∧ Below w.heap.size w w' := by
  have hfd : ∀ W, (Instr.field 46 (.agg #[.int .i64 R.cls, .int .i64 R.op, .int .i64 R.size, .bool R.wide, .bool R.reg, .int .i64 R.dst, .int .i64 R.src, .int .i64 R.off, .int .i64 R.imm]) 0).run Tryd.prog W = .ok (.agg #[.int .i64 R.cls, .int .i64 R.op, .int .i64 R.size, .bool R.wide, .bool R.reg]) W := fun _ => by kernel_rfl
  have HZ := hid hz
  clear hz
  go_enter Tryd.func14, Tryd.ntmps14
  go_wp2_with fail
  refine (HO.out _ (((HZ.out.alloc _).alloc _).alloc _)).mono ?_
  rintro e w1 ⟨rfl, b1⟩
  have hz1 := hid ((((HZ.out.alloc _).alloc _).alloc _).below b1)
  have hb1 := hid (((((Below.refl w.heap.size w).alloc (Nat.le_refl _) (.cells #[.int .i64 cls, .int .i64 o, .int .i64 size, .bool wide, .bool reg] 31)).alloc (by simp) (.cells #[.int .u8 op, .int .u8 dst, .int .u8 src, .int .i16 off, .int .i32 imm] 24)).alloc (by simp; omega) (.cells #[.int .u8 0, .int .u8 0, .int .u8 0, .int .i16 0, .int .i32 0] 24)).trans (b1.mono (by simp; omega)))
  have q0 : w.heap.size + 2 < w1.heap.size := by have := b1.size; simp at this; omega
  have q1 : w.heap.size + 1 < w1.heap.size := by omega
  have q2 : w.heap.size < w1.heap.size := by omega
  obtain ⟨hc, hf⟩ := bcell b1
  clear b1 HO
  go_wp2
  have hX := hid (show Below w.heap.size w (w1.setCell ⟨w.heap.size + 1, 0, none⟩ (.int .u8 op')) from ((hb1.out.setCell (by simp) _)))
  have hs1 : (w1.setCell ⟨w.heap.size + 1, 0, none⟩ (.int .u8 op')).heap.size = w1.heap.size := by simp
  have hzX := hid (HZ.out.below hX.out.drew)
  go_region_with ((go_at_call 24; refine (HR.out _ hzX.out).mono ?_; rintro e w2 ⟨rfl, b2⟩; obtain ⟨hc2, hf2⟩ := bcell b2; have hb2 := hid (hX.out.drew.trans (b2.mono (by simp; omega))); have p0 : w.heap.size + 2 < w2.heap.size := (by have := b2.size; simp at this; omega); have p1 : w.heap.size + 1 < w2.heap.size := (by omega); have p2 : w.heap.size < w2.heap.size := (by omega); clear b2; simp only [rowV]))
  all_goals go_wp2
  all_goals exact bodyPost_ret (v := .tuple #[.agg #[.int .u8 0, .int .u8 0, .int .u8 0, .int .i16 0, .int .i32 0], .int .i64 1]) (by simp [results, Tryd.results14, go_sem, hc2, hc, q0, p0]; try rfl) rfl ⟨rfl, (((((hb2.out.setCell (by simp; omega) _).setCell (by simp; omega) _).setCell (by simp; omega) _).setCell (by simp; omega) _).setCell (by simp; omega) _)⟩

set_option maxRecDepth 100000 in
set_option maxHeartbeats 600000 in
theorem make_o_e (cls o size : Int) (wide reg : Bool) (op dst src off imm op' : Int) (R : Rw) (w : World) (h0 : 0 ≤ op') (h1 : op' < 256) (hz : SzOk w)
    (HO : Hid (∀ W, SzOk W → Calls Tryd.prog 23 #[.agg #[.int .i64 cls, .int .i64 o, .int .i64 size, .bool wide, .bool reg]] W fun e w' => e = .returned (.int .u8 op') ∧ Below W.heap.size W w'))
    (HR : Hid (∀ W, SzOk W → Calls Tryd.prog 24 #[.agg #[.int .u8 op', .int .u8 dst, .int .u8 src, .int .i16 off, .int .i32 imm]] W fun e w' => e = .returned (rowV R) ∧ Below W.heap.size W w'))
    (n2 : (cls == 2) = false) (n10 : (cls == 10) = false) (n11 : (cls == 11) = false) (n0 : ∀ W, (binOp .eql 31 (.agg #[.int .i64 cls, .int .i64 o, .int .i64 size, .bool wide, .bool reg]) (.agg #[.int .i64 0, .int .i64 0, .int .i64 0, .bool false, .bool false])).run Tryd.prog W = .ok (.bool false) W)
    (hne : ∀ W, (binOp .neq 31 (.agg #[.int .i64 cls, .int .i64 o, .int .i64 size, .bool wide, .bool reg]) (.agg #[.int .i64 R.cls, .int .i64 R.op, .int .i64 R.size, .bool R.wide, .bool R.reg])).run Tryd.prog W = .ok (.bool false) W) (T : Rw) (k : Int) (hk : (k != 0) = true)
    (HT : Hid (∀ W, SzOk W → Calls Tryd.prog 17 #[.agg #[.int .u8 op', .int .u8 dst, .int .u8 src, .int .i16 off, .int .i32 imm]] W fun e w' => e = .returned (.tuple #[rowV T, .int .i64 k]) ∧ Below W.heap.size W w')) :
    Calls Tryd.prog 14 #[.agg #[.int .i64 cls, .int .i64 o, .int .i64 size, .bool wide, .bool reg], .agg #[.int .u8 op, .int .u8 dst, .int .u8 src, .int .i16 off, .int .i32 imm]] w fun e w' => e = .returned (.tuple #[.agg #[.int .u8 0, .int .u8 0, .int .u8 0, .int .i16 0, .int .i32 0], .int .i64 k]) ∧ Below w.heap.size w w' := by
  have hfd : ∀ W, (Instr.field 46 (.agg #[.int .i64 R.cls, .int .i64 R.op, .int .i64 R.size, .bool R.wide, .bool R.reg, .int .i64 R.dst, .int .i64 R.src, .int .i64 R.off, .int .i64 R.imm]) 0).run Tryd.prog W = .ok (.agg #[.int .i64 R.cls, .int .i64 R.op, .int .i64 R.size, .bool R.wide, .bool R.reg]) W := fun _ => by kernel_rfl
  have HZ := hid hz
  clear hz
  go_enter Tryd.func14, Tryd.ntmps14
  go_wp2_with fail
  refine (HO.out _ (((HZ.out.alloc _).alloc _).alloc _)).mono ?_
  rintro e w1 ⟨rfl, b1⟩
  have hz1 := hid ((((HZ.out.alloc _).alloc _).alloc _).below b1)
  have hb1 := hid (((((Below.refl w.heap.size w).alloc (Nat.le_refl _) (.cells #[.int .i64 cls, .int .i64 o, .int .i64 size, .bool wide, .bool reg] 31)).alloc (by simp) (.cells #[.int .u8 op, .int .u8 dst, .int .u8 src, .int .i16 off, .int .i32 imm] 24)).alloc (by simp; omega) (.cells #[.int .u8 0, .int .u8 0, .int .u8 0, .int .i16 0, .int .i32 0] 24)).trans (b1.mono (by simp; omega)))
  have q0 : w.heap.size + 2 < w1.heap.size := by have := b1.size; simp at this; omega
  have q1 : w.heap.size + 1 < w1.heap.size := by omega
  have q2 : w.heap.size < w1.heap.size := by omega
  obtain ⟨hc, hf⟩ := bcell b1
  clear b1 HO
  go_wp2
  have hX := hid (show Below w.heap.size w (w1.setCell ⟨w.heap.size + 1, 0, none⟩ (.int .u8 op')) from ((hb1.out.setCell (by simp) _)))
  have hs1 : (w1.setCell ⟨w.heap.size + 1, 0, none⟩ (.int .u8 op')).heap.size = w1.heap.size := by simp
  have hzX := hid (HZ.out.below hX.out.drew)
  go_region_with ((go_at_call 24; refine (HR.out _ hzX.out).mono ?_; rintro e w2 ⟨rfl, b2⟩; obtain ⟨hc2, hf2⟩ := bcell b2; have hb2 := hid (hX.out.drew.trans (b2.mono (by simp; omega))); have p0 : w.heap.size + 2 < w2.heap.size := (by have := b2.size; simp at this; omega); have p1 : w.heap.size + 1 < w2.heap.size := (by omega); have p2 : w.heap.size < w2.heap.size := (by omega); clear b2; simp only [rowV]))
  all_goals
    have k0 : w2.cell? ⟨w.heap.size + 1, 0, none⟩ = some (.int .u8 op') := by rw [hc2 _ _ (by simp; omega)]; simp [go_sem, hc, q0, q1]
    have k1 : w2.cell? ⟨w.heap.size + 1, 1, none⟩ = some (.int .u8 dst) := by rw [hc2 _ _ (by simp; omega)]; simp [go_sem, hc, q0, q1]
    have k2 : w2.cell? ⟨w.heap.size + 1, 2, none⟩ = some (.int .u8 src) := by rw [hc2 _ _ (by simp; omega)]; simp [go_sem, hc, q0, q1]
    have k3 : w2.cell? ⟨w.heap.size + 1, 3, none⟩ = some (.int .i16 off) := by rw [hc2 _ _ (by simp; omega)]; simp [go_sem, hc, q0, q1]
    have k4 : w2.cell? ⟨w.heap.size + 1, 4, none⟩ = some (.int .i32 imm) := by rw [hc2 _ _ (by simp; omega)]; simp [go_sem, hc, q0, q1]
    have y4 : ∀ o, o < 5 → w2.frozen? ⟨w.heap.size + 2, o, none⟩ = false := fun o ho => by rw [hf2 _ _ (by simp; omega)]; simp [go_sem, hf, q0]
    have y5 : ∀ o, o < 5 → ∃ v, w2.cell? ⟨w.heap.size + 2, o, none⟩ = some v := fun o ho => by
      rw [hc2 _ _ (by simp; omega)]
      have : o = 0 ∨ o = 1 ∨ o = 2 ∨ o = 3 ∨ o = 4 := by omega
      rcases this with rfl | rfl | rfl | rfl | rfl <;> simp [go_sem, hc, q0]
    have HY4 := hid y4
    have HY5 := hid y5
    have hz2 := hid (HZ.out.below hb2.out)
    clear y4 y5 hc hf hc2 hf2 hX hzX hb1 hz1
    go_wp2_with fail
    refine (HT.out _ hz2.out).mono ?_
    rintro e w3 ⟨rfl, b3⟩
    have r0 : w.heap.size + 2 < w3.heap.size := Nat.lt_of_lt_of_le p0 b3.size
    have r1 : w.heap.size + 1 < w3.heap.size := by omega
    have j0 : w3.cell? ⟨w.heap.size + 1, 0, none⟩ = some (.int .u8 op') := (b3.cell (p := ⟨w.heap.size + 1, 0, none⟩) p1).trans k0
    have j1 : w3.cell? ⟨w.heap.size + 1, 1, none⟩ = some (.int .u8 dst) := (b3.cell (p := ⟨w.heap.size + 1, 1, none⟩) p1).trans k1
    have j2 : w3.cell? ⟨w.heap.size + 1, 2, none⟩ = some (.int .u8 src) := (b3.cell (p := ⟨w.heap.size + 1, 2, none⟩) p1).trans k2
    have j3 : w3.cell? ⟨w.heap.size + 1, 3, none⟩ = some (.int .i16 off) := (b3.cell (p := ⟨w.heap.size + 1, 3, none⟩) p1).trans k3
    have j4 : w3.cell? ⟨w.heap.size + 1, 4, none⟩ = some (.int .i32 imm) := (b3.cell (p := ⟨w.heap.size + 1, 4, none⟩) p1).trans k4
    obtain ⟨x0, t0⟩ := HY5.out 0 (by decide)
    have u0 := (b3.cell (p := ⟨w.heap.size + 2, 0, none⟩) p0).trans t0
    have f0 : w3.frozen? ⟨w.heap.size + 2, 0, none⟩ = false := (b3.frozen (p := ⟨w.heap.size + 2, 0, none⟩) p0).trans (HY4.out 0 (by decide))
    obtain ⟨x1, t1⟩ := HY5.out 1 (by decide)
    have u1 := (b3.cell (p := ⟨w.heap.size + 2, 1, none⟩) p0).trans t1
    have f1 : w3.frozen? ⟨w.heap.size + 2, 1, none⟩ = false := (b3.frozen (p := ⟨w.heap.size + 2, 1, none⟩) p0).trans (HY4.out 1 (by decide))
    obtain ⟨x2, t2⟩ := HY5.out 2 (by decide)
    have u2 := (b3.cell (p := ⟨w.heap.size + 2, 2, none⟩) p0).trans t2
    have f2 : w3.frozen? ⟨w.heap.size + 2, 2, none⟩ = false := (b3.frozen (p := ⟨w.heap.size + 2, 2, none⟩) p0).trans (HY4.out 2 (by decide))
    obtain ⟨x3, t3⟩ := HY5.out 3 (by decide)
    have u3 := (b3.cell (p := ⟨w.heap.size + 2, 3, none⟩) p0).trans t3
    have f3 : w3.frozen? ⟨w.heap.size + 2, 3, none⟩ = false := (b3.frozen (p := ⟨w.heap.size + 2, 3, none⟩) p0).trans (HY4.out 3 (by decide))
    obtain ⟨x4, t4⟩ := HY5.out 4 (by decide)
    have u4 := (b3.cell (p := ⟨w.heap.size + 2, 4, none⟩) p0).trans t4
    have f4 : w3.frozen? ⟨w.heap.size + 2, 4, none⟩ = false := (b3.frozen (p := ⟨w.heap.size + 2, 4, none⟩) p0).trans (HY4.out 4 (by decide))
    have hb3 := hid (hb2.out.trans (b3.mono hb2.out.size))
    clear b3 k0 k1 k2 k3 k4 t0 t1 t2 t3 t4 HY4 HY5 hz2
    simp only [rowV]
    go_wp2
    exact bodyPost_ret (v := .tuple #[.agg #[.int .u8 0, .int .u8 0, .int .u8 0, .int .i16 0, .int .i32 0], .int .i64 k]) (by simp [results, Tryd.results14, go_sem, r0, r1, u0, u1, u2, u3, u4]; try rfl) rfl ⟨rfl, ((((((hb3.out.setCell (by simp; omega) _).setCell (by simp; omega) _).setCell (by simp; omega) _).setCell (by simp; omega) _).setCell (by simp; omega) _).alloc (by simp; omega) _)⟩

set_option maxRecDepth 100000 in
set_option maxHeartbeats 600000 in
theorem make_o_k (cls o size : Int) (wide reg : Bool) (op dst src off imm op' : Int) (R : Rw) (w : World) (h0 : 0 ≤ op') (h1 : op' < 256) (hz : SzOk w)
    (HO : Hid (∀ W, SzOk W → Calls Tryd.prog 23 #[.agg #[.int .i64 cls, .int .i64 o, .int .i64 size, .bool wide, .bool reg]] W fun e w' => e = .returned (.int .u8 op') ∧ Below W.heap.size W w'))
    (HR : Hid (∀ W, SzOk W → Calls Tryd.prog 24 #[.agg #[.int .u8 op', .int .u8 dst, .int .u8 src, .int .i16 off, .int .i32 imm]] W fun e w' => e = .returned (rowV R) ∧ Below W.heap.size W w'))
    (n2 : (cls == 2) = false) (n10 : (cls == 10) = false) (n11 : (cls == 11) = false) (n0 : ∀ W, (binOp .eql 31 (.agg #[.int .i64 cls, .int .i64 o, .int .i64 size, .bool wide, .bool reg]) (.agg #[.int .i64 0, .int .i64 0, .int .i64 0, .bool false, .bool false])).run Tryd.prog W = .ok (.bool false) W)
    (hne : ∀ W, (binOp .neq 31 (.agg #[.int .i64 cls, .int .i64 o, .int .i64 size, .bool wide, .bool reg]) (.agg #[.int .i64 R.cls, .int .i64 R.op, .int .i64 R.size, .bool R.wide, .bool R.reg])).run Tryd.prog W = .ok (.bool false) W) (T : Rw) (k : Int) (hk : (k != 0) = false)
    (HT : Hid (∀ W, SzOk W → Calls Tryd.prog 17 #[.agg #[.int .u8 op', .int .u8 dst, .int .u8 src, .int .i16 off, .int .i32 imm]] W fun e w' => e = .returned (.tuple #[rowV T, .int .i64 k]) ∧ Below W.heap.size W w')) :
    Calls Tryd.prog 14 #[.agg #[.int .i64 cls, .int .i64 o, .int .i64 size, .bool wide, .bool reg], .agg #[.int .u8 op, .int .u8 dst, .int .u8 src, .int .i16 off, .int .i32 imm]] w fun e w' => e = .returned (.tuple #[.agg #[.int .u8 op', .int .u8 dst, .int .u8 src, .int .i16 off, .int .i32 imm], .int .i64 0]) ∧ Below w.heap.size w w' := by
  have hfd : ∀ W, (Instr.field 46 (.agg #[.int .i64 R.cls, .int .i64 R.op, .int .i64 R.size, .bool R.wide, .bool R.reg, .int .i64 R.dst, .int .i64 R.src, .int .i64 R.off, .int .i64 R.imm]) 0).run Tryd.prog W = .ok (.agg #[.int .i64 R.cls, .int .i64 R.op, .int .i64 R.size, .bool R.wide, .bool R.reg]) W := fun _ => by kernel_rfl
  have HZ := hid hz
  clear hz
  go_enter Tryd.func14, Tryd.ntmps14
  go_wp2_with fail
  refine (HO.out _ (((HZ.out.alloc _).alloc _).alloc _)).mono ?_
  rintro e w1 ⟨rfl, b1⟩
  have hz1 := hid ((((HZ.out.alloc _).alloc _).alloc _).below b1)
  have hb1 := hid (((((Below.refl w.heap.size w).alloc (Nat.le_refl _) (.cells #[.int .i64 cls, .int .i64 o, .int .i64 size, .bool wide, .bool reg] 31)).alloc (by simp) (.cells #[.int .u8 op, .int .u8 dst, .int .u8 src, .int .i16 off, .int .i32 imm] 24)).alloc (by simp; omega) (.cells #[.int .u8 0, .int .u8 0, .int .u8 0, .int .i16 0, .int .i32 0] 24)).trans (b1.mono (by simp; omega)))
  have q0 : w.heap.size + 2 < w1.heap.size := by have := b1.size; simp at this; omega
  have q1 : w.heap.size + 1 < w1.heap.size := by omega
  have q2 : w.heap.size < w1.heap.size := by omega
  obtain ⟨hc, hf⟩ := bcell b1
  clear b1 HO
  go_wp2
  have hX := hid (show Below w.heap.size w (w1.setCell ⟨w.heap.size + 1, 0, none⟩ (.int .u8 op')) from ((hb1.out.setCell (by simp) _)))
  have hs1 : (w1.setCell ⟨w.heap.size + 1, 0, none⟩ (.int .u8 op')).heap.size = w1.heap.size := by simp
  have hzX := hid (HZ.out.below hX.out.drew)
  go_region_with ((go_at_call 24; refine (HR.out _ hzX.out).mono ?_; rintro e w2 ⟨rfl, b2⟩; obtain ⟨hc2, hf2⟩ := bcell b2; have hb2 := hid (hX.out.drew.trans (b2.mono (by simp; omega))); have p0 : w.heap.size + 2 < w2.heap.size := (by have := b2.size; simp at this; omega); have p1 : w.heap.size + 1 < w2.heap.size := (by omega); have p2 : w.heap.size < w2.heap.size := (by omega); clear b2; simp only [rowV]))
  all_goals
    have k0 : w2.cell? ⟨w.heap.size + 1, 0, none⟩ = some (.int .u8 op') := by rw [hc2 _ _ (by simp; omega)]; simp [go_sem, hc, q0, q1]
    have k1 : w2.cell? ⟨w.heap.size + 1, 1, none⟩ = some (.int .u8 dst) := by rw [hc2 _ _ (by simp; omega)]; simp [go_sem, hc, q0, q1]
    have k2 : w2.cell? ⟨w.heap.size + 1, 2, none⟩ = some (.int .u8 src) := by rw [hc2 _ _ (by simp; omega)]; simp [go_sem, hc, q0, q1]
    have k3 : w2.cell? ⟨w.heap.size + 1, 3, none⟩ = some (.int .i16 off) := by rw [hc2 _ _ (by simp; omega)]; simp [go_sem, hc, q0, q1]
    have k4 : w2.cell? ⟨w.heap.size + 1, 4, none⟩ = some (.int .i32 imm) := by rw [hc2 _ _ (by simp; omega)]; simp [go_sem, hc, q0, q1]
    have y4 : ∀ o, o < 5 → w2.frozen? ⟨w.heap.size + 2, o, none⟩ = false := fun o ho => by rw [hf2 _ _ (by simp; omega)]; simp [go_sem, hf, q0]
    have y5 : ∀ o, o < 5 → ∃ v, w2.cell? ⟨w.heap.size + 2, o, none⟩ = some v := fun o ho => by
      rw [hc2 _ _ (by simp; omega)]
      have : o = 0 ∨ o = 1 ∨ o = 2 ∨ o = 3 ∨ o = 4 := by omega
      rcases this with rfl | rfl | rfl | rfl | rfl <;> simp [go_sem, hc, q0]
    have HY4 := hid y4
    have HY5 := hid y5
    have hz2 := hid (HZ.out.below hb2.out)
    clear y4 y5 hc hf hc2 hf2 hX hzX hb1 hz1
    go_wp2_with fail
    refine (HT.out _ hz2.out).mono ?_
    rintro e w3 ⟨rfl, b3⟩
    have r0 : w.heap.size + 2 < w3.heap.size := Nat.lt_of_lt_of_le p0 b3.size
    have r1 : w.heap.size + 1 < w3.heap.size := by omega
    have j0 : w3.cell? ⟨w.heap.size + 1, 0, none⟩ = some (.int .u8 op') := (b3.cell (p := ⟨w.heap.size + 1, 0, none⟩) p1).trans k0
    have j1 : w3.cell? ⟨w.heap.size + 1, 1, none⟩ = some (.int .u8 dst) := (b3.cell (p := ⟨w.heap.size + 1, 1, none⟩) p1).trans k1
    have j2 : w3.cell? ⟨w.heap.size + 1, 2, none⟩ = some (.int .u8 src) := (b3.cell (p := ⟨w.heap.size + 1, 2, none⟩) p1).trans k2
    have j3 : w3.cell? ⟨w.heap.size + 1, 3, none⟩ = some (.int .i16 off) := (b3.cell (p := ⟨w.heap.size + 1, 3, none⟩) p1).trans k3
    have j4 : w3.cell? ⟨w.heap.size + 1, 4, none⟩ = some (.int .i32 imm) := (b3.cell (p := ⟨w.heap.size + 1, 4, none⟩) p1).trans k4
    obtain ⟨x0, t0⟩ := HY5.out 0 (by decide)
    have u0 := (b3.cell (p := ⟨w.heap.size + 2, 0, none⟩) p0).trans t0
    have f0 : w3.frozen? ⟨w.heap.size + 2, 0, none⟩ = false := (b3.frozen (p := ⟨w.heap.size + 2, 0, none⟩) p0).trans (HY4.out 0 (by decide))
    obtain ⟨x1, t1⟩ := HY5.out 1 (by decide)
    have u1 := (b3.cell (p := ⟨w.heap.size + 2, 1, none⟩) p0).trans t1
    have f1 : w3.frozen? ⟨w.heap.size + 2, 1, none⟩ = false := (b3.frozen (p := ⟨w.heap.size + 2, 1, none⟩) p0).trans (HY4.out 1 (by decide))
    obtain ⟨x2, t2⟩ := HY5.out 2 (by decide)
    have u2 := (b3.cell (p := ⟨w.heap.size + 2, 2, none⟩) p0).trans t2
    have f2 : w3.frozen? ⟨w.heap.size + 2, 2, none⟩ = false := (b3.frozen (p := ⟨w.heap.size + 2, 2, none⟩) p0).trans (HY4.out 2 (by decide))
    obtain ⟨x3, t3⟩ := HY5.out 3 (by decide)
    have u3 := (b3.cell (p := ⟨w.heap.size + 2, 3, none⟩) p0).trans t3
    have f3 : w3.frozen? ⟨w.heap.size + 2, 3, none⟩ = false := (b3.frozen (p := ⟨w.heap.size + 2, 3, none⟩) p0).trans (HY4.out 3 (by decide))
    obtain ⟨x4, t4⟩ := HY5.out 4 (by decide)
    have u4 := (b3.cell (p := ⟨w.heap.size + 2, 4, none⟩) p0).trans t4
    have f4 : w3.frozen? ⟨w.heap.size + 2, 4, none⟩ = false := (b3.frozen (p := ⟨w.heap.size + 2, 4, none⟩) p0).trans (HY4.out 4 (by decide))
    have hb3 := hid (hb2.out.trans (b3.mono hb2.out.size))
    clear b3 k0 k1 k2 k3 k4 t0 t1 t2 t3 t4 HY4 HY5 hz2
    simp only [rowV]
    go_wp2
    exact bodyPost_ret (v := .tuple #[.agg #[.int .u8 op', .int .u8 dst, .int .u8 src, .int .i16 off, .int .i32 imm], .int .i64 0]) (by simp [results, Tryd.results14, go_sem, r0, r1, u0, u1, u2, u3, u4]; try rfl) rfl ⟨rfl, ((((((hb3.out.setCell (by simp; omega) _).setCell (by simp; omega) _).setCell (by simp; omega) _).setCell (by simp; omega) _).setCell (by simp; omega) _).alloc (by simp; omega) _)⟩

theorem below_dZ {B : Nat} {a w : World} (h : Below B a w) (n : Nat) : Below B a (w.drewN n) := ⟨h.os, h.tape, h.output, h.size, h.block⟩
theorem make_zero (op dst src off imm op' : Int) (w : World) (hz : SzOk w)
    (HO : Hid (∀ W, SzOk W → Calls Tryd.prog 23 #[.agg #[.int .i64 0, .int .i64 0, .int .i64 0, .bool false, .bool false]] W fun e w' => e = .returned (.int .u8 op') ∧ Below W.heap.size W w')) :
    Calls Tryd.prog 14 #[.agg #[.int .i64 0, .int .i64 0, .int .i64 0, .bool false, .bool false], .agg #[.int .u8 op, .int .u8 dst, .int .u8 src, .int .i16 off, .int .i32 imm]] w fun e w' => e = .returned (.tuple #[.agg #[.int .u8 0, .int .u8 0, .int .u8 0, .int .i16 0, .int .i32 0], .int .i64 1]) ∧ Below w.heap.size w w' := by
  have HZ := hid hz
  clear hz
  go_enter Tryd.func14, Tryd.ntmps14
  go_wp2_with fail
  refine (HO.out _ (((HZ.out.alloc _).alloc _).alloc _)).mono ?_
  rintro e w1 ⟨rfl, b1⟩
  have hb1 := hid (((((Below.refl w.heap.size w).alloc (Nat.le_refl _) (.cells #[.int .i64 0, .int .i64 0, .int .i64 0, .bool false, .bool false] 31)).alloc (by simp) (.cells #[.int .u8 op, .int .u8 dst, .int .u8 src, .int .i16 off, .int .i32 imm] 24)).alloc (by simp; omega) (.cells #[.int .u8 0, .int .u8 0, .int .u8 0, .int .i16 0, .int .i32 0] 24)).trans (b1.mono (by simp; omega)))
  have q0 : w.heap.size + 2 < w1.heap.size := by have := b1.size; simp at this; omega
  have q1 : w.heap.size + 1 < w1.heap.size := by omega
  have q2 : w.heap.size < w1.heap.size := by omega
  obtain ⟨hc, hf⟩ := bcell b1
  clear b1 HO
  go_wp2
  go_quiet (fail)
  go_wp2
  exact bodyPost_ret (v := .tuple #[.agg #[.int .u8 0, .int .u8 0, .int .u8 0, .int .i16 0, .int .i32 0], .int .i64 1]) (by simp [results, Tryd.results14, go_sem, hc, q0]; try rfl) rfl ⟨rfl, ((((((below_dZ (hb1.out.setCell (by simp) _) _).setCell (by simp; omega) _).setCell (by simp; omega) _).setCell (by simp; omega) _).setCell (by simp; omega) _).setCell (by simp; omega) _)⟩

end Go.Proofs.YtkapbeipjjcalaaDoor
