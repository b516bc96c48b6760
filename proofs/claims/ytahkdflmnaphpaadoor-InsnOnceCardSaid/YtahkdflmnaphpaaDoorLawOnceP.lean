/-
  Law InsnOnce: the ways of an instruction that there is.
-/
import Derived.Test.YtahkdflmnaphpaaDoorLawOnceN
namespace Go.Proofs.YtahkdflmnaphpaaDoor
set_option linter.unusedSimpArgs false
set_option linter.unusedVariables false
open Go.ChangeShapes Go.WideShapes Go.ChangeAt Go.RowKit Go.Joins Go.Deep

set_option maxRecDepth 100000 in
set_option maxHeartbeats 4000000 in
theorem once_p1 (q X Y : Rw) (E op dst src off imm op2 dst2 src2 off2 imm2 p0 p2 p4 : Int) (w : World) (hz : SzOk w)
    (HO : Hid (∀ W, SzOk W → Calls Tryd.prog 12 #[.agg #[.int .u8 op, .int .u8 dst, .int .u8 src, .int .i16 off, .int .i32 imm]] W fun e w' => e = .returned (.tuple #[.agg #[.int .i64 X.cls, .int .i64 X.op, .int .i64 X.size, .bool X.wide, .bool X.reg], .int .i64 0]) ∧ Below W.heap.size W w'))
    (HK : Hid (∀ W, SzOk W → Calls Tryd.prog 16 #[.agg #[.int .i64 X.cls, .int .i64 X.op, .int .i64 X.size, .bool X.wide, .bool X.reg], .agg #[.int .u8 op, .int .u8 dst, .int .u8 src, .int .i16 off, .int .i32 imm]] W fun e w' => e = .returned (.tuple #[.agg #[.int .u8 op, .int .u8 dst, .int .u8 src, .int .i16 off, .int .i32 imm], .int .i64 0]) ∧ Below W.heap.size W w'))
    (HKB : Hid (∀ W, SzOk W → Calls Tryd.prog 16 #[.agg #[.int .i64 X.cls, .int .i64 X.op, .int .i64 X.size, .bool X.wide, .bool X.reg], .agg #[.int .u8 0, .int .u8 dst, .int .u8 src, .int .i16 off, .int .i32 imm]] W fun e w' => e = .returned (.tuple #[.agg #[.int .u8 op, .int .u8 dst, .int .u8 src, .int .i16 off, .int .i32 imm], .int .i64 0]) ∧ Below W.heap.size W w'))
    (HJ : Hid (∀ W, SzOk W → Calls Tryd.prog 16 #[.agg #[.int .i64 q.cls, .int .i64 q.op, .int .i64 q.size, .bool q.wide, .bool q.reg], .agg #[.int .u8 op2, .int .u8 dst2, .int .u8 src2, .int .i16 off2, .int .i32 imm2]] W fun e w' => e = .returned (.tuple #[.agg #[.int .u8 0, .int .u8 0, .int .u8 0, .int .i16 0, .int .i32 0], .int .i64 1]) ∧ Below W.heap.size W w'))
    : Calls Tryd.prog 9 #[.agg #[.int .u8 op, .int .u8 dst, .int .u8 src, .int .i16 off, .int .i32 imm], .agg #[.int .i64 q.cls, .int .i64 q.op, .int .i64 q.size, .bool q.wide, .bool q.reg], .agg #[.int .u8 op2, .int .u8 dst2, .int .u8 src2, .int .i16 off2, .int .i32 imm2]] w fun e w' => e = .returned (.bool true) ∧ Below w.heap.size w w' := by
  have HZ := hid (((hz.alloc (.cells #[.int .u8 op, .int .u8 dst, .int .u8 src, .int .i16 off, .int .i32 imm] 24)).alloc (.cells #[.int .i64 q.cls, .int .i64 q.op, .int .i64 q.size, .bool q.wide, .bool q.reg] 26)).alloc (.cells #[.int .u8 op2, .int .u8 dst2, .int .u8 src2, .int .i16 off2, .int .i32 imm2] 24))
  have HB := hid (Below.refl (w.heap.size + 3) (((w.alloc (.cells #[.int .u8 op, .int .u8 dst, .int .u8 src, .int .i16 off, .int .i32 imm] 24)).alloc (.cells #[.int .i64 q.cls, .int .i64 q.op, .int .i64 q.size, .bool q.wide, .bool q.reg] 26)).alloc (.cells #[.int .u8 op2, .int .u8 dst2, .int .u8 src2, .int .i16 off2, .int .i32 imm2] 24)))
  have HB0 := hid ((((Below.refl w.heap.size w).alloc (Nat.le_refl _) (.cells #[.int .u8 op, .int .u8 dst, .int .u8 src, .int .i16 off, .int .i32 imm] 24)).alloc (by simp) (.cells #[.int .i64 q.cls, .int .i64 q.op, .int .i64 q.size, .bool q.wide, .bool q.reg] 26)).alloc (by simp; omega) (.cells #[.int .u8 op2, .int .u8 dst2, .int .u8 src2, .int .i16 off2, .int .i32 imm2] 24))
  clear hz
  go_enter Tryd.func9, Tryd.ntmps9
  go_wp2_with fail
  refine (HO.out _ HZ.out).mono ?_
  rintro e w1 ⟨rfl, b1⟩
  have HB' := hid (show Below (w.heap.size + 3) (((w.alloc (.cells #[.int .u8 op, .int .u8 dst, .int .u8 src, .int .i16 off, .int .i32 imm] 24)).alloc (.cells #[.int .i64 q.cls, .int .i64 q.op, .int .i64 q.size, .bool q.wide, .bool q.reg] 26)).alloc (.cells #[.int .u8 op2, .int .u8 dst2, .int .u8 src2, .int .i16 off2, .int .i32 imm2] 24)) w1 from Below.trans (by repeat (first | exact HB.out | refine Below.drew ?_ | refine below_dV ?_ _ | refine Below.alloc ?_ (by first | omega | (simp; done) | (simp; omega)) _ | refine Below.setCell ?_ (by first | omega | (simp; done) | (simp; omega)) _)) (b1.mono (by first | omega | (simp; done) | (simp; omega))))
  clear HB
  have HB := HB'
  clear HB'
  have nw1 : w.heap.size + 1 + 1 < w1.heap.size := by have := HB.out.size; simp at this; omega
  have nw1b : w.heap.size + 1 < w1.heap.size := by omega
  have nw1a : w.heap.size < w1.heap.size := by omega
  have ca0 : w1.cell? ⟨w.heap.size, 0, none⟩ = some (.int .u8 op) := (HB.out.cell (p := ⟨w.heap.size, 0, none⟩) (by simp; try omega)).trans (by simp [go_sem])
  have ca1 : w1.cell? ⟨w.heap.size, 1, none⟩ = some (.int .u8 dst) := (HB.out.cell (p := ⟨w.heap.size, 1, none⟩) (by simp; try omega)).trans (by simp [go_sem])
  have ca2 : w1.cell? ⟨w.heap.size, 2, none⟩ = some (.int .u8 src) := (HB.out.cell (p := ⟨w.heap.size, 2, none⟩) (by simp; try omega)).trans (by simp [go_sem])
  have ca3 : w1.cell? ⟨w.heap.size, 3, none⟩ = some (.int .i16 off) := (HB.out.cell (p := ⟨w.heap.size, 3, none⟩) (by simp; try omega)).trans (by simp [go_sem])
  have ca4 : w1.cell? ⟨w.heap.size, 4, none⟩ = some (.int .i32 imm) := (HB.out.cell (p := ⟨w.heap.size, 4, none⟩) (by simp; try omega)).trans (by simp [go_sem])
  have cb0 : w1.cell? ⟨w.heap.size + 1, 0, none⟩ = some (.int .i64 q.cls) := (HB.out.cell (p := ⟨w.heap.size + 1, 0, none⟩) (by simp; try omega)).trans (by simp [go_sem])
  have cb1 : w1.cell? ⟨w.heap.size + 1, 1, none⟩ = some (.int .i64 q.op) := (HB.out.cell (p := ⟨w.heap.size + 1, 1, none⟩) (by simp; try omega)).trans (by simp [go_sem])
  have cb2 : w1.cell? ⟨w.heap.size + 1, 2, none⟩ = some (.int .i64 q.size) := (HB.out.cell (p := ⟨w.heap.size + 1, 2, none⟩) (by simp; try omega)).trans (by simp [go_sem])
  have cb3 : w1.cell? ⟨w.heap.size + 1, 3, none⟩ = some (.bool q.wide) := (HB.out.cell (p := ⟨w.heap.size + 1, 3, none⟩) (by simp; try omega)).trans (by simp [go_sem])
  have cb4 : w1.cell? ⟨w.heap.size + 1, 4, none⟩ = some (.bool q.reg) := (HB.out.cell (p := ⟨w.heap.size + 1, 4, none⟩) (by simp; try omega)).trans (by simp [go_sem])
  have cc0 : w1.cell? ⟨w.heap.size + 1 + 1, 0, none⟩ = some (.int .u8 op2) := (HB.out.cell (p := ⟨w.heap.size + 1 + 1, 0, none⟩) (by simp; try omega)).trans (by simp [go_sem])
  have cc1 : w1.cell? ⟨w.heap.size + 1 + 1, 1, none⟩ = some (.int .u8 dst2) := (HB.out.cell (p := ⟨w.heap.size + 1 + 1, 1, none⟩) (by simp; try omega)).trans (by simp [go_sem])
  have cc2 : w1.cell? ⟨w.heap.size + 1 + 1, 2, none⟩ = some (.int .u8 src2) := (HB.out.cell (p := ⟨w.heap.size + 1 + 1, 2, none⟩) (by simp; try omega)).trans (by simp [go_sem])
  have cc3 : w1.cell? ⟨w.heap.size + 1 + 1, 3, none⟩ = some (.int .i16 off2) := (HB.out.cell (p := ⟨w.heap.size + 1 + 1, 3, none⟩) (by simp; try omega)).trans (by simp [go_sem])
  have cc4 : w1.cell? ⟨w.heap.size + 1 + 1, 4, none⟩ = some (.int .i32 imm2) := (HB.out.cell (p := ⟨w.heap.size + 1 + 1, 4, none⟩) (by simp; try omega)).trans (by simp [go_sem])
  clear b1 HO
  go_wp2_with fail
  refine (HK.out _ (sz_of (n := w.heap.size + 3) HZ.out (by repeat (first | exact HB.out | refine Below.drew ?_ | refine below_dV ?_ _ | refine Below.alloc ?_ (by first | omega | (simp; done) | (simp; omega)) _ | refine Below.setCell ?_ (by first | omega | (simp; done) | (simp; omega)) _)) (by simp))).mono ?_
  rintro e w2 ⟨rfl, b2⟩
  have x0 : w2.cell? ⟨w1.heap.size, 0, none⟩ = some (.int .i64 X.cls) := (b2.cell (p := ⟨w1.heap.size, 0, none⟩) (by simp)).trans (by simp)
  have x1 : w2.cell? ⟨w1.heap.size, 1, none⟩ = some (.int .i64 X.op) := (b2.cell (p := ⟨w1.heap.size, 1, none⟩) (by simp)).trans (by simp)
  have x2 : w2.cell? ⟨w1.heap.size, 2, none⟩ = some (.int .i64 X.size) := (b2.cell (p := ⟨w1.heap.size, 2, none⟩) (by simp)).trans (by simp)
  have x3 : w2.cell? ⟨w1.heap.size, 3, none⟩ = some (.bool X.wide) := (b2.cell (p := ⟨w1.heap.size, 3, none⟩) (by simp)).trans (by simp)
  have x4 : w2.cell? ⟨w1.heap.size, 4, none⟩ = some (.bool X.reg) := (b2.cell (p := ⟨w1.heap.size, 4, none⟩) (by simp)).trans (by simp)
  have l12 : w1.heap.size < w2.heap.size := by have := b2.size; simp at this; omega
  have HB' := hid (show Below (w.heap.size + 3) (((w.alloc (.cells #[.int .u8 op, .int .u8 dst, .int .u8 src, .int .i16 off, .int .i32 imm] 24)).alloc (.cells #[.int .i64 q.cls, .int .i64 q.op, .int .i64 q.size, .bool q.wide, .bool q.reg] 26)).alloc (.cells #[.int .u8 op2, .int .u8 dst2, .int .u8 src2, .int .i16 off2, .int .i32 imm2] 24)) w2 from Below.trans (by repeat (first | exact HB.out | refine Below.drew ?_ | refine below_dV ?_ _ | refine Below.alloc ?_ (by first | omega | (simp; done) | (simp; omega)) _ | refine Below.setCell ?_ (by first | omega | (simp; done) | (simp; omega)) _)) (b2.mono (by first | omega | (simp; done) | (simp; omega))))
  clear HB
  have HB := HB'
  clear HB'
  have nw2 : w.heap.size + 1 + 1 < w2.heap.size := by have := HB.out.size; simp at this; omega
  have nw2b : w.heap.size + 1 < w2.heap.size := by omega
  have nw2a : w.heap.size < w2.heap.size := by omega
  clear b2 HK ca0 ca1 ca2 ca3 ca4 cb0 cb1 cb2 cb3 cb4 cc0 cc1 cc2 cc3 cc4
  have ca0 : w2.cell? ⟨w.heap.size, 0, none⟩ = some (.int .u8 op) := (HB.out.cell (p := ⟨w.heap.size, 0, none⟩) (by simp; try omega)).trans (by simp [go_sem])
  have ca1 : w2.cell? ⟨w.heap.size, 1, none⟩ = some (.int .u8 dst) := (HB.out.cell (p := ⟨w.heap.size, 1, none⟩) (by simp; try omega)).trans (by simp [go_sem])
  have ca2 : w2.cell? ⟨w.heap.size, 2, none⟩ = some (.int .u8 src) := (HB.out.cell (p := ⟨w.heap.size, 2, none⟩) (by simp; try omega)).trans (by simp [go_sem])
  have ca3 : w2.cell? ⟨w.heap.size, 3, none⟩ = some (.int .i16 off) := (HB.out.cell (p := ⟨w.heap.size, 3, none⟩) (by simp; try omega)).trans (by simp [go_sem])
  have ca4 : w2.cell? ⟨w.heap.size, 4, none⟩ = some (.int .i32 imm) := (HB.out.cell (p := ⟨w.heap.size, 4, none⟩) (by simp; try omega)).trans (by simp [go_sem])
  have cb0 : w2.cell? ⟨w.heap.size + 1, 0, none⟩ = some (.int .i64 q.cls) := (HB.out.cell (p := ⟨w.heap.size + 1, 0, none⟩) (by simp; try omega)).trans (by simp [go_sem])
  have cb1 : w2.cell? ⟨w.heap.size + 1, 1, none⟩ = some (.int .i64 q.op) := (HB.out.cell (p := ⟨w.heap.size + 1, 1, none⟩) (by simp; try omega)).trans (by simp [go_sem])
  have cb2 : w2.cell? ⟨w.heap.size + 1, 2, none⟩ = some (.int .i64 q.size) := (HB.out.cell (p := ⟨w.heap.size + 1, 2, none⟩) (by simp; try omega)).trans (by simp [go_sem])
  have cb3 : w2.cell? ⟨w.heap.size + 1, 3, none⟩ = some (.bool q.wide) := (HB.out.cell (p := ⟨w.heap.size + 1, 3, none⟩) (by simp; try omega)).trans (by simp [go_sem])
  have cb4 : w2.cell? ⟨w.heap.size + 1, 4, none⟩ = some (.bool q.reg) := (HB.out.cell (p := ⟨w.heap.size + 1, 4, none⟩) (by simp; try omega)).trans (by simp [go_sem])
  have cc0 : w2.cell? ⟨w.heap.size + 1 + 1, 0, none⟩ = some (.int .u8 op2) := (HB.out.cell (p := ⟨w.heap.size + 1 + 1, 0, none⟩) (by simp; try omega)).trans (by simp [go_sem])
  have cc1 : w2.cell? ⟨w.heap.size + 1 + 1, 1, none⟩ = some (.int .u8 dst2) := (HB.out.cell (p := ⟨w.heap.size + 1 + 1, 1, none⟩) (by simp; try omega)).trans (by simp [go_sem])
  have cc2 : w2.cell? ⟨w.heap.size + 1 + 1, 2, none⟩ = some (.int .u8 src2) := (HB.out.cell (p := ⟨w.heap.size + 1 + 1, 2, none⟩) (by simp; try omega)).trans (by simp [go_sem])
  have cc3 : w2.cell? ⟨w.heap.size + 1 + 1, 3, none⟩ = some (.int .i16 off2) := (HB.out.cell (p := ⟨w.heap.size + 1 + 1, 3, none⟩) (by simp; try omega)).trans (by simp [go_sem])
  have cc4 : w2.cell? ⟨w.heap.size + 1 + 1, 4, none⟩ = some (.int .i32 imm2) := (HB.out.cell (p := ⟨w.heap.size + 1 + 1, 4, none⟩) (by simp; try omega)).trans (by simp [go_sem])
  go_wp2_with fail
  refine (HKB.out _ (sz_of (n := w.heap.size + 3) HZ.out (by repeat (first | exact HB.out | refine Below.drew ?_ | refine below_dV ?_ _ | refine Below.alloc ?_ (by first | omega | (simp; done) | (simp; omega)) _ | refine Below.setCell ?_ (by first | omega | (simp; done) | (simp; omega)) _)) (by simp))).mono ?_
  rintro e w3 ⟨rfl, b3⟩
  have k0 : w3.cell? ⟨w2.heap.size, 0, none⟩ = some (.int .u8 op) := (b3.cell (p := ⟨w2.heap.size, 0, none⟩) (by simp; try omega)).trans (by simp)
  have k1 : w3.cell? ⟨w2.heap.size, 1, none⟩ = some (.int .u8 dst) := (b3.cell (p := ⟨w2.heap.size, 1, none⟩) (by simp; try omega)).trans (by simp)
  have k2 : w3.cell? ⟨w2.heap.size, 2, none⟩ = some (.int .u8 src) := (b3.cell (p := ⟨w2.heap.size, 2, none⟩) (by simp; try omega)).trans (by simp)
  have k3 : w3.cell? ⟨w2.heap.size, 3, none⟩ = some (.int .i16 off) := (b3.cell (p := ⟨w2.heap.size, 3, none⟩) (by simp; try omega)).trans (by simp)
  have k4 : w3.cell? ⟨w2.heap.size, 4, none⟩ = some (.int .i32 imm) := (b3.cell (p := ⟨w2.heap.size, 4, none⟩) (by simp; try omega)).trans (by simp)
  have l23 : w2.heap.size < w3.heap.size := by have := b3.size; simp at this; omega
  have HB' := hid (show Below (w.heap.size + 3) (((w.alloc (.cells #[.int .u8 op, .int .u8 dst, .int .u8 src, .int .i16 off, .int .i32 imm] 24)).alloc (.cells #[.int .i64 q.cls, .int .i64 q.op, .int .i64 q.size, .bool q.wide, .bool q.reg] 26)).alloc (.cells #[.int .u8 op2, .int .u8 dst2, .int .u8 src2, .int .i16 off2, .int .i32 imm2] 24)) w3 from Below.trans (by repeat (first | exact HB.out | refine Below.drew ?_ | refine below_dV ?_ _ | refine Below.alloc ?_ (by first | omega | (simp; done) | (simp; omega)) _ | refine Below.setCell ?_ (by first | omega | (simp; done) | (simp; omega)) _)) (b3.mono (by first | omega | (simp; done) | (simp; omega))))
  clear HB
  have HB := HB'
  clear HB'
  have nw3 : w.heap.size + 1 + 1 < w3.heap.size := by have := HB.out.size; simp at this; omega
  have nw3b : w.heap.size + 1 < w3.heap.size := by omega
  have nw3a : w.heap.size < w3.heap.size := by omega
  clear b3 HKB ca0 ca1 ca2 ca3 ca4 cb0 cb1 cb2 cb3 cb4 cc0 cc1 cc2 cc3 cc4 x0 x1 x2 x3 x4
  have ca0 : w3.cell? ⟨w.heap.size, 0, none⟩ = some (.int .u8 op) := (HB.out.cell (p := ⟨w.heap.size, 0, none⟩) (by simp; try omega)).trans (by simp [go_sem])
  have ca1 : w3.cell? ⟨w.heap.size, 1, none⟩ = some (.int .u8 dst) := (HB.out.cell (p := ⟨w.heap.size, 1, none⟩) (by simp; try omega)).trans (by simp [go_sem])
  have ca2 : w3.cell? ⟨w.heap.size, 2, none⟩ = some (.int .u8 src) := (HB.out.cell (p := ⟨w.heap.size, 2, none⟩) (by simp; try omega)).trans (by simp [go_sem])
  have ca3 : w3.cell? ⟨w.heap.size, 3, none⟩ = some (.int .i16 off) := (HB.out.cell (p := ⟨w.heap.size, 3, none⟩) (by simp; try omega)).trans (by simp [go_sem])
  have ca4 : w3.cell? ⟨w.heap.size, 4, none⟩ = some (.int .i32 imm) := (HB.out.cell (p := ⟨w.heap.size, 4, none⟩) (by simp; try omega)).trans (by simp [go_sem])
  have cb0 : w3.cell? ⟨w.heap.size + 1, 0, none⟩ = some (.int .i64 q.cls) := (HB.out.cell (p := ⟨w.heap.size + 1, 0, none⟩) (by simp; try omega)).trans (by simp [go_sem])
  have cb1 : w3.cell? ⟨w.heap.size + 1, 1, none⟩ = some (.int .i64 q.op) := (HB.out.cell (p := ⟨w.heap.size + 1, 1, none⟩) (by simp; try omega)).trans (by simp [go_sem])
  have cb2 : w3.cell? ⟨w.heap.size + 1, 2, none⟩ = some (.int .i64 q.size) := (HB.out.cell (p := ⟨w.heap.size + 1, 2, none⟩) (by simp; try omega)).trans (by simp [go_sem])
  have cb3 : w3.cell? ⟨w.heap.size + 1, 3, none⟩ = some (.bool q.wide) := (HB.out.cell (p := ⟨w.heap.size + 1, 3, none⟩) (by simp; try omega)).trans (by simp [go_sem])
  have cb4 : w3.cell? ⟨w.heap.size + 1, 4, none⟩ = some (.bool q.reg) := (HB.out.cell (p := ⟨w.heap.size + 1, 4, none⟩) (by simp; try omega)).trans (by simp [go_sem])
  have cc0 : w3.cell? ⟨w.heap.size + 1 + 1, 0, none⟩ = some (.int .u8 op2) := (HB.out.cell (p := ⟨w.heap.size + 1 + 1, 0, none⟩) (by simp; try omega)).trans (by simp [go_sem])
  have cc1 : w3.cell? ⟨w.heap.size + 1 + 1, 1, none⟩ = some (.int .u8 dst2) := (HB.out.cell (p := ⟨w.heap.size + 1 + 1, 1, none⟩) (by simp; try omega)).trans (by simp [go_sem])
  have cc2 : w3.cell? ⟨w.heap.size + 1 + 1, 2, none⟩ = some (.int .u8 src2) := (HB.out.cell (p := ⟨w.heap.size + 1 + 1, 2, none⟩) (by simp; try omega)).trans (by simp [go_sem])
  have cc3 : w3.cell? ⟨w.heap.size + 1 + 1, 3, none⟩ = some (.int .i16 off2) := (HB.out.cell (p := ⟨w.heap.size + 1 + 1, 3, none⟩) (by simp; try omega)).trans (by simp [go_sem])
  have cc4 : w3.cell? ⟨w.heap.size + 1 + 1, 4, none⟩ = some (.int .i32 imm2) := (HB.out.cell (p := ⟨w.heap.size + 1 + 1, 4, none⟩) (by simp; try omega)).trans (by simp [go_sem])
  go_wp2_with fail
  refine (HJ.out _ (sz_of (n := w.heap.size + 3) HZ.out (by repeat (first | exact HB.out | refine Below.drew ?_ | refine below_dV ?_ _ | refine Below.alloc ?_ (by first | omega | (simp; done) | (simp; omega)) _ | refine Below.setCell ?_ (by first | omega | (simp; done) | (simp; omega)) _)) (by simp))).mono ?_
  rintro e w4 ⟨rfl, b4⟩
  have HB' := hid (show Below (w.heap.size + 3) (((w.alloc (.cells #[.int .u8 op, .int .u8 dst, .int .u8 src, .int .i16 off, .int .i32 imm] 24)).alloc (.cells #[.int .i64 q.cls, .int .i64 q.op, .int .i64 q.size, .bool q.wide, .bool q.reg] 26)).alloc (.cells #[.int .u8 op2, .int .u8 dst2, .int .u8 src2, .int .i16 off2, .int .i32 imm2] 24)) w4 from Below.trans (by repeat (first | exact HB.out | refine Below.drew ?_ | refine below_dV ?_ _ | refine Below.alloc ?_ (by first | omega | (simp; done) | (simp; omega)) _ | refine Below.setCell ?_ (by first | omega | (simp; done) | (simp; omega)) _)) (b4.mono (by first | omega | (simp; done) | (simp; omega))))
  clear HB
  have HB := HB'
  clear HB'
  have nw4 : w.heap.size + 1 + 1 < w4.heap.size := by have := HB.out.size; simp at this; omega
  have nw4b : w.heap.size + 1 < w4.heap.size := by omega
  have nw4a : w.heap.size < w4.heap.size := by omega
  clear b4 HJ ca0 ca1 ca2 ca3 ca4 cb0 cb1 cb2 cb3 cb4 cc0 cc1 cc2 cc3 cc4 k0 k1 k2 k3 k4
  have ca0 : w4.cell? ⟨w.heap.size, 0, none⟩ = some (.int .u8 op) := (HB.out.cell (p := ⟨w.heap.size, 0, none⟩) (by simp; try omega)).trans (by simp [go_sem])
  have ca1 : w4.cell? ⟨w.heap.size, 1, none⟩ = some (.int .u8 dst) := (HB.out.cell (p := ⟨w.heap.size, 1, none⟩) (by simp; try omega)).trans (by simp [go_sem])
  have ca2 : w4.cell? ⟨w.heap.size, 2, none⟩ = some (.int .u8 src) := (HB.out.cell (p := ⟨w.heap.size, 2, none⟩) (by simp; try omega)).trans (by simp [go_sem])
  have ca3 : w4.cell? ⟨w.heap.size, 3, none⟩ = some (.int .i16 off) := (HB.out.cell (p := ⟨w.heap.size, 3, none⟩) (by simp; try omega)).trans (by simp [go_sem])
  have ca4 : w4.cell? ⟨w.heap.size, 4, none⟩ = some (.int .i32 imm) := (HB.out.cell (p := ⟨w.heap.size, 4, none⟩) (by simp; try omega)).trans (by simp [go_sem])
  have cb0 : w4.cell? ⟨w.heap.size + 1, 0, none⟩ = some (.int .i64 q.cls) := (HB.out.cell (p := ⟨w.heap.size + 1, 0, none⟩) (by simp; try omega)).trans (by simp [go_sem])
  have cb1 : w4.cell? ⟨w.heap.size + 1, 1, none⟩ = some (.int .i64 q.op) := (HB.out.cell (p := ⟨w.heap.size + 1, 1, none⟩) (by simp; try omega)).trans (by simp [go_sem])
  have cb2 : w4.cell? ⟨w.heap.size + 1, 2, none⟩ = some (.int .i64 q.size) := (HB.out.cell (p := ⟨w.heap.size + 1, 2, none⟩) (by simp; try omega)).trans (by simp [go_sem])
  have cb3 : w4.cell? ⟨w.heap.size + 1, 3, none⟩ = some (.bool q.wide) := (HB.out.cell (p := ⟨w.heap.size + 1, 3, none⟩) (by simp; try omega)).trans (by simp [go_sem])
  have cb4 : w4.cell? ⟨w.heap.size + 1, 4, none⟩ = some (.bool q.reg) := (HB.out.cell (p := ⟨w.heap.size + 1, 4, none⟩) (by simp; try omega)).trans (by simp [go_sem])
  have cc0 : w4.cell? ⟨w.heap.size + 1 + 1, 0, none⟩ = some (.int .u8 op2) := (HB.out.cell (p := ⟨w.heap.size + 1 + 1, 0, none⟩) (by simp; try omega)).trans (by simp [go_sem])
  have cc1 : w4.cell? ⟨w.heap.size + 1 + 1, 1, none⟩ = some (.int .u8 dst2) := (HB.out.cell (p := ⟨w.heap.size + 1 + 1, 1, none⟩) (by simp; try omega)).trans (by simp [go_sem])
  have cc2 : w4.cell? ⟨w.heap.size + 1 + 1, 2, none⟩ = some (.int .u8 src2) := (HB.out.cell (p := ⟨w.heap.size + 1 + 1, 2, none⟩) (by simp; try omega)).trans (by simp [go_sem])
  have cc3 : w4.cell? ⟨w.heap.size + 1 + 1, 3, none⟩ = some (.int .i16 off2) := (HB.out.cell (p := ⟨w.heap.size + 1 + 1, 3, none⟩) (by simp; try omega)).trans (by simp [go_sem])
  have cc4 : w4.cell? ⟨w.heap.size + 1 + 1, 4, none⟩ = some (.int .i32 imm2) := (HB.out.cell (p := ⟨w.heap.size + 1 + 1, 4, none⟩) (by simp; try omega)).trans (by simp [go_sem])
  go_wp2_with fail
  refine (wakes_any _ (sz_of (n := w.heap.size + 3) HZ.out (by repeat (first | exact HB.out | refine Below.drew ?_ | refine below_dV ?_ _ | refine Below.alloc ?_ (by first | omega | (simp; done) | (simp; omega)) _ | refine Below.setCell ?_ (by first | omega | (simp; done) | (simp; omega)) _)) (by simp))).mono ?_
  rintro e w6 ⟨rfl, b6⟩
  have HF := hid (show Below (w.heap.size + 3) (((w.alloc (.cells #[.int .u8 op, .int .u8 dst, .int .u8 src, .int .i16 off, .int .i32 imm] 24)).alloc (.cells #[.int .i64 q.cls, .int .i64 q.op, .int .i64 q.size, .bool q.wide, .bool q.reg] 26)).alloc (.cells #[.int .u8 op2, .int .u8 dst2, .int .u8 src2, .int .i16 off2, .int .i32 imm2] 24)) w6 from Below.trans (by repeat (first | exact HB.out | refine Below.drew ?_ | refine below_dV ?_ _ | refine Below.alloc ?_ (by first | omega | (simp; done) | (simp; omega)) _ | refine Below.setCell ?_ (by first | omega | (simp; done) | (simp; omega)) _)) (b6.mono (by first | omega | (simp; done) | (simp; omega))))
  clear b6 HB
  go_wp2
  go_ret
  exact ⟨rfl, HB0.out.trans (HF.out.mono (by omega))⟩

set_option maxRecDepth 100000 in
set_option maxHeartbeats 4000000 in
theorem once_p21 (q X Y : Rw) (E op dst src off imm op2 dst2 src2 off2 imm2 p0 p2 p4 : Int) (w : World) (hz : SzOk w)
    (HO : Hid (∀ W, SzOk W → Calls Tryd.prog 12 #[.agg #[.int .u8 op, .int .u8 dst, .int .u8 src, .int .i16 off, .int .i32 imm]] W fun e w' => e = .returned (.tuple #[.agg #[.int .i64 X.cls, .int .i64 X.op, .int .i64 X.size, .bool X.wide, .bool X.reg], .int .i64 0]) ∧ Below W.heap.size W w'))
    (HK : Hid (∀ W, SzOk W → Calls Tryd.prog 16 #[.agg #[.int .i64 X.cls, .int .i64 X.op, .int .i64 X.size, .bool X.wide, .bool X.reg], .agg #[.int .u8 op, .int .u8 dst, .int .u8 src, .int .i16 off, .int .i32 imm]] W fun e w' => e = .returned (.tuple #[.agg #[.int .u8 op, .int .u8 dst, .int .u8 src, .int .i16 off, .int .i32 imm], .int .i64 0]) ∧ Below W.heap.size W w'))
    (HKB : Hid (∀ W, SzOk W → Calls Tryd.prog 16 #[.agg #[.int .i64 X.cls, .int .i64 X.op, .int .i64 X.size, .bool X.wide, .bool X.reg], .agg #[.int .u8 0, .int .u8 dst, .int .u8 src, .int .i16 off, .int .i32 imm]] W fun e w' => e = .returned (.tuple #[.agg #[.int .u8 op, .int .u8 dst, .int .u8 src, .int .i16 off, .int .i32 imm], .int .i64 0]) ∧ Below W.heap.size W w'))
    (HJ : Hid (∀ W, SzOk W → Calls Tryd.prog 16 #[.agg #[.int .i64 q.cls, .int .i64 q.op, .int .i64 q.size, .bool q.wide, .bool q.reg], .agg #[.int .u8 op2, .int .u8 dst2, .int .u8 src2, .int .i16 off2, .int .i32 imm2]] W fun e w' => e = .returned (.tuple #[.agg #[.int .u8 0, .int .u8 0, .int .u8 0, .int .i16 0, .int .i32 0], .int .i64 21]) ∧ Below W.heap.size W w'))
    : Calls Tryd.prog 9 #[.agg #[.int .u8 op, .int .u8 dst, .int .u8 src, .int .i16 off, .int .i32 imm], .agg #[.int .i64 q.cls, .int .i64 q.op, .int .i64 q.size, .bool q.wide, .bool q.reg], .agg #[.int .u8 op2, .int .u8 dst2, .int .u8 src2, .int .i16 off2, .int .i32 imm2]] w fun e w' => e = .returned (.bool true) ∧ Below w.heap.size w w' := by
  have HZ := hid (((hz.alloc (.cells #[.int .u8 op, .int .u8 dst, .int .u8 src, .int .i16 off, .int .i32 imm] 24)).alloc (.cells #[.int .i64 q.cls, .int .i64 q.op, .int .i64 q.size, .bool q.wide, .bool q.reg] 26)).alloc (.cells #[.int .u8 op2, .int .u8 dst2, .int .u8 src2, .int .i16 off2, .int .i32 imm2] 24))
  have HB := hid (Below.refl (w.heap.size + 3) (((w.alloc (.cells #[.int .u8 op, .int .u8 dst, .int .u8 src, .int .i16 off, .int .i32 imm] 24)).alloc (.cells #[.int .i64 q.cls, .int .i64 q.op, .int .i64 q.size, .bool q.wide, .bool q.reg] 26)).alloc (.cells #[.int .u8 op2, .int .u8 dst2, .int .u8 src2, .int .i16 off2, .int .i32 imm2] 24)))
  have HB0 := hid ((((Below.refl w.heap.size w).alloc (Nat.le_refl _) (.cells #[.int .u8 op, .int .u8 dst, .int .u8 src, .int .i16 off, .int .i32 imm] 24)).alloc (by simp) (.cells #[.int .i64 q.cls, .int .i64 q.op, .int .i64 q.size, .bool q.wide, .bool q.reg] 26)).alloc (by simp; omega) (.cells #[.int .u8 op2, .int .u8 dst2, .int .u8 src2, .int .i16 off2, .int .i32 imm2] 24))
  clear hz
  go_enter Tryd.func9, Tryd.ntmps9
  go_wp2_with fail
  refine (HO.out _ HZ.out).mono ?_
  rintro e w1 ⟨rfl, b1⟩
  have HB' := hid (show Below (w.heap.size + 3) (((w.alloc (.cells #[.int .u8 op, .int .u8 dst, .int .u8 src, .int .i16 off, .int .i32 imm] 24)).alloc (.cells #[.int .i64 q.cls, .int .i64 q.op, .int .i64 q.size, .bool q.wide, .bool q.reg] 26)).alloc (.cells #[.int .u8 op2, .int .u8 dst2, .int .u8 src2, .int .i16 off2, .int .i32 imm2] 24)) w1 from Below.trans (by repeat (first | exact HB.out | refine Below.drew ?_ | refine below_dV ?_ _ | refine Below.alloc ?_ (by first | omega | (simp; done) | (simp; omega)) _ | refine Below.setCell ?_ (by first | omega | (simp; done) | (simp; omega)) _)) (b1.mono (by first | omega | (simp; done) | (simp; omega))))
  clear HB
  have HB := HB'
  clear HB'
  have nw1 : w.heap.size + 1 + 1 < w1.heap.size := by have := HB.out.size; simp at this; omega
  have nw1b : w.heap.size + 1 < w1.heap.size := by omega
  have nw1a : w.heap.size < w1.heap.size := by omega
  have ca0 : w1.cell? ⟨w.heap.size, 0, none⟩ = some (.int .u8 op) := (HB.out.cell (p := ⟨w.heap.size, 0, none⟩) (by simp; try omega)).trans (by simp [go_sem])
  have ca1 : w1.cell? ⟨w.heap.size, 1, none⟩ = some (.int .u8 dst) := (HB.out.cell (p := ⟨w.heap.size, 1, none⟩) (by simp; try omega)).trans (by simp [go_sem])
  have ca2 : w1.cell? ⟨w.heap.size, 2, none⟩ = some (.int .u8 src) := (HB.out.cell (p := ⟨w.heap.size, 2, none⟩) (by simp; try omega)).trans (by simp [go_sem])
  have ca3 : w1.cell? ⟨w.heap.size, 3, none⟩ = some (.int .i16 off) := (HB.out.cell (p := ⟨w.heap.size, 3, none⟩) (by simp; try omega)).trans (by simp [go_sem])
  have ca4 : w1.cell? ⟨w.heap.size, 4, none⟩ = some (.int .i32 imm) := (HB.out.cell (p := ⟨w.heap.size, 4, none⟩) (by simp; try omega)).trans (by simp [go_sem])
  have cb0 : w1.cell? ⟨w.heap.size + 1, 0, none⟩ = some (.int .i64 q.cls) := (HB.out.cell (p := ⟨w.heap.size + 1, 0, none⟩) (by simp; try omega)).trans (by simp [go_sem])
  have cb1 : w1.cell? ⟨w.heap.size + 1, 1, none⟩ = some (.int .i64 q.op) := (HB.out.cell (p := ⟨w.heap.size + 1, 1, none⟩) (by simp; try omega)).trans (by simp [go_sem])
  have cb2 : w1.cell? ⟨w.heap.size + 1, 2, none⟩ = some (.int .i64 q.size) := (HB.out.cell (p := ⟨w.heap.size + 1, 2, none⟩) (by simp; try omega)).trans (by simp [go_sem])
  have cb3 : w1.cell? ⟨w.heap.size + 1, 3, none⟩ = some (.bool q.wide) := (HB.out.cell (p := ⟨w.heap.size + 1, 3, none⟩) (by simp; try omega)).trans (by simp [go_sem])
  have cb4 : w1.cell? ⟨w.heap.size + 1, 4, none⟩ = some (.bool q.reg) := (HB.out.cell (p := ⟨w.heap.size + 1, 4, none⟩) (by simp; try omega)).trans (by simp [go_sem])
  have cc0 : w1.cell? ⟨w.heap.size + 1 + 1, 0, none⟩ = some (.int .u8 op2) := (HB.out.cell (p := ⟨w.heap.size + 1 + 1, 0, none⟩) (by simp; try omega)).trans (by simp [go_sem])
  have cc1 : w1.cell? ⟨w.heap.size + 1 + 1, 1, none⟩ = some (.int .u8 dst2) := (HB.out.cell (p := ⟨w.heap.size + 1 + 1, 1, none⟩) (by simp; try omega)).trans (by simp [go_sem])
  have cc2 : w1.cell? ⟨w.heap.size + 1 + 1, 2, none⟩ = some (.int .u8 src2) := (HB.out.cell (p := ⟨w.heap.size + 1 + 1, 2, none⟩) (by simp; try omega)).trans (by simp [go_sem])
  have cc3 : w1.cell? ⟨w.heap.size + 1 + 1, 3, none⟩ = some (.int .i16 off2) := (HB.out.cell (p := ⟨w.heap.size + 1 + 1, 3, none⟩) (by simp; try omega)).trans (by simp [go_sem])
  have cc4 : w1.cell? ⟨w.heap.size + 1 + 1, 4, none⟩ = some (.int .i32 imm2) := (HB.out.cell (p := ⟨w.heap.size + 1 + 1, 4, none⟩) (by simp; try omega)).trans (by simp [go_sem])
  clear b1 HO
  go_wp2_with fail
  refine (HK.out _ (sz_of (n := w.heap.size + 3) HZ.out (by repeat (first | exact HB.out | refine Below.drew ?_ | refine below_dV ?_ _ | refine Below.alloc ?_ (by first | omega | (simp; done) | (simp; omega)) _ | refine Below.setCell ?_ (by first | omega | (simp; done) | (simp; omega)) _)) (by simp))).mono ?_
  rintro e w2 ⟨rfl, b2⟩
  have x0 : w2.cell? ⟨w1.heap.size, 0, none⟩ = some (.int .i64 X.cls) := (b2.cell (p := ⟨w1.heap.size, 0, none⟩) (by simp)).trans (by simp)
  have x1 : w2.cell? ⟨w1.heap.size, 1, none⟩ = some (.int .i64 X.op) := (b2.cell (p := ⟨w1.heap.size, 1, none⟩) (by simp)).trans (by simp)
  have x2 : w2.cell? ⟨w1.heap.size, 2, none⟩ = some (.int .i64 X.size) := (b2.cell (p := ⟨w1.heap.size, 2, none⟩) (by simp)).trans (by simp)
  have x3 : w2.cell? ⟨w1.heap.size, 3, none⟩ = some (.bool X.wide) := (b2.cell (p := ⟨w1.heap.size, 3, none⟩) (by simp)).trans (by simp)
  have x4 : w2.cell? ⟨w1.heap.size, 4, none⟩ = some (.bool X.reg) := (b2.cell (p := ⟨w1.heap.size, 4, none⟩) (by simp)).trans (by simp)
  have l12 : w1.heap.size < w2.heap.size := by have := b2.size; simp at this; omega
  have HB' := hid (show Below (w.heap.size + 3) (((w.alloc (.cells #[.int .u8 op, .int .u8 dst, .int .u8 src, .int .i16 off, .int .i32 imm] 24)).alloc (.cells #[.int .i64 q.cls, .int .i64 q.op, .int .i64 q.size, .bool q.wide, .bool q.reg] 26)).alloc (.cells #[.int .u8 op2, .int .u8 dst2, .int .u8 src2, .int .i16 off2, .int .i32 imm2] 24)) w2 from Below.trans (by repeat (first | exact HB.out | refine Below.drew ?_ | refine below_dV ?_ _ | refine Below.alloc ?_ (by first | omega | (simp; done) | (simp; omega)) _ | refine Below.setCell ?_ (by first | omega | (simp; done) | (simp; omega)) _)) (b2.mono (by first | omega | (simp; done) | (simp; omega))))
  clear HB
  have HB := HB'
  clear HB'
  have nw2 : w.heap.size + 1 + 1 < w2.heap.size := by have := HB.out.size; simp at this; omega
  have nw2b : w.heap.size + 1 < w2.heap.size := by omega
  have nw2a : w.heap.size < w2.heap.size := by omega
  clear b2 HK ca0 ca1 ca2 ca3 ca4 cb0 cb1 cb2 cb3 cb4 cc0 cc1 cc2 cc3 cc4
  have ca0 : w2.cell? ⟨w.heap.size, 0, none⟩ = some (.int .u8 op) := (HB.out.cell (p := ⟨w.heap.size, 0, none⟩) (by simp; try omega)).trans (by simp [go_sem])
  have ca1 : w2.cell? ⟨w.heap.size, 1, none⟩ = some (.int .u8 dst) := (HB.out.cell (p := ⟨w.heap.size, 1, none⟩) (by simp; try omega)).trans (by simp [go_sem])
  have ca2 : w2.cell? ⟨w.heap.size, 2, none⟩ = some (.int .u8 src) := (HB.out.cell (p := ⟨w.heap.size, 2, none⟩) (by simp; try omega)).trans (by simp [go_sem])
  have ca3 : w2.cell? ⟨w.heap.size, 3, none⟩ = some (.int .i16 off) := (HB.out.cell (p := ⟨w.heap.size, 3, none⟩) (by simp; try omega)).trans (by simp [go_sem])
  have ca4 : w2.cell? ⟨w.heap.size, 4, none⟩ = some (.int .i32 imm) := (HB.out.cell (p := ⟨w.heap.size, 4, none⟩) (by simp; try omega)).trans (by simp [go_sem])
  have cb0 : w2.cell? ⟨w.heap.size + 1, 0, none⟩ = some (.int .i64 q.cls) := (HB.out.cell (p := ⟨w.heap.size + 1, 0, none⟩) (by simp; try omega)).trans (by simp [go_sem])
  have cb1 : w2.cell? ⟨w.heap.size + 1, 1, none⟩ = some (.int .i64 q.op) := (HB.out.cell (p := ⟨w.heap.size + 1, 1, none⟩) (by simp; try omega)).trans (by simp [go_sem])
  have cb2 : w2.cell? ⟨w.heap.size + 1, 2, none⟩ = some (.int .i64 q.size) := (HB.out.cell (p := ⟨w.heap.size + 1, 2, none⟩) (by simp; try omega)).trans (by simp [go_sem])
  have cb3 : w2.cell? ⟨w.heap.size + 1, 3, none⟩ = some (.bool q.wide) := (HB.out.cell (p := ⟨w.heap.size + 1, 3, none⟩) (by simp; try omega)).trans (by simp [go_sem])
  have cb4 : w2.cell? ⟨w.heap.size + 1, 4, none⟩ = some (.bool q.reg) := (HB.out.cell (p := ⟨w.heap.size + 1, 4, none⟩) (by simp; try omega)).trans (by simp [go_sem])
  have cc0 : w2.cell? ⟨w.heap.size + 1 + 1, 0, none⟩ = some (.int .u8 op2) := (HB.out.cell (p := ⟨w.heap.size + 1 + 1, 0, none⟩) (by simp; try omega)).trans (by simp [go_sem])
  have cc1 : w2.cell? ⟨w.heap.size + 1 + 1, 1, none⟩ = some (.int .u8 dst2) := (HB.out.cell (p := ⟨w.heap.size + 1 + 1, 1, none⟩) (by simp; try omega)).trans (by simp [go_sem])
  have cc2 : w2.cell? ⟨w.heap.size + 1 + 1, 2, none⟩ = some (.int .u8 src2) := (HB.out.cell (p := ⟨w.heap.size + 1 + 1, 2, none⟩) (by simp; try omega)).trans (by simp [go_sem])
  have cc3 : w2.cell? ⟨w.heap.size + 1 + 1, 3, none⟩ = some (.int .i16 off2) := (HB.out.cell (p := ⟨w.heap.size + 1 + 1, 3, none⟩) (by simp; try omega)).trans (by simp [go_sem])
  have cc4 : w2.cell? ⟨w.heap.size + 1 + 1, 4, none⟩ = some (.int .i32 imm2) := (HB.out.cell (p := ⟨w.heap.size + 1 + 1, 4, none⟩) (by simp; try omega)).trans (by simp [go_sem])
  go_wp2_with fail
  refine (HKB.out _ (sz_of (n := w.heap.size + 3) HZ.out (by repeat (first | exact HB.out | refine Below.drew ?_ | refine below_dV ?_ _ | refine Below.alloc ?_ (by first | omega | (simp; done) | (simp; omega)) _ | refine Below.setCell ?_ (by first | omega | (simp; done) | (simp; omega)) _)) (by simp))).mono ?_
  rintro e w3 ⟨rfl, b3⟩
  have k0 : w3.cell? ⟨w2.heap.size, 0, none⟩ = some (.int .u8 op) := (b3.cell (p := ⟨w2.heap.size, 0, none⟩) (by simp; try omega)).trans (by simp)
  have k1 : w3.cell? ⟨w2.heap.size, 1, none⟩ = some (.int .u8 dst) := (b3.cell (p := ⟨w2.heap.size, 1, none⟩) (by simp; try omega)).trans (by simp)
  have k2 : w3.cell? ⟨w2.heap.size, 2, none⟩ = some (.int .u8 src) := (b3.cell (p := ⟨w2.heap.size, 2, none⟩) (by simp; try omega)).trans (by simp)
  have k3 : w3.cell? ⟨w2.heap.size, 3, none⟩ = some (.int .i16 off) := (b3.cell (p := ⟨w2.heap.size, 3, none⟩) (by simp; try omega)).trans (by simp)
  have k4 : w3.cell? ⟨w2.heap.size, 4, none⟩ = some (.int .i32 imm) := (b3.cell (p := ⟨w2.heap.size, 4, none⟩) (by simp; try omega)).trans (by simp)
  have l23 : w2.heap.size < w3.heap.size := by have := b3.size; simp at this; omega
  have HB' := hid (show Below (w.heap.size + 3) (((w.alloc (.cells #[.int .u8 op, .int .u8 dst, .int .u8 src, .int .i16 off, .int .i32 imm] 24)).alloc (.cells #[.int .i64 q.cls, .int .i64 q.op, .int .i64 q.size, .bool q.wide, .bool q.reg] 26)).alloc (.cells #[.int .u8 op2, .int .u8 dst2, .int .u8 src2, .int .i16 off2, .int .i32 imm2] 24)) w3 from Below.trans (by repeat (first | exact HB.out | refine Below.drew ?_ | refine below_dV ?_ _ | refine Below.alloc ?_ (by first | omega | (simp; done) | (simp; omega)) _ | refine Below.setCell ?_ (by first | omega | (simp; done) | (simp; omega)) _)) (b3.mono (by first | omega | (simp; done) | (simp; omega))))
  clear HB
  have HB := HB'
  clear HB'
  have nw3 : w.heap.size + 1 + 1 < w3.heap.size := by have := HB.out.size; simp at this; omega
  have nw3b : w.heap.size + 1 < w3.heap.size := by omega
  have nw3a : w.heap.size < w3.heap.size := by omega
  clear b3 HKB ca0 ca1 ca2 ca3 ca4 cb0 cb1 cb2 cb3 cb4 cc0 cc1 cc2 cc3 cc4 x0 x1 x2 x3 x4
  have ca0 : w3.cell? ⟨w.heap.size, 0, none⟩ = some (.int .u8 op) := (HB.out.cell (p := ⟨w.heap.size, 0, none⟩) (by simp; try omega)).trans (by simp [go_sem])
  have ca1 : w3.cell? ⟨w.heap.size, 1, none⟩ = some (.int .u8 dst) := (HB.out.cell (p := ⟨w.heap.size, 1, none⟩) (by simp; try omega)).trans (by simp [go_sem])
  have ca2 : w3.cell? ⟨w.heap.size, 2, none⟩ = some (.int .u8 src) := (HB.out.cell (p := ⟨w.heap.size, 2, none⟩) (by simp; try omega)).trans (by simp [go_sem])
  have ca3 : w3.cell? ⟨w.heap.size, 3, none⟩ = some (.int .i16 off) := (HB.out.cell (p := ⟨w.heap.size, 3, none⟩) (by simp; try omega)).trans (by simp [go_sem])
  have ca4 : w3.cell? ⟨w.heap.size, 4, none⟩ = some (.int .i32 imm) := (HB.out.cell (p := ⟨w.heap.size, 4, none⟩) (by simp; try omega)).trans (by simp [go_sem])
  have cb0 : w3.cell? ⟨w.heap.size + 1, 0, none⟩ = some (.int .i64 q.cls) := (HB.out.cell (p := ⟨w.heap.size + 1, 0, none⟩) (by simp; try omega)).trans (by simp [go_sem])
  have cb1 : w3.cell? ⟨w.heap.size + 1, 1, none⟩ = some (.int .i64 q.op) := (HB.out.cell (p := ⟨w.heap.size + 1, 1, none⟩) (by simp; try omega)).trans (by simp [go_sem])
  have cb2 : w3.cell? ⟨w.heap.size + 1, 2, none⟩ = some (.int .i64 q.size) := (HB.out.cell (p := ⟨w.heap.size + 1, 2, none⟩) (by simp; try omega)).trans (by simp [go_sem])
  have cb3 : w3.cell? ⟨w.heap.size + 1, 3, none⟩ = some (.bool q.wide) := (HB.out.cell (p := ⟨w.heap.size + 1, 3, none⟩) (by simp; try omega)).trans (by simp [go_sem])
  have cb4 : w3.cell? ⟨w.heap.size + 1, 4, none⟩ = some (.bool q.reg) := (HB.out.cell (p := ⟨w.heap.size + 1, 4, none⟩) (by simp; try omega)).trans (by simp [go_sem])
  have cc0 : w3.cell? ⟨w.heap.size + 1 + 1, 0, none⟩ = some (.int .u8 op2) := (HB.out.cell (p := ⟨w.heap.size + 1 + 1, 0, none⟩) (by simp; try omega)).trans (by simp [go_sem])
  have cc1 : w3.cell? ⟨w.heap.size + 1 + 1, 1, none⟩ = some (.int .u8 dst2) := (HB.out.cell (p := ⟨w.heap.size + 1 + 1, 1, none⟩) (by simp; try omega)).trans (by simp [go_sem])
  have cc2 : w3.cell? ⟨w.heap.size + 1 + 1, 2, none⟩ = some (.int .u8 src2) := (HB.out.cell (p := ⟨w.heap.size + 1 + 1, 2, none⟩) (by simp; try omega)).trans (by simp [go_sem])
  have cc3 : w3.cell? ⟨w.heap.size + 1 + 1, 3, none⟩ = some (.int .i16 off2) := (HB.out.cell (p := ⟨w.heap.size + 1 + 1, 3, none⟩) (by simp; try omega)).trans (by simp [go_sem])
  have cc4 : w3.cell? ⟨w.heap.size + 1 + 1, 4, none⟩ = some (.int .i32 imm2) := (HB.out.cell (p := ⟨w.heap.size + 1 + 1, 4, none⟩) (by simp; try omega)).trans (by simp [go_sem])
  go_wp2_with fail
  refine (HJ.out _ (sz_of (n := w.heap.size + 3) HZ.out (by repeat (first | exact HB.out | refine Below.drew ?_ | refine below_dV ?_ _ | refine Below.alloc ?_ (by first | omega | (simp; done) | (simp; omega)) _ | refine Below.setCell ?_ (by first | omega | (simp; done) | (simp; omega)) _)) (by simp))).mono ?_
  rintro e w4 ⟨rfl, b4⟩
  have HB' := hid (show Below (w.heap.size + 3) (((w.alloc (.cells #[.int .u8 op, .int .u8 dst, .int .u8 src, .int .i16 off, .int .i32 imm] 24)).alloc (.cells #[.int .i64 q.cls, .int .i64 q.op, .int .i64 q.size, .bool q.wide, .bool q.reg] 26)).alloc (.cells #[.int .u8 op2, .int .u8 dst2, .int .u8 src2, .int .i16 off2, .int .i32 imm2] 24)) w4 from Below.trans (by repeat (first | exact HB.out | refine Below.drew ?_ | refine below_dV ?_ _ | refine Below.alloc ?_ (by first | omega | (simp; done) | (simp; omega)) _ | refine Below.setCell ?_ (by first | omega | (simp; done) | (simp; omega)) _)) (b4.mono (by first | omega | (simp; done) | (simp; omega))))
  clear HB
  have HB := HB'
  clear HB'
  have nw4 : w.heap.size + 1 + 1 < w4.heap.size := by have := HB.out.size; simp at this; omega
  have nw4b : w.heap.size + 1 < w4.heap.size := by omega
  have nw4a : w.heap.size < w4.heap.size := by omega
  clear b4 HJ ca0 ca1 ca2 ca3 ca4 cb0 cb1 cb2 cb3 cb4 cc0 cc1 cc2 cc3 cc4 k0 k1 k2 k3 k4
  have ca0 : w4.cell? ⟨w.heap.size, 0, none⟩ = some (.int .u8 op) := (HB.out.cell (p := ⟨w.heap.size, 0, none⟩) (by simp; try omega)).trans (by simp [go_sem])
  have ca1 : w4.cell? ⟨w.heap.size, 1, none⟩ = some (.int .u8 dst) := (HB.out.cell (p := ⟨w.heap.size, 1, none⟩) (by simp; try omega)).trans (by simp [go_sem])
  have ca2 : w4.cell? ⟨w.heap.size, 2, none⟩ = some (.int .u8 src) := (HB.out.cell (p := ⟨w.heap.size, 2, none⟩) (by simp; try omega)).trans (by simp [go_sem])
  have ca3 : w4.cell? ⟨w.heap.size, 3, none⟩ = some (.int .i16 off) := (HB.out.cell (p := ⟨w.heap.size, 3, none⟩) (by simp; try omega)).trans (by simp [go_sem])
  have ca4 : w4.cell? ⟨w.heap.size, 4, none⟩ = some (.int .i32 imm) := (HB.out.cell (p := ⟨w.heap.size, 4, none⟩) (by simp; try omega)).trans (by simp [go_sem])
  have cb0 : w4.cell? ⟨w.heap.size + 1, 0, none⟩ = some (.int .i64 q.cls) := (HB.out.cell (p := ⟨w.heap.size + 1, 0, none⟩) (by simp; try omega)).trans (by simp [go_sem])
  have cb1 : w4.cell? ⟨w.heap.size + 1, 1, none⟩ = some (.int .i64 q.op) := (HB.out.cell (p := ⟨w.heap.size + 1, 1, none⟩) (by simp; try omega)).trans (by simp [go_sem])
  have cb2 : w4.cell? ⟨w.heap.size + 1, 2, none⟩ = some (.int .i64 q.size) := (HB.out.cell (p := ⟨w.heap.size + 1, 2, none⟩) (by simp; try omega)).trans (by simp [go_sem])
  have cb3 : w4.cell? ⟨w.heap.size + 1, 3, none⟩ = some (.bool q.wide) := (HB.out.cell (p := ⟨w.heap.size + 1, 3, none⟩) (by simp; try omega)).trans (by simp [go_sem])
  have cb4 : w4.cell? ⟨w.heap.size + 1, 4, none⟩ = some (.bool q.reg) := (HB.out.cell (p := ⟨w.heap.size + 1, 4, none⟩) (by simp; try omega)).trans (by simp [go_sem])
  have cc0 : w4.cell? ⟨w.heap.size + 1 + 1, 0, none⟩ = some (.int .u8 op2) := (HB.out.cell (p := ⟨w.heap.size + 1 + 1, 0, none⟩) (by simp; try omega)).trans (by simp [go_sem])
  have cc1 : w4.cell? ⟨w.heap.size + 1 + 1, 1, none⟩ = some (.int .u8 dst2) := (HB.out.cell (p := ⟨w.heap.size + 1 + 1, 1, none⟩) (by simp; try omega)).trans (by simp [go_sem])
  have cc2 : w4.cell? ⟨w.heap.size + 1 + 1, 2, none⟩ = some (.int .u8 src2) := (HB.out.cell (p := ⟨w.heap.size + 1 + 1, 2, none⟩) (by simp; try omega)).trans (by simp [go_sem])
  have cc3 : w4.cell? ⟨w.heap.size + 1 + 1, 3, none⟩ = some (.int .i16 off2) := (HB.out.cell (p := ⟨w.heap.size + 1 + 1, 3, none⟩) (by simp; try omega)).trans (by simp [go_sem])
  have cc4 : w4.cell? ⟨w.heap.size + 1 + 1, 4, none⟩ = some (.int .i32 imm2) := (HB.out.cell (p := ⟨w.heap.size + 1 + 1, 4, none⟩) (by simp; try omega)).trans (by simp [go_sem])
  go_wp2_with fail
  refine (wakes_any _ (sz_of (n := w.heap.size + 3) HZ.out (by repeat (first | exact HB.out | refine Below.drew ?_ | refine below_dV ?_ _ | refine Below.alloc ?_ (by first | omega | (simp; done) | (simp; omega)) _ | refine Below.setCell ?_ (by first | omega | (simp; done) | (simp; omega)) _)) (by simp))).mono ?_
  rintro e w6 ⟨rfl, b6⟩
  have HF := hid (show Below (w.heap.size + 3) (((w.alloc (.cells #[.int .u8 op, .int .u8 dst, .int .u8 src, .int .i16 off, .int .i32 imm] 24)).alloc (.cells #[.int .i64 q.cls, .int .i64 q.op, .int .i64 q.size, .bool q.wide, .bool q.reg] 26)).alloc (.cells #[.int .u8 op2, .int .u8 dst2, .int .u8 src2, .int .i16 off2, .int .i32 imm2] 24)) w6 from Below.trans (by repeat (first | exact HB.out | refine Below.drew ?_ | refine below_dV ?_ _ | refine Below.alloc ?_ (by first | omega | (simp; done) | (simp; omega)) _ | refine Below.setCell ?_ (by first | omega | (simp; done) | (simp; omega)) _)) (b6.mono (by first | omega | (simp; done) | (simp; omega))))
  clear b6 HB
  go_wp2
  go_ret
  exact ⟨rfl, HB0.out.trans (HF.out.mono (by omega))⟩

set_option maxRecDepth 100000 in
set_option maxHeartbeats 4000000 in
theorem once_p22 (q X Y : Rw) (E op dst src off imm op2 dst2 src2 off2 imm2 p0 p2 p4 : Int) (w : World) (hz : SzOk w)
    (HO : Hid (∀ W, SzOk W → Calls Tryd.prog 12 #[.agg #[.int .u8 op, .int .u8 dst, .int .u8 src, .int .i16 off, .int .i32 imm]] W fun e w' => e = .returned (.tuple #[.agg #[.int .i64 X.cls, .int .i64 X.op, .int .i64 X.size, .bool X.wide, .bool X.reg], .int .i64 0]) ∧ Below W.heap.size W w'))
    (HK : Hid (∀ W, SzOk W → Calls Tryd.prog 16 #[.agg #[.int .i64 X.cls, .int .i64 X.op, .int .i64 X.size, .bool X.wide, .bool X.reg], .agg #[.int .u8 op, .int .u8 dst, .int .u8 src, .int .i16 off, .int .i32 imm]] W fun e w' => e = .returned (.tuple #[.agg #[.int .u8 op, .int .u8 dst, .int .u8 src, .int .i16 off, .int .i32 imm], .int .i64 0]) ∧ Below W.heap.size W w'))
    (HKB : Hid (∀ W, SzOk W → Calls Tryd.prog 16 #[.agg #[.int .i64 X.cls, .int .i64 X.op, .int .i64 X.size, .bool X.wide, .bool X.reg], .agg #[.int .u8 0, .int .u8 dst, .int .u8 src, .int .i16 off, .int .i32 imm]] W fun e w' => e = .returned (.tuple #[.agg #[.int .u8 op, .int .u8 dst, .int .u8 src, .int .i16 off, .int .i32 imm], .int .i64 0]) ∧ Below W.heap.size W w'))
    (HJ : Hid (∀ W, SzOk W → Calls Tryd.prog 16 #[.agg #[.int .i64 q.cls, .int .i64 q.op, .int .i64 q.size, .bool q.wide, .bool q.reg], .agg #[.int .u8 op2, .int .u8 dst2, .int .u8 src2, .int .i16 off2, .int .i32 imm2]] W fun e w' => e = .returned (.tuple #[.agg #[.int .u8 0, .int .u8 0, .int .u8 0, .int .i16 0, .int .i32 0], .int .i64 22]) ∧ Below W.heap.size W w'))
    : Calls Tryd.prog 9 #[.agg #[.int .u8 op, .int .u8 dst, .int .u8 src, .int .i16 off, .int .i32 imm], .agg #[.int .i64 q.cls, .int .i64 q.op, .int .i64 q.size, .bool q.wide, .bool q.reg], .agg #[.int .u8 op2, .int .u8 dst2, .int .u8 src2, .int .i16 off2, .int .i32 imm2]] w fun e w' => e = .returned (.bool true) ∧ Below w.heap.size w w' := by
  have HZ := hid (((hz.alloc (.cells #[.int .u8 op, .int .u8 dst, .int .u8 src, .int .i16 off, .int .i32 imm] 24)).alloc (.cells #[.int .i64 q.cls, .int .i64 q.op, .int .i64 q.size, .bool q.wide, .bool q.reg] 26)).alloc (.cells #[.int .u8 op2, .int .u8 dst2, .int .u8 src2, .int .i16 off2, .int .i32 imm2] 24))
  have HB := hid (Below.refl (w.heap.size + 3) (((w.alloc (.cells #[.int .u8 op, .int .u8 dst, .int .u8 src, .int .i16 off, .int .i32 imm] 24)).alloc (.cells #[.int .i64 q.cls, .int .i64 q.op, .int .i64 q.size, .bool q.wide, .bool q.reg] 26)).alloc (.cells #[.int .u8 op2, .int .u8 dst2, .int .u8 src2, .int .i16 off2, .int .i32 imm2] 24)))
  have HB0 := hid ((((Below.refl w.heap.size w).alloc (Nat.le_refl _) (.cells #[.int .u8 op, .int .u8 dst, .int .u8 src, .int .i16 off, .int .i32 imm] 24)).alloc (by simp) (.cells #[.int .i64 q.cls, .int .i64 q.op, .int .i64 q.size, .bool q.wide, .bool q.reg] 26)).alloc (by simp; omega) (.cells #[.int .u8 op2, .int .u8 dst2, .int .u8 src2, .int .i16 off2, .int .i32 imm2] 24))
  clear hz
  go_enter Tryd.func9, Tryd.ntmps9
  go_wp2_with fail
  refine (HO.out _ HZ.out).mono ?_
  rintro e w1 ⟨rfl, b1⟩
  have HB' := hid (show Below (w.heap.size + 3) (((w.alloc (.cells #[.int .u8 op, .int .u8 dst, .int .u8 src, .int .i16 off, .int .i32 imm] 24)).alloc (.cells #[.int .i64 q.cls, .int .i64 q.op, .int .i64 q.size, .bool q.wide, .bool q.reg] 26)).alloc (.cells #[.int .u8 op2, .int .u8 dst2, .int .u8 src2, .int .i16 off2, .int .i32 imm2] 24)) w1 from Below.trans (by repeat (first | exact HB.out | refine Below.drew ?_ | refine below_dV ?_ _ | refine Below.alloc ?_ (by first | omega | (simp; done) | (simp; omega)) _ | refine Below.setCell ?_ (by first | omega | (simp; done) | (simp; omega)) _)) (b1.mono (by first | omega | (simp; done) | (simp; omega))))
  clear HB
  have HB := HB'
  clear HB'
  have nw1 : w.heap.size + 1 + 1 < w1.heap.size := by have := HB.out.size; simp at this; omega
  have nw1b : w.heap.size + 1 < w1.heap.size := by omega
  have nw1a : w.heap.size < w1.heap.size := by omega
  have ca0 : w1.cell? ⟨w.heap.size, 0, none⟩ = some (.int .u8 op) := (HB.out.cell (p := ⟨w.heap.size, 0, none⟩) (by simp; try omega)).trans (by simp [go_sem])
  have ca1 : w1.cell? ⟨w.heap.size, 1, none⟩ = some (.int .u8 dst) := (HB.out.cell (p := ⟨w.heap.size, 1, none⟩) (by simp; try omega)).trans (by simp [go_sem])
  have ca2 : w1.cell? ⟨w.heap.size, 2, none⟩ = some (.int .u8 src) := (HB.out.cell (p := ⟨w.heap.size, 2, none⟩) (by simp; try omega)).trans (by simp [go_sem])
  have ca3 : w1.cell? ⟨w.heap.size, 3, none⟩ = some (.int .i16 off) := (HB.out.cell (p := ⟨w.heap.size, 3, none⟩) (by simp; try omega)).trans (by simp [go_sem])
  have ca4 : w1.cell? ⟨w.heap.size, 4, none⟩ = some (.int .i32 imm) := (HB.out.cell (p := ⟨w.heap.size, 4, none⟩) (by simp; try omega)).trans (by simp [go_sem])
  have cb0 : w1.cell? ⟨w.heap.size + 1, 0, none⟩ = some (.int .i64 q.cls) := (HB.out.cell (p := ⟨w.heap.size + 1, 0, none⟩) (by simp; try omega)).trans (by simp [go_sem])
  have cb1 : w1.cell? ⟨w.heap.size + 1, 1, none⟩ = some (.int .i64 q.op) := (HB.out.cell (p := ⟨w.heap.size + 1, 1, none⟩) (by simp; try omega)).trans (by simp [go_sem])
  have cb2 : w1.cell? ⟨w.heap.size + 1, 2, none⟩ = some (.int .i64 q.size) := (HB.out.cell (p := ⟨w.heap.size + 1, 2, none⟩) (by simp; try omega)).trans (by simp [go_sem])
  have cb3 : w1.cell? ⟨w.heap.size + 1, 3, none⟩ = some (.bool q.wide) := (HB.out.cell (p := ⟨w.heap.size + 1, 3, none⟩) (by simp; try omega)).trans (by simp [go_sem])
  have cb4 : w1.cell? ⟨w.heap.size + 1, 4, none⟩ = some (.bool q.reg) := (HB.out.cell (p := ⟨w.heap.size + 1, 4, none⟩) (by simp; try omega)).trans (by simp [go_sem])
  have cc0 : w1.cell? ⟨w.heap.size + 1 + 1, 0, none⟩ = some (.int .u8 op2) := (HB.out.cell (p := ⟨w.heap.size + 1 + 1, 0, none⟩) (by simp; try omega)).trans (by simp [go_sem])
  have cc1 : w1.cell? ⟨w.heap.size + 1 + 1, 1, none⟩ = some (.int .u8 dst2) := (HB.out.cell (p := ⟨w.heap.size + 1 + 1, 1, none⟩) (by simp; try omega)).trans (by simp [go_sem])
  have cc2 : w1.cell? ⟨w.heap.size + 1 + 1, 2, none⟩ = some (.int .u8 src2) := (HB.out.cell (p := ⟨w.heap.size + 1 + 1, 2, none⟩) (by simp; try omega)).trans (by simp [go_sem])
  have cc3 : w1.cell? ⟨w.heap.size + 1 + 1, 3, none⟩ = some (.int .i16 off2) := (HB.out.cell (p := ⟨w.heap.size + 1 + 1, 3, none⟩) (by simp; try omega)).trans (by simp [go_sem])
  have cc4 : w1.cell? ⟨w.heap.size + 1 + 1, 4, none⟩ = some (.int .i32 imm2) := (HB.out.cell (p := ⟨w.heap.size + 1 + 1, 4, none⟩) (by simp; try omega)).trans (by simp [go_sem])
  clear b1 HO
  go_wp2_with fail
  refine (HK.out _ (sz_of (n := w.heap.size + 3) HZ.out (by repeat (first | exact HB.out | refine Below.drew ?_ | refine below_dV ?_ _ | refine Below.alloc ?_ (by first | omega | (simp; done) | (simp; omega)) _ | refine Below.setCell ?_ (by first | omega | (simp; done) | (simp; omega)) _)) (by simp))).mono ?_
  rintro e w2 ⟨rfl, b2⟩
  have x0 : w2.cell? ⟨w1.heap.size, 0, none⟩ = some (.int .i64 X.cls) := (b2.cell (p := ⟨w1.heap.size, 0, none⟩) (by simp)).trans (by simp)
  have x1 : w2.cell? ⟨w1.heap.size, 1, none⟩ = some (.int .i64 X.op) := (b2.cell (p := ⟨w1.heap.size, 1, none⟩) (by simp)).trans (by simp)
  have x2 : w2.cell? ⟨w1.heap.size, 2, none⟩ = some (.int .i64 X.size) := (b2.cell (p := ⟨w1.heap.size, 2, none⟩) (by simp)).trans (by simp)
  have x3 : w2.cell? ⟨w1.heap.size, 3, none⟩ = some (.bool X.wide) := (b2.cell (p := ⟨w1.heap.size, 3, none⟩) (by simp)).trans (by simp)
  have x4 : w2.cell? ⟨w1.heap.size, 4, none⟩ = some (.bool X.reg) := (b2.cell (p := ⟨w1.heap.size, 4, none⟩) (by simp)).trans (by simp)
  have l12 : w1.heap.size < w2.heap.size := by have := b2.size; simp at this; omega
  have HB' := hid (show Below (w.heap.size + 3) (((w.alloc (.cells #[.int .u8 op, .int .u8 dst, .int .u8 src, .int .i16 off, .int .i32 imm] 24)).alloc (.cells #[.int .i64 q.cls, .int .i64 q.op, .int .i64 q.size, .bool q.wide, .bool q.reg] 26)).alloc (.cells #[.int .u8 op2, .int .u8 dst2, .int .u8 src2, .int .i16 off2, .int .i32 imm2] 24)) w2 from Below.trans (by repeat (first | exact HB.out | refine Below.drew ?_ | refine below_dV ?_ _ | refine Below.alloc ?_ (by first | omega | (simp; done) | (simp; omega)) _ | refine Below.setCell ?_ (by first | omega | (simp; done) | (simp; omega)) _)) (b2.mono (by first | omega | (simp; done) | (simp; omega))))
  clear HB
  have HB := HB'
  clear HB'
  have nw2 : w.heap.size + 1 + 1 < w2.heap.size := by have := HB.out.size; simp at this; omega
  have nw2b : w.heap.size + 1 < w2.heap.size := by omega
  have nw2a : w.heap.size < w2.heap.size := by omega
  clear b2 HK ca0 ca1 ca2 ca3 ca4 cb0 cb1 cb2 cb3 cb4 cc0 cc1 cc2 cc3 cc4
  have ca0 : w2.cell? ⟨w.heap.size, 0, none⟩ = some (.int .u8 op) := (HB.out.cell (p := ⟨w.heap.size, 0, none⟩) (by simp; try omega)).trans (by simp [go_sem])
  have ca1 : w2.cell? ⟨w.heap.size, 1, none⟩ = some (.int .u8 dst) := (HB.out.cell (p := ⟨w.heap.size, 1, none⟩) (by simp; try omega)).trans (by simp [go_sem])
  have ca2 : w2.cell? ⟨w.heap.size, 2, none⟩ = some (.int .u8 src) := (HB.out.cell (p := ⟨w.heap.size, 2, none⟩) (by simp; try omega)).trans (by simp [go_sem])
  have ca3 : w2.cell? ⟨w.heap.size, 3, none⟩ = some (.int .i16 off) := (HB.out.cell (p := ⟨w.heap.size, 3, none⟩) (by simp; try omega)).trans (by simp [go_sem])
  have ca4 : w2.cell? ⟨w.heap.size, 4, none⟩ = some (.int .i32 imm) := (HB.out.cell (p := ⟨w.heap.size, 4, none⟩) (by simp; try omega)).trans (by simp [go_sem])
  have cb0 : w2.cell? ⟨w.heap.size + 1, 0, none⟩ = some (.int .i64 q.cls) := (HB.out.cell (p := ⟨w.heap.size + 1, 0, none⟩) (by simp; try omega)).trans (by simp [go_sem])
  have cb1 : w2.cell? ⟨w.heap.size + 1, 1, none⟩ = some (.int .i64 q.op) := (HB.out.cell (p := ⟨w.heap.size + 1, 1, none⟩) (by simp; try omega)).trans (by simp [go_sem])
  have cb2 : w2.cell? ⟨w.heap.size + 1, 2, none⟩ = some (.int .i64 q.size) := (HB.out.cell (p := ⟨w.heap.size + 1, 2, none⟩) (by simp; try omega)).trans (by simp [go_sem])
  have cb3 : w2.cell? ⟨w.heap.size + 1, 3, none⟩ = some (.bool q.wide) := (HB.out.cell (p := ⟨w.heap.size + 1, 3, none⟩) (by simp; try omega)).trans (by simp [go_sem])
  have cb4 : w2.cell? ⟨w.heap.size + 1, 4, none⟩ = some (.bool q.reg) := (HB.out.cell (p := ⟨w.heap.size + 1, 4, none⟩) (by simp; try omega)).trans (by simp [go_sem])
  have cc0 : w2.cell? ⟨w.heap.size + 1 + 1, 0, none⟩ = some (.int .u8 op2) := (HB.out.cell (p := ⟨w.heap.size + 1 + 1, 0, none⟩) (by simp; try omega)).trans (by simp [go_sem])
  have cc1 : w2.cell? ⟨w.heap.size + 1 + 1, 1, none⟩ = some (.int .u8 dst2) := (HB.out.cell (p := ⟨w.heap.size + 1 + 1, 1, none⟩) (by simp; try omega)).trans (by simp [go_sem])
  have cc2 : w2.cell? ⟨w.heap.size + 1 + 1, 2, none⟩ = some (.int .u8 src2) := (HB.out.cell (p := ⟨w.heap.size + 1 + 1, 2, none⟩) (by simp; try omega)).trans (by simp [go_sem])
  have cc3 : w2.cell? ⟨w.heap.size + 1 + 1, 3, none⟩ = some (.int .i16 off2) := (HB.out.cell (p := ⟨w.heap.size + 1 + 1, 3, none⟩) (by simp; try omega)).trans (by simp [go_sem])
  have cc4 : w2.cell? ⟨w.heap.size + 1 + 1, 4, none⟩ = some (.int .i32 imm2) := (HB.out.cell (p := ⟨w.heap.size + 1 + 1, 4, none⟩) (by simp; try omega)).trans (by simp [go_sem])
  go_wp2_with fail
  refine (HKB.out _ (sz_of (n := w.heap.size + 3) HZ.out (by repeat (first | exact HB.out | refine Below.drew ?_ | refine below_dV ?_ _ | refine Below.alloc ?_ (by first | omega | (simp; done) | (simp; omega)) _ | refine Below.setCell ?_ (by first | omega | (simp; done) | (simp; omega)) _)) (by simp))).mono ?_
  rintro e w3 ⟨rfl, b3⟩
  have k0 : w3.cell? ⟨w2.heap.size, 0, none⟩ = some (.int .u8 op) := (b3.cell (p := ⟨w2.heap.size, 0, none⟩) (by simp; try omega)).trans (by simp)
  have k1 : w3.cell? ⟨w2.heap.size, 1, none⟩ = some (.int .u8 dst) := (b3.cell (p := ⟨w2.heap.size, 1, none⟩) (by simp; try omega)).trans (by simp)
  have k2 : w3.cell? ⟨w2.heap.size, 2, none⟩ = some (.int .u8 src) := (b3.cell (p := ⟨w2.heap.size, 2, none⟩) (by simp; try omega)).trans (by simp)
  have k3 : w3.cell? ⟨w2.heap.size, 3, none⟩ = some (.int .i16 off) := (b3.cell (p := ⟨w2.heap.size, 3, none⟩) (by simp; try omega)).trans (by simp)
  have k4 : w3.cell? ⟨w2.heap.size, 4, none⟩ = some (.int .i32 imm) := (b3.cell (p := ⟨w2.heap.size, 4, none⟩) (by simp; try omega)).trans (by simp)
  have l23 : w2.heap.size < w3.heap.size := by have := b3.size; simp at this; omega
  have HB' := hid (show Below (w.heap.size + 3) (((w.alloc (.cells #[.int .u8 op, .int .u8 dst, .int .u8 src, .int .i16 off, .int .i32 imm] 24)).alloc (.cells #[.int .i64 q.cls, .int .i64 q.op, .int .i64 q.size, .bool q.wide, .bool q.reg] 26)).alloc (.cells #[.int .u8 op2, .int .u8 dst2, .int .u8 src2, .int .i16 off2, .int .i32 imm2] 24)) w3 from Below.trans (by repeat (first | exact HB.out | refine Below.drew ?_ | refine below_dV ?_ _ | refine Below.alloc ?_ (by first | omega | (simp; done) | (simp; omega)) _ | refine Below.setCell ?_ (by first | omega | (simp; done) | (simp; omega)) _)) (b3.mono (by first | omega | (simp; done) | (simp; omega))))
  clear HB
  have HB := HB'
  clear HB'
  have nw3 : w.heap.size + 1 + 1 < w3.heap.size := by have := HB.out.size; simp at this; omega
  have nw3b : w.heap.size + 1 < w3.heap.size := by omega
  have nw3a : w.heap.size < w3.heap.size := by omega
  clear b3 HKB ca0 ca1 ca2 ca3 ca4 cb0 cb1 cb2 cb3 cb4 cc0 cc1 cc2 cc3 cc4 x0 x1 x2 x3 x4
  have ca0 : w3.cell? ⟨w.heap.size, 0, none⟩ = some (.int .u8 op) := (HB.out.cell (p := ⟨w.heap.size, 0, none⟩) (by simp; try omega)).trans (by simp [go_sem])
  have ca1 : w3.cell? ⟨w.heap.size, 1, none⟩ = some (.int .u8 dst) := (HB.out.cell (p := ⟨w.heap.size, 1, none⟩) (by simp; try omega)).trans (by simp [go_sem])
  have ca2 : w3.cell? ⟨w.heap.size, 2, none⟩ = some (.int .u8 src) := (HB.out.cell (p := ⟨w.heap.size, 2, none⟩) (by simp; try omega)).trans (by simp [go_sem])
  have ca3 : w3.cell? ⟨w.heap.size, 3, none⟩ = some (.int .i16 off) := (HB.out.cell (p := ⟨w.heap.size, 3, none⟩) (by simp; try omega)).trans (by simp [go_sem])
  have ca4 : w3.cell? ⟨w.heap.size, 4, none⟩ = some (.int .i32 imm) := (HB.out.cell (p := ⟨w.heap.size, 4, none⟩) (by simp; try omega)).trans (by simp [go_sem])
  have cb0 : w3.cell? ⟨w.heap.size + 1, 0, none⟩ = some (.int .i64 q.cls) := (HB.out.cell (p := ⟨w.heap.size + 1, 0, none⟩) (by simp; try omega)).trans (by simp [go_sem])
  have cb1 : w3.cell? ⟨w.heap.size + 1, 1, none⟩ = some (.int .i64 q.op) := (HB.out.cell (p := ⟨w.heap.size + 1, 1, none⟩) (by simp; try omega)).trans (by simp [go_sem])
  have cb2 : w3.cell? ⟨w.heap.size + 1, 2, none⟩ = some (.int .i64 q.size) := (HB.out.cell (p := ⟨w.heap.size + 1, 2, none⟩) (by simp; try omega)).trans (by simp [go_sem])
  have cb3 : w3.cell? ⟨w.heap.size + 1, 3, none⟩ = some (.bool q.wide) := (HB.out.cell (p := ⟨w.heap.size + 1, 3, none⟩) (by simp; try omega)).trans (by simp [go_sem])
  have cb4 : w3.cell? ⟨w.heap.size + 1, 4, none⟩ = some (.bool q.reg) := (HB.out.cell (p := ⟨w.heap.size + 1, 4, none⟩) (by simp; try omega)).trans (by simp [go_sem])
  have cc0 : w3.cell? ⟨w.heap.size + 1 + 1, 0, none⟩ = some (.int .u8 op2) := (HB.out.cell (p := ⟨w.heap.size + 1 + 1, 0, none⟩) (by simp; try omega)).trans (by simp [go_sem])
  have cc1 : w3.cell? ⟨w.heap.size + 1 + 1, 1, none⟩ = some (.int .u8 dst2) := (HB.out.cell (p := ⟨w.heap.size + 1 + 1, 1, none⟩) (by simp; try omega)).trans (by simp [go_sem])
  have cc2 : w3.cell? ⟨w.heap.size + 1 + 1, 2, none⟩ = some (.int .u8 src2) := (HB.out.cell (p := ⟨w.heap.size + 1 + 1, 2, none⟩) (by simp; try omega)).trans (by simp [go_sem])
  have cc3 : w3.cell? ⟨w.heap.size + 1 + 1, 3, none⟩ = some (.int .i16 off2) := (HB.out.cell (p := ⟨w.heap.size + 1 + 1, 3, none⟩) (by simp; try omega)).trans (by simp [go_sem])
  have cc4 : w3.cell? ⟨w.heap.size + 1 + 1, 4, none⟩ = some (.int .i32 imm2) := (HB.out.cell (p := ⟨w.heap.size + 1 + 1, 4, none⟩) (by simp; try omega)).trans (by simp [go_sem])
  go_wp2_with fail
  refine (HJ.out _ (sz_of (n := w.heap.size + 3) HZ.out (by repeat (first | exact HB.out | refine Below.drew ?_ | refine below_dV ?_ _ | refine Below.alloc ?_ (by first | omega | (simp; done) | (simp; omega)) _ | refine Below.setCell ?_ (by first | omega | (simp; done) | (simp; omega)) _)) (by simp))).mono ?_
  rintro e w4 ⟨rfl, b4⟩
  have HB' := hid (show Below (w.heap.size + 3) (((w.alloc (.cells #[.int .u8 op, .int .u8 dst, .int .u8 src, .int .i16 off, .int .i32 imm] 24)).alloc (.cells #[.int .i64 q.cls, .int .i64 q.op, .int .i64 q.size, .bool q.wide, .bool q.reg] 26)).alloc (.cells #[.int .u8 op2, .int .u8 dst2, .int .u8 src2, .int .i16 off2, .int .i32 imm2] 24)) w4 from Below.trans (by repeat (first | exact HB.out | refine Below.drew ?_ | refine below_dV ?_ _ | refine Below.alloc ?_ (by first | omega | (simp; done) | (simp; omega)) _ | refine Below.setCell ?_ (by first | omega | (simp; done) | (simp; omega)) _)) (b4.mono (by first | omega | (simp; done) | (simp; omega))))
  clear HB
  have HB := HB'
  clear HB'
  have nw4 : w.heap.size + 1 + 1 < w4.heap.size := by have := HB.out.size; simp at this; omega
  have nw4b : w.heap.size + 1 < w4.heap.size := by omega
  have nw4a : w.heap.size < w4.heap.size := by omega
  clear b4 HJ ca0 ca1 ca2 ca3 ca4 cb0 cb1 cb2 cb3 cb4 cc0 cc1 cc2 cc3 cc4 k0 k1 k2 k3 k4
  have ca0 : w4.cell? ⟨w.heap.size, 0, none⟩ = some (.int .u8 op) := (HB.out.cell (p := ⟨w.heap.size, 0, none⟩) (by simp; try omega)).trans (by simp [go_sem])
  have ca1 : w4.cell? ⟨w.heap.size, 1, none⟩ = some (.int .u8 dst) := (HB.out.cell (p := ⟨w.heap.size, 1, none⟩) (by simp; try omega)).trans (by simp [go_sem])
  have ca2 : w4.cell? ⟨w.heap.size, 2, none⟩ = some (.int .u8 src) := (HB.out.cell (p := ⟨w.heap.size, 2, none⟩) (by simp; try omega)).trans (by simp [go_sem])
  have ca3 : w4.cell? ⟨w.heap.size, 3, none⟩ = some (.int .i16 off) := (HB.out.cell (p := ⟨w.heap.size, 3, none⟩) (by simp; try omega)).trans (by simp [go_sem])
  have ca4 : w4.cell? ⟨w.heap.size, 4, none⟩ = some (.int .i32 imm) := (HB.out.cell (p := ⟨w.heap.size, 4, none⟩) (by simp; try omega)).trans (by simp [go_sem])
  have cb0 : w4.cell? ⟨w.heap.size + 1, 0, none⟩ = some (.int .i64 q.cls) := (HB.out.cell (p := ⟨w.heap.size + 1, 0, none⟩) (by simp; try omega)).trans (by simp [go_sem])
  have cb1 : w4.cell? ⟨w.heap.size + 1, 1, none⟩ = some (.int .i64 q.op) := (HB.out.cell (p := ⟨w.heap.size + 1, 1, none⟩) (by simp; try omega)).trans (by simp [go_sem])
  have cb2 : w4.cell? ⟨w.heap.size + 1, 2, none⟩ = some (.int .i64 q.size) := (HB.out.cell (p := ⟨w.heap.size + 1, 2, none⟩) (by simp; try omega)).trans (by simp [go_sem])
  have cb3 : w4.cell? ⟨w.heap.size + 1, 3, none⟩ = some (.bool q.wide) := (HB.out.cell (p := ⟨w.heap.size + 1, 3, none⟩) (by simp; try omega)).trans (by simp [go_sem])
  have cb4 : w4.cell? ⟨w.heap.size + 1, 4, none⟩ = some (.bool q.reg) := (HB.out.cell (p := ⟨w.heap.size + 1, 4, none⟩) (by simp; try omega)).trans (by simp [go_sem])
  have cc0 : w4.cell? ⟨w.heap.size + 1 + 1, 0, none⟩ = some (.int .u8 op2) := (HB.out.cell (p := ⟨w.heap.size + 1 + 1, 0, none⟩) (by simp; try omega)).trans (by simp [go_sem])
  have cc1 : w4.cell? ⟨w.heap.size + 1 + 1, 1, none⟩ = some (.int .u8 dst2) := (HB.out.cell (p := ⟨w.heap.size + 1 + 1, 1, none⟩) (by simp; try omega)).trans (by simp [go_sem])
  have cc2 : w4.cell? ⟨w.heap.size + 1 + 1, 2, none⟩ = some (.int .u8 src2) := (HB.out.cell (p := ⟨w.heap.size + 1 + 1, 2, none⟩) (by simp; try omega)).trans (by simp [go_sem])
  have cc3 : w4.cell? ⟨w.heap.size + 1 + 1, 3, none⟩ = some (.int .i16 off2) := (HB.out.cell (p := ⟨w.heap.size + 1 + 1, 3, none⟩) (by simp; try omega)).trans (by simp [go_sem])
  have cc4 : w4.cell? ⟨w.heap.size + 1 + 1, 4, none⟩ = some (.int .i32 imm2) := (HB.out.cell (p := ⟨w.heap.size + 1 + 1, 4, none⟩) (by simp; try omega)).trans (by simp [go_sem])
  go_wp2_with fail
  refine (wakes_any _ (sz_of (n := w.heap.size + 3) HZ.out (by repeat (first | exact HB.out | refine Below.drew ?_ | refine below_dV ?_ _ | refine Below.alloc ?_ (by first | omega | (simp; done) | (simp; omega)) _ | refine Below.setCell ?_ (by first | omega | (simp; done) | (simp; omega)) _)) (by simp))).mono ?_
  rintro e w6 ⟨rfl, b6⟩
  have HF := hid (show Below (w.heap.size + 3) (((w.alloc (.cells #[.int .u8 op, .int .u8 dst, .int .u8 src, .int .i16 off, .int .i32 imm] 24)).alloc (.cells #[.int .i64 q.cls, .int .i64 q.op, .int .i64 q.size, .bool q.wide, .bool q.reg] 26)).alloc (.cells #[.int .u8 op2, .int .u8 dst2, .int .u8 src2, .int .i16 off2, .int .i32 imm2] 24)) w6 from Below.trans (by repeat (first | exact HB.out | refine Below.drew ?_ | refine below_dV ?_ _ | refine Below.alloc ?_ (by first | omega | (simp; done) | (simp; omega)) _ | refine Below.setCell ?_ (by first | omega | (simp; done) | (simp; omega)) _)) (b6.mono (by first | omega | (simp; done) | (simp; omega))))
  clear b6 HB
  go_wp2
  go_ret
  exact ⟨rfl, HB0.out.trans (HF.out.mono (by omega))⟩

set_option maxRecDepth 100000 in
set_option maxHeartbeats 4000000 in
theorem once_p0 (q X Y : Rw) (E op dst src off imm op2 dst2 src2 off2 imm2 p0 p2 p4 : Int) (w : World) (hz : SzOk w)
    (HO : Hid (∀ W, SzOk W → Calls Tryd.prog 12 #[.agg #[.int .u8 op, .int .u8 dst, .int .u8 src, .int .i16 off, .int .i32 imm]] W fun e w' => e = .returned (.tuple #[.agg #[.int .i64 X.cls, .int .i64 X.op, .int .i64 X.size, .bool X.wide, .bool X.reg], .int .i64 0]) ∧ Below W.heap.size W w'))
    (HK : Hid (∀ W, SzOk W → Calls Tryd.prog 16 #[.agg #[.int .i64 X.cls, .int .i64 X.op, .int .i64 X.size, .bool X.wide, .bool X.reg], .agg #[.int .u8 op, .int .u8 dst, .int .u8 src, .int .i16 off, .int .i32 imm]] W fun e w' => e = .returned (.tuple #[.agg #[.int .u8 op, .int .u8 dst, .int .u8 src, .int .i16 off, .int .i32 imm], .int .i64 0]) ∧ Below W.heap.size W w'))
    (HKB : Hid (∀ W, SzOk W → Calls Tryd.prog 16 #[.agg #[.int .i64 X.cls, .int .i64 X.op, .int .i64 X.size, .bool X.wide, .bool X.reg], .agg #[.int .u8 0, .int .u8 dst, .int .u8 src, .int .i16 off, .int .i32 imm]] W fun e w' => e = .returned (.tuple #[.agg #[.int .u8 op, .int .u8 dst, .int .u8 src, .int .i16 off, .int .i32 imm], .int .i64 0]) ∧ Below W.heap.size W w'))
    (HJ : Hid (∀ W, SzOk W → Calls Tryd.prog 16 #[.agg #[.int .i64 q.cls, .int .i64 q.op, .int .i64 q.size, .bool q.wide, .bool q.reg], .agg #[.int .u8 op2, .int .u8 dst2, .int .u8 src2, .int .i16 off2, .int .i32 imm2]] W fun e w' => e = .returned (.tuple #[.agg #[.int .u8 p0, .int .u8 dst2, .int .u8 p2, .int .i16 off2, .int .i32 p4], .int .i64 0]) ∧ Below W.heap.size W w'))
    (HO2 : Hid (∀ W, SzOk W → Calls Tryd.prog 12 #[.agg #[.int .u8 p0, .int .u8 dst2, .int .u8 p2, .int .i16 off2, .int .i32 p4]] W fun e w' => e = .returned (.tuple #[.agg #[.int .i64 Y.cls, .int .i64 Y.op, .int .i64 Y.size, .bool Y.wide, .bool Y.reg], .int .i64 0]) ∧ Below W.heap.size W w'))
    (hyq : ∀ W, (binOp .eql 26 (.agg #[.int .i64 Y.cls, .int .i64 Y.op, .int .i64 Y.size, .bool Y.wide, .bool Y.reg]) (.agg #[.int .i64 q.cls, .int .i64 q.op, .int .i64 q.size, .bool q.wide, .bool q.reg])).run Tryd.prog W = .ok (.bool true) W)
    : Calls Tryd.prog 9 #[.agg #[.int .u8 op, .int .u8 dst, .int .u8 src, .int .i16 off, .int .i32 imm], .agg #[.int .i64 q.cls, .int .i64 q.op, .int .i64 q.size, .bool q.wide, .bool q.reg], .agg #[.int .u8 op2, .int .u8 dst2, .int .u8 src2, .int .i16 off2, .int .i32 imm2]] w fun e w' => e = .returned (.bool true) ∧ Below w.heap.size w w' := by
  have HZ := hid (((hz.alloc (.cells #[.int .u8 op, .int .u8 dst, .int .u8 src, .int .i16 off, .int .i32 imm] 24)).alloc (.cells #[.int .i64 q.cls, .int .i64 q.op, .int .i64 q.size, .bool q.wide, .bool q.reg] 26)).alloc (.cells #[.int .u8 op2, .int .u8 dst2, .int .u8 src2, .int .i16 off2, .int .i32 imm2] 24))
  have HB := hid (Below.refl (w.heap.size + 3) (((w.alloc (.cells #[.int .u8 op, .int .u8 dst, .int .u8 src, .int .i16 off, .int .i32 imm] 24)).alloc (.cells #[.int .i64 q.cls, .int .i64 q.op, .int .i64 q.size, .bool q.wide, .bool q.reg] 26)).alloc (.cells #[.int .u8 op2, .int .u8 dst2, .int .u8 src2, .int .i16 off2, .int .i32 imm2] 24)))
  have HB0 := hid ((((Below.refl w.heap.size w).alloc (Nat.le_refl _) (.cells #[.int .u8 op, .int .u8 dst, .int .u8 src, .int .i16 off, .int .i32 imm] 24)).alloc (by simp) (.cells #[.int .i64 q.cls, .int .i64 q.op, .int .i64 q.size, .bool q.wide, .bool q.reg] 26)).alloc (by simp; omega) (.cells #[.int .u8 op2, .int .u8 dst2, .int .u8 src2, .int .i16 off2, .int .i32 imm2] 24))
  clear hz
  go_enter Tryd.func9, Tryd.ntmps9
  go_wp2_with fail
  refine (HO.out _ HZ.out).mono ?_
  rintro e w1 ⟨rfl, b1⟩
  have HB' := hid (show Below (w.heap.size + 3) (((w.alloc (.cells #[.int .u8 op, .int .u8 dst, .int .u8 src, .int .i16 off, .int .i32 imm] 24)).alloc (.cells #[.int .i64 q.cls, .int .i64 q.op, .int .i64 q.size, .bool q.wide, .bool q.reg] 26)).alloc (.cells #[.int .u8 op2, .int .u8 dst2, .int .u8 src2, .int .i16 off2, .int .i32 imm2] 24)) w1 from Below.trans (by repeat (first | exact HB.out | refine Below.drew ?_ | refine below_dV ?_ _ | refine Below.alloc ?_ (by first | omega | (simp; done) | (simp; omega)) _ | refine Below.setCell ?_ (by first | omega | (simp; done) | (simp; omega)) _)) (b1.mono (by first | omega | (simp; done) | (simp; omega))))
  clear HB
  have HB := HB'
  clear HB'
  have nw1 : w.heap.size + 1 + 1 < w1.heap.size := by have := HB.out.size; simp at this; omega
  have nw1b : w.heap.size + 1 < w1.heap.size := by omega
  have nw1a : w.heap.size < w1.heap.size := by omega
  have ca0 : w1.cell? ⟨w.heap.size, 0, none⟩ = some (.int .u8 op) := (HB.out.cell (p := ⟨w.heap.size, 0, none⟩) (by simp; try omega)).trans (by simp [go_sem])
  have ca1 : w1.cell? ⟨w.heap.size, 1, none⟩ = some (.int .u8 dst) := (HB.out.cell (p := ⟨w.heap.size, 1, none⟩) (by simp; try omega)).trans (by simp [go_sem])
  have ca2 : w1.cell? ⟨w.heap.size, 2, none⟩ = some (.int .u8 src) := (HB.out.cell (p := ⟨w.heap.size, 2, none⟩) (by simp; try omega)).trans (by simp [go_sem])
  have ca3 : w1.cell? ⟨w.heap.size, 3, none⟩ = some (.int .i16 off) := (HB.out.cell (p := ⟨w.heap.size, 3, none⟩) (by simp; try omega)).trans (by simp [go_sem])
  have ca4 : w1.cell? ⟨w.heap.size, 4, none⟩ = some (.int .i32 imm) := (HB.out.cell (p := ⟨w.heap.size, 4, none⟩) (by simp; try omega)).trans (by simp [go_sem])
  have cb0 : w1.cell? ⟨w.heap.size + 1, 0, none⟩ = some (.int .i64 q.cls) := (HB.out.cell (p := ⟨w.heap.size + 1, 0, none⟩) (by simp; try omega)).trans (by simp [go_sem])
  have cb1 : w1.cell? ⟨w.heap.size + 1, 1, none⟩ = some (.int .i64 q.op) := (HB.out.cell (p := ⟨w.heap.size + 1, 1, none⟩) (by simp; try omega)).trans (by simp [go_sem])
  have cb2 : w1.cell? ⟨w.heap.size + 1, 2, none⟩ = some (.int .i64 q.size) := (HB.out.cell (p := ⟨w.heap.size + 1, 2, none⟩) (by simp; try omega)).trans (by simp [go_sem])
  have cb3 : w1.cell? ⟨w.heap.size + 1, 3, none⟩ = some (.bool q.wide) := (HB.out.cell (p := ⟨w.heap.size + 1, 3, none⟩) (by simp; try omega)).trans (by simp [go_sem])
  have cb4 : w1.cell? ⟨w.heap.size + 1, 4, none⟩ = some (.bool q.reg) := (HB.out.cell (p := ⟨w.heap.size + 1, 4, none⟩) (by simp; try omega)).trans (by simp [go_sem])
  have cc0 : w1.cell? ⟨w.heap.size + 1 + 1, 0, none⟩ = some (.int .u8 op2) := (HB.out.cell (p := ⟨w.heap.size + 1 + 1, 0, none⟩) (by simp; try omega)).trans (by simp [go_sem])
  have cc1 : w1.cell? ⟨w.heap.size + 1 + 1, 1, none⟩ = some (.int .u8 dst2) := (HB.out.cell (p := ⟨w.heap.size + 1 + 1, 1, none⟩) (by simp; try omega)).trans (by simp [go_sem])
  have cc2 : w1.cell? ⟨w.heap.size + 1 + 1, 2, none⟩ = some (.int .u8 src2) := (HB.out.cell (p := ⟨w.heap.size + 1 + 1, 2, none⟩) (by simp; try omega)).trans (by simp [go_sem])
  have cc3 : w1.cell? ⟨w.heap.size + 1 + 1, 3, none⟩ = some (.int .i16 off2) := (HB.out.cell (p := ⟨w.heap.size + 1 + 1, 3, none⟩) (by simp; try omega)).trans (by simp [go_sem])
  have cc4 : w1.cell? ⟨w.heap.size + 1 + 1, 4, none⟩ = some (.int .i32 imm2) := (HB.out.cell (p := ⟨w.heap.size + 1 + 1, 4, none⟩) (by simp; try omega)).trans (by simp [go_sem])
  clear b1 HO
  go_wp2_with fail
  refine (HK.out _ (sz_of (n := w.heap.size + 3) HZ.out (by repeat (first | exact HB.out | refine Below.drew ?_ | refine below_dV ?_ _ | refine Below.alloc ?_ (by first | omega | (simp; done) | (simp; omega)) _ | refine Below.setCell ?_ (by first | omega | (simp; done) | (simp; omega)) _)) (by simp))).mono ?_
  rintro e w2 ⟨rfl, b2⟩
  have x0 : w2.cell? ⟨w1.heap.size, 0, none⟩ = some (.int .i64 X.cls) := (b2.cell (p := ⟨w1.heap.size, 0, none⟩) (by simp)).trans (by simp)
  have x1 : w2.cell? ⟨w1.heap.size, 1, none⟩ = some (.int .i64 X.op) := (b2.cell (p := ⟨w1.heap.size, 1, none⟩) (by simp)).trans (by simp)
  have x2 : w2.cell? ⟨w1.heap.size, 2, none⟩ = some (.int .i64 X.size) := (b2.cell (p := ⟨w1.heap.size, 2, none⟩) (by simp)).trans (by simp)
  have x3 : w2.cell? ⟨w1.heap.size, 3, none⟩ = some (.bool X.wide) := (b2.cell (p := ⟨w1.heap.size, 3, none⟩) (by simp)).trans (by simp)
  have x4 : w2.cell? ⟨w1.heap.size, 4, none⟩ = some (.bool X.reg) := (b2.cell (p := ⟨w1.heap.size, 4, none⟩) (by simp)).trans (by simp)
  have l12 : w1.heap.size < w2.heap.size := by have := b2.size; simp at this; omega
  have HB' := hid (show Below (w.heap.size + 3) (((w.alloc (.cells #[.int .u8 op, .int .u8 dst, .int .u8 src, .int .i16 off, .int .i32 imm] 24)).alloc (.cells #[.int .i64 q.cls, .int .i64 q.op, .int .i64 q.size, .bool q.wide, .bool q.reg] 26)).alloc (.cells #[.int .u8 op2, .int .u8 dst2, .int .u8 src2, .int .i16 off2, .int .i32 imm2] 24)) w2 from Below.trans (by repeat (first | exact HB.out | refine Below.drew ?_ | refine below_dV ?_ _ | refine Below.alloc ?_ (by first | omega | (simp; done) | (simp; omega)) _ | refine Below.setCell ?_ (by first | omega | (simp; done) | (simp; omega)) _)) (b2.mono (by first | omega | (simp; done) | (simp; omega))))
  clear HB
  have HB := HB'
  clear HB'
  have nw2 : w.heap.size + 1 + 1 < w2.heap.size := by have := HB.out.size; simp at this; omega
  have nw2b : w.heap.size + 1 < w2.heap.size := by omega
  have nw2a : w.heap.size < w2.heap.size := by omega
  clear b2 HK ca0 ca1 ca2 ca3 ca4 cb0 cb1 cb2 cb3 cb4 cc0 cc1 cc2 cc3 cc4
  have ca0 : w2.cell? ⟨w.heap.size, 0, none⟩ = some (.int .u8 op) := (HB.out.cell (p := ⟨w.heap.size, 0, none⟩) (by simp; try omega)).trans (by simp [go_sem])
  have ca1 : w2.cell? ⟨w.heap.size, 1, none⟩ = some (.int .u8 dst) := (HB.out.cell (p := ⟨w.heap.size, 1, none⟩) (by simp; try omega)).trans (by simp [go_sem])
  have ca2 : w2.cell? ⟨w.heap.size, 2, none⟩ = some (.int .u8 src) := (HB.out.cell (p := ⟨w.heap.size, 2, none⟩) (by simp; try omega)).trans (by simp [go_sem])
  have ca3 : w2.cell? ⟨w.heap.size, 3, none⟩ = some (.int .i16 off) := (HB.out.cell (p := ⟨w.heap.size, 3, none⟩) (by simp; try omega)).trans (by simp [go_sem])
  have ca4 : w2.cell? ⟨w.heap.size, 4, none⟩ = some (.int .i32 imm) := (HB.out.cell (p := ⟨w.heap.size, 4, none⟩) (by simp; try omega)).trans (by simp [go_sem])
  have cb0 : w2.cell? ⟨w.heap.size + 1, 0, none⟩ = some (.int .i64 q.cls) := (HB.out.cell (p := ⟨w.heap.size + 1, 0, none⟩) (by simp; try omega)).trans (by simp [go_sem])
  have cb1 : w2.cell? ⟨w.heap.size + 1, 1, none⟩ = some (.int .i64 q.op) := (HB.out.cell (p := ⟨w.heap.size + 1, 1, none⟩) (by simp; try omega)).trans (by simp [go_sem])
  have cb2 : w2.cell? ⟨w.heap.size + 1, 2, none⟩ = some (.int .i64 q.size) := (HB.out.cell (p := ⟨w.heap.size + 1, 2, none⟩) (by simp; try omega)).trans (by simp [go_sem])
  have cb3 : w2.cell? ⟨w.heap.size + 1, 3, none⟩ = some (.bool q.wide) := (HB.out.cell (p := ⟨w.heap.size + 1, 3, none⟩) (by simp; try omega)).trans (by simp [go_sem])
  have cb4 : w2.cell? ⟨w.heap.size + 1, 4, none⟩ = some (.bool q.reg) := (HB.out.cell (p := ⟨w.heap.size + 1, 4, none⟩) (by simp; try omega)).trans (by simp [go_sem])
  have cc0 : w2.cell? ⟨w.heap.size + 1 + 1, 0, none⟩ = some (.int .u8 op2) := (HB.out.cell (p := ⟨w.heap.size + 1 + 1, 0, none⟩) (by simp; try omega)).trans (by simp [go_sem])
  have cc1 : w2.cell? ⟨w.heap.size + 1 + 1, 1, none⟩ = some (.int .u8 dst2) := (HB.out.cell (p := ⟨w.heap.size + 1 + 1, 1, none⟩) (by simp; try omega)).trans (by simp [go_sem])
  have cc2 : w2.cell? ⟨w.heap.size + 1 + 1, 2, none⟩ = some (.int .u8 src2) := (HB.out.cell (p := ⟨w.heap.size + 1 + 1, 2, none⟩) (by simp; try omega)).trans (by simp [go_sem])
  have cc3 : w2.cell? ⟨w.heap.size + 1 + 1, 3, none⟩ = some (.int .i16 off2) := (HB.out.cell (p := ⟨w.heap.size + 1 + 1, 3, none⟩) (by simp; try omega)).trans (by simp [go_sem])
  have cc4 : w2.cell? ⟨w.heap.size + 1 + 1, 4, none⟩ = some (.int .i32 imm2) := (HB.out.cell (p := ⟨w.heap.size + 1 + 1, 4, none⟩) (by simp; try omega)).trans (by simp [go_sem])
  go_wp2_with fail
  refine (HKB.out _ (sz_of (n := w.heap.size + 3) HZ.out (by repeat (first | exact HB.out | refine Below.drew ?_ | refine below_dV ?_ _ | refine Below.alloc ?_ (by first | omega | (simp; done) | (simp; omega)) _ | refine Below.setCell ?_ (by first | omega | (simp; done) | (simp; omega)) _)) (by simp))).mono ?_
  rintro e w3 ⟨rfl, b3⟩
  have k0 : w3.cell? ⟨w2.heap.size, 0, none⟩ = some (.int .u8 op) := (b3.cell (p := ⟨w2.heap.size, 0, none⟩) (by simp; try omega)).trans (by simp)
  have k1 : w3.cell? ⟨w2.heap.size, 1, none⟩ = some (.int .u8 dst) := (b3.cell (p := ⟨w2.heap.size, 1, none⟩) (by simp; try omega)).trans (by simp)
  have k2 : w3.cell? ⟨w2.heap.size, 2, none⟩ = some (.int .u8 src) := (b3.cell (p := ⟨w2.heap.size, 2, none⟩) (by simp; try omega)).trans (by simp)
  have k3 : w3.cell? ⟨w2.heap.size, 3, none⟩ = some (.int .i16 off) := (b3.cell (p := ⟨w2.heap.size, 3, none⟩) (by simp; try omega)).trans (by simp)
  have k4 : w3.cell? ⟨w2.heap.size, 4, none⟩ = some (.int .i32 imm) := (b3.cell (p := ⟨w2.heap.size, 4, none⟩) (by simp; try omega)).trans (by simp)
  have l23 : w2.heap.size < w3.heap.size := by have := b3.size; simp at this; omega
  have HB' := hid (show Below (w.heap.size + 3) (((w.alloc (.cells #[.int .u8 op, .int .u8 dst, .int .u8 src, .int .i16 off, .int .i32 imm] 24)).alloc (.cells #[.int .i64 q.cls, .int .i64 q.op, .int .i64 q.size, .bool q.wide, .bool q.reg] 26)).alloc (.cells #[.int .u8 op2, .int .u8 dst2, .int .u8 src2, .int .i16 off2, .int .i32 imm2] 24)) w3 from Below.trans (by repeat (first | exact HB.out | refine Below.drew ?_ | refine below_dV ?_ _ | refine Below.alloc ?_ (by first | omega | (simp; done) | (simp; omega)) _ | refine Below.setCell ?_ (by first | omega | (simp; done) | (simp; omega)) _)) (b3.mono (by first | omega | (simp; done) | (simp; omega))))
  clear HB
  have HB := HB'
  clear HB'
  have nw3 : w.heap.size + 1 + 1 < w3.heap.size := by have := HB.out.size; simp at this; omega
  have nw3b : w.heap.size + 1 < w3.heap.size := by omega
  have nw3a : w.heap.size < w3.heap.size := by omega
  clear b3 HKB ca0 ca1 ca2 ca3 ca4 cb0 cb1 cb2 cb3 cb4 cc0 cc1 cc2 cc3 cc4 x0 x1 x2 x3 x4
  have ca0 : w3.cell? ⟨w.heap.size, 0, none⟩ = some (.int .u8 op) := (HB.out.cell (p := ⟨w.heap.size, 0, none⟩) (by simp; try omega)).trans (by simp [go_sem])
  have ca1 : w3.cell? ⟨w.heap.size, 1, none⟩ = some (.int .u8 dst) := (HB.out.cell (p := ⟨w.heap.size, 1, none⟩) (by simp; try omega)).trans (by simp [go_sem])
  have ca2 : w3.cell? ⟨w.heap.size, 2, none⟩ = some (.int .u8 src) := (HB.out.cell (p := ⟨w.heap.size, 2, none⟩) (by simp; try omega)).trans (by simp [go_sem])
  have ca3 : w3.cell? ⟨w.heap.size, 3, none⟩ = some (.int .i16 off) := (HB.out.cell (p := ⟨w.heap.size, 3, none⟩) (by simp; try omega)).trans (by simp [go_sem])
  have ca4 : w3.cell? ⟨w.heap.size, 4, none⟩ = some (.int .i32 imm) := (HB.out.cell (p := ⟨w.heap.size, 4, none⟩) (by simp; try omega)).trans (by simp [go_sem])
  have cb0 : w3.cell? ⟨w.heap.size + 1, 0, none⟩ = some (.int .i64 q.cls) := (HB.out.cell (p := ⟨w.heap.size + 1, 0, none⟩) (by simp; try omega)).trans (by simp [go_sem])
  have cb1 : w3.cell? ⟨w.heap.size + 1, 1, none⟩ = some (.int .i64 q.op) := (HB.out.cell (p := ⟨w.heap.size + 1, 1, none⟩) (by simp; try omega)).trans (by simp [go_sem])
  have cb2 : w3.cell? ⟨w.heap.size + 1, 2, none⟩ = some (.int .i64 q.size) := (HB.out.cell (p := ⟨w.heap.size + 1, 2, none⟩) (by simp; try omega)).trans (by simp [go_sem])
  have cb3 : w3.cell? ⟨w.heap.size + 1, 3, none⟩ = some (.bool q.wide) := (HB.out.cell (p := ⟨w.heap.size + 1, 3, none⟩) (by simp; try omega)).trans (by simp [go_sem])
  have cb4 : w3.cell? ⟨w.heap.size + 1, 4, none⟩ = some (.bool q.reg) := (HB.out.cell (p := ⟨w.heap.size + 1, 4, none⟩) (by simp; try omega)).trans (by simp [go_sem])
  have cc0 : w3.cell? ⟨w.heap.size + 1 + 1, 0, none⟩ = some (.int .u8 op2) := (HB.out.cell (p := ⟨w.heap.size + 1 + 1, 0, none⟩) (by simp; try omega)).trans (by simp [go_sem])
  have cc1 : w3.cell? ⟨w.heap.size + 1 + 1, 1, none⟩ = some (.int .u8 dst2) := (HB.out.cell (p := ⟨w.heap.size + 1 + 1, 1, none⟩) (by simp; try omega)).trans (by simp [go_sem])
  have cc2 : w3.cell? ⟨w.heap.size + 1 + 1, 2, none⟩ = some (.int .u8 src2) := (HB.out.cell (p := ⟨w.heap.size + 1 + 1, 2, none⟩) (by simp; try omega)).trans (by simp [go_sem])
  have cc3 : w3.cell? ⟨w.heap.size + 1 + 1, 3, none⟩ = some (.int .i16 off2) := (HB.out.cell (p := ⟨w.heap.size + 1 + 1, 3, none⟩) (by simp; try omega)).trans (by simp [go_sem])
  have cc4 : w3.cell? ⟨w.heap.size + 1 + 1, 4, none⟩ = some (.int .i32 imm2) := (HB.out.cell (p := ⟨w.heap.size + 1 + 1, 4, none⟩) (by simp; try omega)).trans (by simp [go_sem])
  go_wp2_with fail
  refine (HJ.out _ (sz_of (n := w.heap.size + 3) HZ.out (by repeat (first | exact HB.out | refine Below.drew ?_ | refine below_dV ?_ _ | refine Below.alloc ?_ (by first | omega | (simp; done) | (simp; omega)) _ | refine Below.setCell ?_ (by first | omega | (simp; done) | (simp; omega)) _)) (by simp))).mono ?_
  rintro e w4 ⟨rfl, b4⟩
  have HB' := hid (show Below (w.heap.size + 3) (((w.alloc (.cells #[.int .u8 op, .int .u8 dst, .int .u8 src, .int .i16 off, .int .i32 imm] 24)).alloc (.cells #[.int .i64 q.cls, .int .i64 q.op, .int .i64 q.size, .bool q.wide, .bool q.reg] 26)).alloc (.cells #[.int .u8 op2, .int .u8 dst2, .int .u8 src2, .int .i16 off2, .int .i32 imm2] 24)) w4 from Below.trans (by repeat (first | exact HB.out | refine Below.drew ?_ | refine below_dV ?_ _ | refine Below.alloc ?_ (by first | omega | (simp; done) | (simp; omega)) _ | refine Below.setCell ?_ (by first | omega | (simp; done) | (simp; omega)) _)) (b4.mono (by first | omega | (simp; done) | (simp; omega))))
  clear HB
  have HB := HB'
  clear HB'
  have nw4 : w.heap.size + 1 + 1 < w4.heap.size := by have := HB.out.size; simp at this; omega
  have nw4b : w.heap.size + 1 < w4.heap.size := by omega
  have nw4a : w.heap.size < w4.heap.size := by omega
  clear b4 HJ ca0 ca1 ca2 ca3 ca4 cb0 cb1 cb2 cb3 cb4 cc0 cc1 cc2 cc3 cc4 k0 k1 k2 k3 k4
  have ca0 : w4.cell? ⟨w.heap.size, 0, none⟩ = some (.int .u8 op) := (HB.out.cell (p := ⟨w.heap.size, 0, none⟩) (by simp; try omega)).trans (by simp [go_sem])
  have ca1 : w4.cell? ⟨w.heap.size, 1, none⟩ = some (.int .u8 dst) := (HB.out.cell (p := ⟨w.heap.size, 1, none⟩) (by simp; try omega)).trans (by simp [go_sem])
  have ca2 : w4.cell? ⟨w.heap.size, 2, none⟩ = some (.int .u8 src) := (HB.out.cell (p := ⟨w.heap.size, 2, none⟩) (by simp; try omega)).trans (by simp [go_sem])
  have ca3 : w4.cell? ⟨w.heap.size, 3, none⟩ = some (.int .i16 off) := (HB.out.cell (p := ⟨w.heap.size, 3, none⟩) (by simp; try omega)).trans (by simp [go_sem])
  have ca4 : w4.cell? ⟨w.heap.size, 4, none⟩ = some (.int .i32 imm) := (HB.out.cell (p := ⟨w.heap.size, 4, none⟩) (by simp; try omega)).trans (by simp [go_sem])
  have cb0 : w4.cell? ⟨w.heap.size + 1, 0, none⟩ = some (.int .i64 q.cls) := (HB.out.cell (p := ⟨w.heap.size + 1, 0, none⟩) (by simp; try omega)).trans (by simp [go_sem])
  have cb1 : w4.cell? ⟨w.heap.size + 1, 1, none⟩ = some (.int .i64 q.op) := (HB.out.cell (p := ⟨w.heap.size + 1, 1, none⟩) (by simp; try omega)).trans (by simp [go_sem])
  have cb2 : w4.cell? ⟨w.heap.size + 1, 2, none⟩ = some (.int .i64 q.size) := (HB.out.cell (p := ⟨w.heap.size + 1, 2, none⟩) (by simp; try omega)).trans (by simp [go_sem])
  have cb3 : w4.cell? ⟨w.heap.size + 1, 3, none⟩ = some (.bool q.wide) := (HB.out.cell (p := ⟨w.heap.size + 1, 3, none⟩) (by simp; try omega)).trans (by simp [go_sem])
  have cb4 : w4.cell? ⟨w.heap.size + 1, 4, none⟩ = some (.bool q.reg) := (HB.out.cell (p := ⟨w.heap.size + 1, 4, none⟩) (by simp; try omega)).trans (by simp [go_sem])
  have cc0 : w4.cell? ⟨w.heap.size + 1 + 1, 0, none⟩ = some (.int .u8 op2) := (HB.out.cell (p := ⟨w.heap.size + 1 + 1, 0, none⟩) (by simp; try omega)).trans (by simp [go_sem])
  have cc1 : w4.cell? ⟨w.heap.size + 1 + 1, 1, none⟩ = some (.int .u8 dst2) := (HB.out.cell (p := ⟨w.heap.size + 1 + 1, 1, none⟩) (by simp; try omega)).trans (by simp [go_sem])
  have cc2 : w4.cell? ⟨w.heap.size + 1 + 1, 2, none⟩ = some (.int .u8 src2) := (HB.out.cell (p := ⟨w.heap.size + 1 + 1, 2, none⟩) (by simp; try omega)).trans (by simp [go_sem])
  have cc3 : w4.cell? ⟨w.heap.size + 1 + 1, 3, none⟩ = some (.int .i16 off2) := (HB.out.cell (p := ⟨w.heap.size + 1 + 1, 3, none⟩) (by simp; try omega)).trans (by simp [go_sem])
  have cc4 : w4.cell? ⟨w.heap.size + 1 + 1, 4, none⟩ = some (.int .i32 imm2) := (HB.out.cell (p := ⟨w.heap.size + 1 + 1, 4, none⟩) (by simp; try omega)).trans (by simp [go_sem])
  go_wp2_with fail
  refine (HO2.out _ (sz_of (n := w.heap.size + 3) HZ.out (by repeat (first | exact HB.out | refine Below.drew ?_ | refine below_dV ?_ _ | refine Below.alloc ?_ (by first | omega | (simp; done) | (simp; omega)) _ | refine Below.setCell ?_ (by first | omega | (simp; done) | (simp; omega)) _)) (by simp))).mono ?_
  rintro e w5 ⟨rfl, b5⟩
  have v0 : w5.cell? ⟨w4.heap.size, 0, none⟩ = some (.int .u8 p0) := (b5.cell (p := ⟨w4.heap.size, 0, none⟩) (by simp)).trans (by simp)
  have v1 : w5.cell? ⟨w4.heap.size, 1, none⟩ = some (.int .u8 dst2) := (b5.cell (p := ⟨w4.heap.size, 1, none⟩) (by simp)).trans (by simp)
  have v2 : w5.cell? ⟨w4.heap.size, 2, none⟩ = some (.int .u8 p2) := (b5.cell (p := ⟨w4.heap.size, 2, none⟩) (by simp)).trans (by simp)
  have v3 : w5.cell? ⟨w4.heap.size, 3, none⟩ = some (.int .i16 off2) := (b5.cell (p := ⟨w4.heap.size, 3, none⟩) (by simp)).trans (by simp)
  have v4 : w5.cell? ⟨w4.heap.size, 4, none⟩ = some (.int .i32 p4) := (b5.cell (p := ⟨w4.heap.size, 4, none⟩) (by simp)).trans (by simp)
  have l45 : w4.heap.size < w5.heap.size := by have := b5.size; simp at this; omega
  have HB' := hid (show Below (w.heap.size + 3) (((w.alloc (.cells #[.int .u8 op, .int .u8 dst, .int .u8 src, .int .i16 off, .int .i32 imm] 24)).alloc (.cells #[.int .i64 q.cls, .int .i64 q.op, .int .i64 q.size, .bool q.wide, .bool q.reg] 26)).alloc (.cells #[.int .u8 op2, .int .u8 dst2, .int .u8 src2, .int .i16 off2, .int .i32 imm2] 24)) w5 from Below.trans (by repeat (first | exact HB.out | refine Below.drew ?_ | refine below_dV ?_ _ | refine Below.alloc ?_ (by first | omega | (simp; done) | (simp; omega)) _ | refine Below.setCell ?_ (by first | omega | (simp; done) | (simp; omega)) _)) (b5.mono (by first | omega | (simp; done) | (simp; omega))))
  clear HB
  have HB := HB'
  clear HB'
  have nw5 : w.heap.size + 1 + 1 < w5.heap.size := by have := HB.out.size; simp at this; omega
  have nw5b : w.heap.size + 1 < w5.heap.size := by omega
  have nw5a : w.heap.size < w5.heap.size := by omega
  clear b5 HO2 ca0 ca1 ca2 ca3 ca4 cb0 cb1 cb2 cb3 cb4 cc0 cc1 cc2 cc3 cc4
  have ca0 : w5.cell? ⟨w.heap.size, 0, none⟩ = some (.int .u8 op) := (HB.out.cell (p := ⟨w.heap.size, 0, none⟩) (by simp; try omega)).trans (by simp [go_sem])
  have ca1 : w5.cell? ⟨w.heap.size, 1, none⟩ = some (.int .u8 dst) := (HB.out.cell (p := ⟨w.heap.size, 1, none⟩) (by simp; try omega)).trans (by simp [go_sem])
  have ca2 : w5.cell? ⟨w.heap.size, 2, none⟩ = some (.int .u8 src) := (HB.out.cell (p := ⟨w.heap.size, 2, none⟩) (by simp; try omega)).trans (by simp [go_sem])
  have ca3 : w5.cell? ⟨w.heap.size, 3, none⟩ = some (.int .i16 off) := (HB.out.cell (p := ⟨w.heap.size, 3, none⟩) (by simp; try omega)).trans (by simp [go_sem])
  have ca4 : w5.cell? ⟨w.heap.size, 4, none⟩ = some (.int .i32 imm) := (HB.out.cell (p := ⟨w.heap.size, 4, none⟩) (by simp; try omega)).trans (by simp [go_sem])
  have cb0 : w5.cell? ⟨w.heap.size + 1, 0, none⟩ = some (.int .i64 q.cls) := (HB.out.cell (p := ⟨w.heap.size + 1, 0, none⟩) (by simp; try omega)).trans (by simp [go_sem])
  have cb1 : w5.cell? ⟨w.heap.size + 1, 1, none⟩ = some (.int .i64 q.op) := (HB.out.cell (p := ⟨w.heap.size + 1, 1, none⟩) (by simp; try omega)).trans (by simp [go_sem])
  have cb2 : w5.cell? ⟨w.heap.size + 1, 2, none⟩ = some (.int .i64 q.size) := (HB.out.cell (p := ⟨w.heap.size + 1, 2, none⟩) (by simp; try omega)).trans (by simp [go_sem])
  have cb3 : w5.cell? ⟨w.heap.size + 1, 3, none⟩ = some (.bool q.wide) := (HB.out.cell (p := ⟨w.heap.size + 1, 3, none⟩) (by simp; try omega)).trans (by simp [go_sem])
  have cb4 : w5.cell? ⟨w.heap.size + 1, 4, none⟩ = some (.bool q.reg) := (HB.out.cell (p := ⟨w.heap.size + 1, 4, none⟩) (by simp; try omega)).trans (by simp [go_sem])
  have cc0 : w5.cell? ⟨w.heap.size + 1 + 1, 0, none⟩ = some (.int .u8 op2) := (HB.out.cell (p := ⟨w.heap.size + 1 + 1, 0, none⟩) (by simp; try omega)).trans (by simp [go_sem])
  have cc1 : w5.cell? ⟨w.heap.size + 1 + 1, 1, none⟩ = some (.int .u8 dst2) := (HB.out.cell (p := ⟨w.heap.size + 1 + 1, 1, none⟩) (by simp; try omega)).trans (by simp [go_sem])
  have cc2 : w5.cell? ⟨w.heap.size + 1 + 1, 2, none⟩ = some (.int .u8 src2) := (HB.out.cell (p := ⟨w.heap.size + 1 + 1, 2, none⟩) (by simp; try omega)).trans (by simp [go_sem])
  have cc3 : w5.cell? ⟨w.heap.size + 1 + 1, 3, none⟩ = some (.int .i16 off2) := (HB.out.cell (p := ⟨w.heap.size + 1 + 1, 3, none⟩) (by simp; try omega)).trans (by simp [go_sem])
  have cc4 : w5.cell? ⟨w.heap.size + 1 + 1, 4, none⟩ = some (.int .i32 imm2) := (HB.out.cell (p := ⟨w.heap.size + 1 + 1, 4, none⟩) (by simp; try omega)).trans (by simp [go_sem])
  go_wp2_with fail
  refine (wakes_any _ (sz_of (n := w.heap.size + 3) HZ.out (by repeat (first | exact HB.out | refine Below.drew ?_ | refine below_dV ?_ _ | refine Below.alloc ?_ (by first | omega | (simp; done) | (simp; omega)) _ | refine Below.setCell ?_ (by first | omega | (simp; done) | (simp; omega)) _)) (by simp))).mono ?_
  rintro e w6 ⟨rfl, b6⟩
  have HF := hid (show Below (w.heap.size + 3) (((w.alloc (.cells #[.int .u8 op, .int .u8 dst, .int .u8 src, .int .i16 off, .int .i32 imm] 24)).alloc (.cells #[.int .i64 q.cls, .int .i64 q.op, .int .i64 q.size, .bool q.wide, .bool q.reg] 26)).alloc (.cells #[.int .u8 op2, .int .u8 dst2, .int .u8 src2, .int .i16 off2, .int .i32 imm2] 24)) w6 from Below.trans (by repeat (first | exact HB.out | refine Below.drew ?_ | refine below_dV ?_ _ | refine Below.alloc ?_ (by first | omega | (simp; done) | (simp; omega)) _ | refine Below.setCell ?_ (by first | omega | (simp; done) | (simp; omega)) _)) (b6.mono (by first | omega | (simp; done) | (simp; omega))))
  clear b6 HB
  go_wp2
  go_ret
  exact ⟨rfl, HB0.out.trans (HF.out.mono (by omega))⟩

end Go.Proofs.YtahkdflmnaphpaaDoor
