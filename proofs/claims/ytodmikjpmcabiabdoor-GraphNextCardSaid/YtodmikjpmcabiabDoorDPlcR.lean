/-
  Contract of the document's own Places, with one answer.
-/
import Derived.Test.YtodmikjpmcabiabDoorDPlc
import Derived.Test.YtodmikjpmcabiabDoorDRefOU
namespace Go.Proofs.YtodmikjpmcabiabDoor
set_option linter.unusedSimpArgs false
set_option linter.unusedVariables false
set_option maxRecDepth 100000
open Go.ChangeShapes Go.WideShapes Go.ChangeAt Go.RowKit

theorem rplaces_e (T : Rw) (r : RR) (E : Int) (op dst src off imm : Int) (w : World) (d0 : 0 ≤ dst) (d1 : dst < 256)
    (HT : Hid (∀ W, Calls Tryd.prog 41 #[.agg #[.int .u8 op, .int .u8 dst, .int .u8 src, .int .i16 off, .int .i32 imm]] W fun e w' => e = .returned (.tuple #[whV T, .int .i64 E]) ∧ Below W.heap.size W w')) (hE : (E != 0) = true) :
    Calls Tryd.prog 44 #[.agg #[.int .u8 op, .int .u8 dst, .int .u8 src, .int .i16 off, .int .i32 imm]] w fun e w' => e = .returned (.int .i64 (0)) ∧ Below w.heap.size w w' := by
  go_enter Tryd.func44, Tryd.ntmps44
  go_wp2_with fail
  refine (HT.out _).mono ?_
  rintro e w1 ⟨rfl, b1⟩
  have hb1 := hid (((Below.refl w.heap.size w).alloc (Nat.le_refl _) (.cells #[.int .u8 op, .int .u8 dst, .int .u8 src, .int .i16 off, .int .i32 imm] 45)).trans (b1.mono (by simp)))
  have q0 : w.heap.size < w1.heap.size := by have := b1.size; simp at this; omega
  obtain ⟨hc, hf⟩ := bcell b1
  clear b1
  simp only [whV]
  go_wp2
  go_ret
  exact ⟨rfl, hb1.out.alloc hb1.out.size _⟩


theorem rplaces_a (T : Rw) (r : RR) (E : Int) (op dst src off imm : Int) (w : World) (d0 : 0 ≤ dst) (d1 : dst < 256)
    (HT : Hid (∀ W, Calls Tryd.prog 41 #[.agg #[.int .u8 op, .int .u8 dst, .int .u8 src, .int .i16 off, .int .i32 imm]] W fun e w' => e = .returned (.tuple #[whV T, .int .i64 E]) ∧ Below W.heap.size W w')) (hE : (E != 0) = false) (h1 : (T.cls == 10) = true) :
    Calls Tryd.prog 44 #[.agg #[.int .u8 op, .int .u8 dst, .int .u8 src, .int .i16 off, .int .i32 imm]] w fun e w' => e = .returned (.int .i64 (2)) ∧ Below w.heap.size w w' := by
  go_enter Tryd.func44, Tryd.ntmps44
  go_wp2_with fail
  refine (HT.out _).mono ?_
  rintro e w1 ⟨rfl, b1⟩
  have hb1 := hid (((Below.refl w.heap.size w).alloc (Nat.le_refl _) (.cells #[.int .u8 op, .int .u8 dst, .int .u8 src, .int .i16 off, .int .i32 imm] 45)).trans (b1.mono (by simp)))
  have q0 : w.heap.size < w1.heap.size := by have := b1.size; simp at this; omega
  obtain ⟨hc, hf⟩ := bcell b1
  clear b1
  simp only [whV]
  go_wp2
  go_ret
  exact ⟨rfl, hb1.out.alloc hb1.out.size _⟩


theorem rplaces_b (T : Rw) (r : RR) (E : Int) (op dst src off imm : Int) (w : World) (d0 : 0 ≤ dst) (d1 : dst < 256)
    (HT : Hid (∀ W, Calls Tryd.prog 41 #[.agg #[.int .u8 op, .int .u8 dst, .int .u8 src, .int .i16 off, .int .i32 imm]] W fun e w' => e = .returned (.tuple #[whV T, .int .i64 E]) ∧ Below W.heap.size W w')) (hE : (E != 0) = false) (h1 : (T.cls == 10) = false) (h2 : (T.cls == 11) = true) :
    Calls Tryd.prog 44 #[.agg #[.int .u8 op, .int .u8 dst, .int .u8 src, .int .i16 off, .int .i32 imm]] w fun e w' => e = .returned (.int .i64 (2)) ∧ Below w.heap.size w w' := by
  go_enter Tryd.func44, Tryd.ntmps44
  go_wp2_with fail
  refine (HT.out _).mono ?_
  rintro e w1 ⟨rfl, b1⟩
  have hb1 := hid (((Below.refl w.heap.size w).alloc (Nat.le_refl _) (.cells #[.int .u8 op, .int .u8 dst, .int .u8 src, .int .i16 off, .int .i32 imm] 45)).trans (b1.mono (by simp)))
  have q0 : w.heap.size < w1.heap.size := by have := b1.size; simp at this; omega
  obtain ⟨hc, hf⟩ := bcell b1
  clear b1
  simp only [whV]
  go_wp2
  go_ret
  exact ⟨rfl, hb1.out.alloc hb1.out.size _⟩


theorem rplaces_n (T : Rw) (r : RR) (E : Int) (op dst src off imm : Int) (w : World) (d0 : 0 ≤ dst) (d1 : dst < 256)
    (HT : Hid (∀ W, Calls Tryd.prog 41 #[.agg #[.int .u8 op, .int .u8 dst, .int .u8 src, .int .i16 off, .int .i32 imm]] W fun e w' => e = .returned (.tuple #[whV T, .int .i64 E]) ∧ Below W.heap.size W w')) (hE : (E != 0) = false) (h1 : (T.cls == 10) = false) (h2 : (T.cls == 11) = false) :
    Calls Tryd.prog 44 #[.agg #[.int .u8 op, .int .u8 dst, .int .u8 src, .int .i16 off, .int .i32 imm]] w fun e w' => e = .returned (.int .i64 (1)) ∧ Below w.heap.size w w' := by
  go_enter Tryd.func44, Tryd.ntmps44
  go_wp2_with fail
  refine (HT.out _).mono ?_
  rintro e w1 ⟨rfl, b1⟩
  have hb1 := hid (((Below.refl w.heap.size w).alloc (Nat.le_refl _) (.cells #[.int .u8 op, .int .u8 dst, .int .u8 src, .int .i16 off, .int .i32 imm] 45)).trans (b1.mono (by simp)))
  have q0 : w.heap.size < w1.heap.size := by have := b1.size; simp at this; omega
  obtain ⟨hc, hf⟩ := bcell b1
  clear b1
  simp only [whV]
  go_wp2
  go_ret
  exact ⟨rfl, hb1.out.alloc hb1.out.size _⟩


theorem urplaces (op dst src off imm : Int) (w : World) (h0 : 0 ≤ op) (h1 : op < 256) (d0 : 0 ≤ dst) (d1 : dst < 256) (s0 : 0 ≤ src) (s1 : src < 256) (o0 : -32768 ≤ off) (o1 : off < 32768) (m0 : -2147483648 ≤ imm) (m1 : imm < 2147483648) : Calls Tryd.prog 44 #[.agg #[.int .u8 op, .int .u8 dst, .int .u8 src, .int .i16 off, .int .i32 imm]] w fun e w' => e = .returned (.int .i64 (uP op dst src off imm)) ∧ Below w.heap.size w w' := by
  have HT := hid fun W => rof_any op dst src off imm W h0 h1 d0 d1 s0 s1 o0 o1 m0 m1
  unfold uP
  by_cases h : uE op dst src off imm = 0
  · rw [if_neg (by simpa using h)]
    by_cases a : (uT op dst src off imm).cls = 10
    · rw [if_pos a]; exact rplaces_a (uT op dst src off imm) ⟨0, 0, 0, 0, false, false, 0, 0, 0, 0, 0⟩ (uE op dst src off imm) op dst src off imm w d0 d1 HT (by simpa using h) (by simpa using a)
    rw [if_neg a]
    by_cases b : (uT op dst src off imm).cls = 11
    · rw [if_pos b]; exact rplaces_b (uT op dst src off imm) ⟨0, 0, 0, 0, false, false, 0, 0, 0, 0, 0⟩ (uE op dst src off imm) op dst src off imm w d0 d1 HT (by simpa using h) (by simpa using a) (by simpa using b)
    · rw [if_neg b]; exact rplaces_n (uT op dst src off imm) ⟨0, 0, 0, 0, false, false, 0, 0, 0, 0, 0⟩ (uE op dst src off imm) op dst src off imm w d0 d1 HT (by simpa using h) (by simpa using a) (by simpa using b)
  · rw [if_pos h]; exact rplaces_e (uT op dst src off imm) ⟨0, 0, 0, 0, false, false, 0, 0, 0, 0, 0⟩ (uE op dst src off imm) op dst src off imm w d0 d1 HT (by simpa using h)
end Go.Proofs.YtodmikjpmcabiabDoor
