/-
  The laws' own small functions of layer 2: 'is', 'what', 'wakes'.
-/
import Derived.Test.YtkapbeipjjcalaaDoorRefOU
namespace Go.Proofs.YtkapbeipjjcalaaDoor
set_option linter.unusedSimpArgs false
set_option linter.unusedVariables false
open Go.ChangeShapes Go.WideShapes Go.ChangeAt Go.RowKit

theorem of_is (op dst src off imm : Int) (R : Rw) (k : Int) (hR : tkR (rowI op src imm) dst src off imm = R) (hk : tkE (rowI op src imm) dst src off imm = k) (w : World)
    (h0 : 0 ≤ op) (h1 : op < 256) (d0 : 0 ≤ dst) (d1 : dst < 256) (s0 : 0 ≤ src) (s1 : src < 256) (o0 : -32768 ≤ off) (o1 : off < 32768) (m0 : -2147483648 ≤ imm) (m1 : imm < 2147483648) (hz : SzOk w) :
    Calls Tryd.prog 13 #[.agg #[.int .u8 op, .int .u8 dst, .int .u8 src, .int .i16 off, .int .i32 imm]] w fun e w' => e = .returned (.tuple #[whV R, .int .i64 k]) ∧ Below w.heap.size w w' :=
  hR ▸ hk ▸ of_any op dst src off imm w h0 h1 d0 d1 s0 s1 o0 o1 m0 m1 hz

theorem wakes_any (w : World) (hz : SzOk w) : Calls Tryd.prog 12 #[] w fun e w' => e = .returned (.bool true) ∧ Below w.heap.size w w' := by
  have n1 := hid (show tkR (rowI 183 0 (-5)) 1 0 0 (-5) = ⟨1, 11, 0, true, false, 3, 0, 0, 1⟩ by kernel_rfl)
  have n2 := hid (show tkE (rowI 183 0 (-5)) 1 0 0 (-5) = 0 by kernel_rfl)
  have n3 := hid (show tkR (rowI 143 0 0) 0 0 0 0 = r0 by kernel_rfl)
  have n4 := hid (show tkE (rowI 143 0 0) 0 0 0 0 = 20 by kernel_rfl)
  have HZ := hid hz
  clear hz
  go_enter Tryd.func12, Tryd.ntmps12
  go_wp2_with fail
  refine (of_is 183 1 0 0 (-5) _ _ n1.out n2.out _ (by decide) (by decide) (by decide) (by decide) (by decide) (by decide) (by decide) (by decide) (by decide) (by decide) HZ.out).mono ?_
  rintro e w1 ⟨rfl, b1⟩
  have HB1 := hid b1
  have hz1 := hid (HZ.out.below b1)
  clear b1
  simp only [whV]
  go_wp2_with fail
  refine (decode_8 _ 0 _ 24 33 255 255 1 0 0 128 _ (by simp) (by decide) (by decide) (by decide) (by decide) (by decide) (by decide) (by decide) (by decide) (by decide) (by decide) (by decide) (by decide) (by decide) (by decide) (by decide) (by decide) (by simp) (by simp) (by simp) (by simp) (by simp) (by simp) (by simp) (by simp)).mono ?_
  rintro e w2 ⟨rfl, b2⟩
  rw [show insV 24 (33 % 16) (33 / 16) (offB 255 255) (immB 1 0 0 128) = .agg #[.int .u8 24, .int .u8 1, .int .u8 2, .int .i16 (-1), .int .i32 (-2147483647)] from rfl]
  have hz2 := hid (((hz1.out.alloc _).alloc _).below b2)
  have q0 : w1.heap.size < w2.heap.size := by have := b2.size; simp at this; omega
  obtain ⟨hc, hf⟩ := bcell b2
  have k0 : w2.cell? ⟨w1.heap.size, 0, none⟩ = some (.int .i64 1) := by rw [hc _ _ (by simp; omega)]; simp
  have k1 : w2.cell? ⟨w1.heap.size, 1, none⟩ = some (.int .i64 11) := by rw [hc _ _ (by simp; omega)]; simp
  have k2 : w2.cell? ⟨w1.heap.size, 2, none⟩ = some (.int .i64 0) := by rw [hc _ _ (by simp; omega)]; simp
  have k3 : w2.cell? ⟨w1.heap.size, 3, none⟩ = some (.bool true) := by rw [hc _ _ (by simp; omega)]; simp
  have k4 : w2.cell? ⟨w1.heap.size, 4, none⟩ = some (.bool false) := by rw [hc _ _ (by simp; omega)]; simp
  have HB2 := hid (((Below.refl w1.heap.size w1).alloc (Nat.le_refl _) _).alloc (by simp) _ |>.trans (b2.mono (by simp; omega)))
  clear hc hf b2
  go_wp2_with fail
  refine (of_is 143 0 0 0 0 _ _ n3.out n4.out _ (by decide) (by decide) (by decide) (by decide) (by decide) (by decide) (by decide) (by decide) (by decide) (by decide) (hz2.out.alloc _)).mono ?_
  rintro e w3 ⟨rfl, b3⟩
  have q1 : w2.heap.size < w3.heap.size := by have := b3.size; simp at this; omega
  have q2 : w1.heap.size < w3.heap.size := by omega
  obtain ⟨hc, hf⟩ := bcell b3
  have HB3 := hid (((Below.refl w2.heap.size w2).alloc (Nat.le_refl _) _).trans (b3.mono (by simp)))
  have m0 : w3.cell? ⟨w1.heap.size, 0, none⟩ = some (.int .i64 1) := by rw [hc _ _ (by simp; omega), World.cell?_alloc_past _ _ _ q0]; exact k0
  have m1 : w3.cell? ⟨w1.heap.size, 1, none⟩ = some (.int .i64 11) := by rw [hc _ _ (by simp; omega), World.cell?_alloc_past _ _ _ q0]; exact k1
  have m2 : w3.cell? ⟨w1.heap.size, 2, none⟩ = some (.int .i64 0) := by rw [hc _ _ (by simp; omega), World.cell?_alloc_past _ _ _ q0]; exact k2
  have m3 : w3.cell? ⟨w1.heap.size, 3, none⟩ = some (.bool true) := by rw [hc _ _ (by simp; omega), World.cell?_alloc_past _ _ _ q0]; exact k3
  have m4 : w3.cell? ⟨w1.heap.size, 4, none⟩ = some (.bool false) := by rw [hc _ _ (by simp; omega), World.cell?_alloc_past _ _ _ q0]; exact k4
  clear k0 k1 k2 k3 k4 b3
  have i0 : w3.cell? ⟨w2.heap.size, 0, none⟩ = some (.int .u8 24) := by rw [hc _ _ (by simp)]; simp
  have i1 : w3.cell? ⟨w2.heap.size, 1, none⟩ = some (.int .u8 1) := by rw [hc _ _ (by simp)]; simp
  have i2 : w3.cell? ⟨w2.heap.size, 2, none⟩ = some (.int .u8 2) := by rw [hc _ _ (by simp)]; simp
  have i3 : w3.cell? ⟨w2.heap.size, 3, none⟩ = some (.int .i16 (-1)) := by rw [hc _ _ (by simp)]; simp
  have i4 : w3.cell? ⟨w2.heap.size, 4, none⟩ = some (.int .i32 (-2147483647)) := by rw [hc _ _ (by simp)]; simp
  clear hc hf
  simp only [whV]
  go_wp2
  go_ret
  refine ⟨rfl, ?_⟩
  exact (below_next (below_next HB1.out HB2.out) HB3.out).alloc (by have := HB1.out.size; omega) _
end Go.Proofs.YtkapbeipjjcalaaDoor
