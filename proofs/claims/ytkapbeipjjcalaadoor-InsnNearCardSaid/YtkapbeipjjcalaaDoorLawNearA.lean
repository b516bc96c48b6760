/-
  Walks of law InsnNear, case by case. The table of sizes is as start-up lays it (the card ties it); no other condition.
-/
import Derived.Test.YtkapbeipjjcalaaDoorUseK
import Derived.Test.YtkapbeipjjcalaaDoorNearM
import Derived.BigQuiet
import Derived.Deep.QuietTactic
namespace Go.Proofs.YtkapbeipjjcalaaDoor
set_option linter.unusedSimpArgs false
set_option linter.unusedVariables false
open Go.ChangeShapes Go.WideShapes Go.ChangeAt Go.RowKit Go.Joins Go.Deep

set_option maxRecDepth 100000 in
set_option maxHeartbeats 4000000 in
theorem near_3_s (_cls o sz : Int) (wd rg : Bool) (c1 o1 sz1 : Int) (wd1 rg1 : Bool) (c2 o2 sz2 : Int) (wd2 rg2 : Bool) (e1 e2 N P : Int) (bb : Bool) (L : List Int) (op dst src off imm off' imm' : Int) (w : World) (hz : SzOk w)
    (HO : Hid (∀ W, SzOk W → Calls Tryd.prog 13 #[.agg #[.int .u8 op, .int .u8 dst, .int .u8 src, .int .i16 off, .int .i32 imm]] W fun e w' => e = .returned (.tuple #[.agg #[.int .i64 3, .int .i64 o, .int .i64 sz, .bool wd, .bool rg], .int .i64 0]) ∧ Below W.heap.size W w'))
    (HR : Hid (∀ W, SzOk W → Calls Tryd.prog 6 #[.agg #[.int .u8 op, .int .u8 dst, .int .u8 src, .int .i16 off, .int .i32 imm]] W (Left2 W L)))
    (HW : Hid (∀ W, SzOk W → Calls Tryd.prog 8 #[.agg #[.int .u8 op, .int .u8 dst, .int .u8 src, .int .i16 off, .int .i32 imm]] W fun e w' => e = .returned (.int .i64 N) ∧ Below W.heap.size W w'))
    (HP : Hid (∀ W, SzOk W → Calls Tryd.prog 10 #[.agg #[.int .u8 op, .int .u8 dst, .int .u8 src, .int .i16 off, .int .i32 imm]] W fun e w' => e = .returned (.int .i64 P) ∧ Below W.heap.size W w'))
    (HJ : Hid (∀ W, SzOk W → Calls Tryd.prog 13 #[.agg #[.int .u8 op, .int .u8 dst, .int .u8 src, .int .i16 off', .int .i32 imm]] W fun e w' => e = .returned (.tuple #[.agg #[.int .i64 3, .int .i64 o, .int .i64 sz, .bool wd, .bool rg], .int .i64 0]) ∧ Below W.heap.size W w'))
    (HK : Hid (∀ W, SzOk W → Calls Tryd.prog 13 #[.agg #[.int .u8 op, .int .u8 dst, .int .u8 src, .int .i16 off, .int .i32 imm']] W fun e w' => e = .returned (.tuple #[.agg #[.int .i64 3, .int .i64 o, .int .i64 sz, .bool wd, .bool rg], .int .i64 0]) ∧ Below W.heap.size W w'))
    (hlen : L.length ≤ 2) (hL : Hid (∀ j, j < L.length → 0 ≤ L.getD j 0 ∧ L.getD j 0 ≤ 10 ∧ (0 < j → L.getD (j - 1) 0 < L.getD j 0))) (n0 : -1 ≤ N) (n1 : N < 10) (p0 : 1 ≤ P) (p1 : P ≤ 2)
    (e_ : True) :
    Calls Tryd.prog 4 #[.agg #[.int .u8 op, .int .u8 dst, .int .u8 src, .int .i16 off, .int .i32 imm], .int .i16 off', .int .i32 imm'] w fun e w' => e = .returned (.bool true) ∧ Below w.heap.size w w' := by
  have HZ := hid hz
  clear hz
  go_enter Tryd.func4, Tryd.ntmps4
  go_wp2_with fail
  refine (HO.out _ (HZ.out.alloc _)).mono ?_
  rintro e w1 ⟨rfl, b1⟩
  have i0 : w1.cell? ⟨w.heap.size, 0, none⟩ = some (.int .u8 op) := cn b1 (by simp)
  have i1 : w1.cell? ⟨w.heap.size, 1, none⟩ = some (.int .u8 dst) := cn b1 (by simp)
  have i2 : w1.cell? ⟨w.heap.size, 2, none⟩ = some (.int .u8 src) := cn b1 (by simp)
  have i3 : w1.cell? ⟨w.heap.size, 3, none⟩ = some (.int .i16 off) := cn b1 (by simp)
  have i4 : w1.cell? ⟨w.heap.size, 4, none⟩ = some (.int .i32 imm) := cn b1 (by simp)
  have X := hid (Bx.next b1 (Bx.next ((Below.refl w.heap.size w).alloc (Nat.le_refl _) _) ⟨HZ.out, Below.refl _ _⟩))
  have q1 : w.heap.size < w1.heap.size := by have := b1.size; simp at this; omega
  clear b1 HO
  go_wp2_with fail
  refine (HR.out _ (X.out.sz.alloc _)).mono ?_
  rintro e w2 ⟨v, rfl, own⟩
  have b2 := own.2
  obtain ⟨q, cap, rfl, hq⟩ := own_ints own
  clear own
  have i0' : w2.cell? ⟨w.heap.size, 0, none⟩ = some (.int .u8 op) := cn b2 (by first | exact i0 | exact cna _ i0)
  have i1' : w2.cell? ⟨w.heap.size, 1, none⟩ = some (.int .u8 dst) := cn b2 (by first | exact i1 | exact cna _ i1)
  have i2' : w2.cell? ⟨w.heap.size, 2, none⟩ = some (.int .u8 src) := cn b2 (by first | exact i2 | exact cna _ i2)
  have i3' : w2.cell? ⟨w.heap.size, 3, none⟩ = some (.int .i16 off) := cn b2 (by first | exact i3 | exact cna _ i3)
  have i4' : w2.cell? ⟨w.heap.size, 4, none⟩ = some (.int .i32 imm) := cn b2 (by first | exact i4 | exact cna _ i4)
  have t0' : w2.cell? ⟨w1.heap.size, 0, none⟩ = some (.int .i64 3) := cn b2 (by simp)
  have t1' : w2.cell? ⟨w1.heap.size, 1, none⟩ = some (.int .i64 o) := cn b2 (by simp)
  have t2' : w2.cell? ⟨w1.heap.size, 2, none⟩ = some (.int .i64 sz) := cn b2 (by simp)
  have t3' : w2.cell? ⟨w1.heap.size, 3, none⟩ = some (.bool wd) := cn b2 (by simp)
  have t4' : w2.cell? ⟨w1.heap.size, 4, none⟩ = some (.bool rg) := cn b2 (by simp)
  clear i0 i1 i2 i3 i4
  have i0 := i0'
  have t0 := t0'
  have i1 := i1'
  have t1 := t1'
  have i2 := i2'
  have t2 := t2'
  have i3 := i3'
  have t3 := t3'
  have i4 := i4'
  have t4 := t4'
  clear i0' i1' i2' i3' i4' t0' t1' t2' t3' t4'
  have X' := hid (Bx.next b2 (Bx.next ((Below.refl w1.heap.size w1).alloc (Nat.le_refl _) _) X.out))
  have q2 : w1.heap.size < w2.heap.size := by have := b2.size; simp at this; omega
  have HQ := hid hq
  clear b2 hq HR X
  go_wp2_with fail
  refine (HW.out _ X'.out.sz).mono ?_
  rintro e w3 ⟨rfl, b3⟩
  have i0' : w3.cell? ⟨w.heap.size, 0, none⟩ = some (.int .u8 op) := cn b3 (by first | exact i0 | exact cna _ i0)
  have i1' : w3.cell? ⟨w.heap.size, 1, none⟩ = some (.int .u8 dst) := cn b3 (by first | exact i1 | exact cna _ i1)
  have i2' : w3.cell? ⟨w.heap.size, 2, none⟩ = some (.int .u8 src) := cn b3 (by first | exact i2 | exact cna _ i2)
  have i3' : w3.cell? ⟨w.heap.size, 3, none⟩ = some (.int .i16 off) := cn b3 (by first | exact i3 | exact cna _ i3)
  have i4' : w3.cell? ⟨w.heap.size, 4, none⟩ = some (.int .i32 imm) := cn b3 (by first | exact i4 | exact cna _ i4)
  have t0' : w3.cell? ⟨w1.heap.size, 0, none⟩ = some (.int .i64 3) := cn b3 (by first | simp; done | exact t0 | exact cna _ t0)
  have t1' : w3.cell? ⟨w1.heap.size, 1, none⟩ = some (.int .i64 o) := cn b3 (by first | simp; done | exact t1 | exact cna _ t1)
  have t2' : w3.cell? ⟨w1.heap.size, 2, none⟩ = some (.int .i64 sz) := cn b3 (by first | simp; done | exact t2 | exact cna _ t2)
  have t3' : w3.cell? ⟨w1.heap.size, 3, none⟩ = some (.bool wd) := cn b3 (by first | simp; done | exact t3 | exact cna _ t3)
  have t4' : w3.cell? ⟨w1.heap.size, 4, none⟩ = some (.bool rg) := cn b3 (by first | simp; done | exact t4 | exact cna _ t4)
  clear i0 i1 i2 i3 i4 t0 t1 t2 t3 t4
  have i0 := i0'
  have t0 := t0'
  have i1 := i1'
  have t1 := t1'
  have i2 := i2'
  have t2 := t2'
  have i3 := i3'
  have t3 := t3'
  have i4 := i4'
  have t4 := t4'
  clear i0' i1' i2' i3' i4' t0' t1' t2' t3' t4'
  have X := hid (Bx.next b3 X'.out)
  clear X'
  have X' := X
  clear X
  have q3 : w2.heap.size ≤ w3.heap.size := b3.size
  have HQ' := hid (HQ.out.below b3)
  clear HQ
  have HQ := HQ'
  clear HQ'
  clear b3 HW
  go_wp2_with fail
  refine (HP.out _ X'.out.sz).mono ?_
  rintro e w4 ⟨rfl, b4⟩
  have i0' : w4.cell? ⟨w.heap.size, 0, none⟩ = some (.int .u8 op) := cn b4 (by first | exact i0 | exact cna _ i0)
  have i1' : w4.cell? ⟨w.heap.size, 1, none⟩ = some (.int .u8 dst) := cn b4 (by first | exact i1 | exact cna _ i1)
  have i2' : w4.cell? ⟨w.heap.size, 2, none⟩ = some (.int .u8 src) := cn b4 (by first | exact i2 | exact cna _ i2)
  have i3' : w4.cell? ⟨w.heap.size, 3, none⟩ = some (.int .i16 off) := cn b4 (by first | exact i3 | exact cna _ i3)
  have i4' : w4.cell? ⟨w.heap.size, 4, none⟩ = some (.int .i32 imm) := cn b4 (by first | exact i4 | exact cna _ i4)
  have t0' : w4.cell? ⟨w1.heap.size, 0, none⟩ = some (.int .i64 3) := cn b4 (by first | simp; done | exact t0 | exact cna _ t0)
  have t1' : w4.cell? ⟨w1.heap.size, 1, none⟩ = some (.int .i64 o) := cn b4 (by first | simp; done | exact t1 | exact cna _ t1)
  have t2' : w4.cell? ⟨w1.heap.size, 2, none⟩ = some (.int .i64 sz) := cn b4 (by first | simp; done | exact t2 | exact cna _ t2)
  have t3' : w4.cell? ⟨w1.heap.size, 3, none⟩ = some (.bool wd) := cn b4 (by first | simp; done | exact t3 | exact cna _ t3)
  have t4' : w4.cell? ⟨w1.heap.size, 4, none⟩ = some (.bool rg) := cn b4 (by first | simp; done | exact t4 | exact cna _ t4)
  clear i0 i1 i2 i3 i4 t0 t1 t2 t3 t4
  have i0 := i0'
  have t0 := t0'
  have i1 := i1'
  have t1 := t1'
  have i2 := i2'
  have t2 := t2'
  have i3 := i3'
  have t3 := t3'
  have i4 := i4'
  have t4 := t4'
  clear i0' i1' i2' i3' i4' t0' t1' t2' t3' t4'
  have X := hid (Bx.next b4 X'.out)
  clear X'
  have X' := X
  clear X
  have q4 : w3.heap.size ≤ w4.heap.size := b4.size
  have HQ' := hid (HQ.out.below b4)
  clear HQ
  have HQ := HQ'
  clear HQ'
  clear b4 HP
  go_wp2
  go_loopw [12] (fun i wr => ∃ k : Int, 0 ≤ k ∧ k ≤ (L.length : Int) ∧ i = .int .i64 k ∧ Hid (Below w4.heap.size w4 wr)) (fun i _ => 3 - (intOf i).toNat)
  case atStart => exact ⟨0, by omega, by omega, rfl, hid (Below.refl _ _)⟩
  case round =>
    obtain ⟨k, hk0, hk, rfl, HB⟩ := hrel
    by_cases hlt : k < (L.length : Int)
    · obtain ⟨hll, hq⟩ := HQ.out
      obtain ⟨b, off0, rfl, hb, hc⟩ := hq.resolve_left (by omega)
      have HC := hid hc
      clear hq hc hll
      have hd : decide (k < (L.length : Int)) = true := by simpa using hlt
      rcases (show k = 0 ∨ k = 1 by omega) with rfl | rfl
      · have r0 : wr.cell? ⟨b, off0, none⟩ = some (.int .i64 (L.getD 0 0)) := (HB.out.cell (p := ⟨b, off0 + 0, none⟩) hb).trans (HC.out 0 (by omega))
        have f0 := hL.out 0 (by omega)
        have g1 : decide (L.getD 0 0 < 0) = false := decide_eq_false (by omega)
        have g2 : decide (10 < L.getD 0 0) = false := decide_eq_false (by omega)
        clear f0
        generalize L.getD 0 0 = z0 at *
        go_wp2
        go_quiet (fail)
        go_wp2
        exact ⟨⟨1, by omega, by omega, by go_num, hid (below_dn HB.out _)⟩, by simp [intOf]⟩
      · have r0 : wr.cell? ⟨b, off0, none⟩ = some (.int .i64 (L.getD 0 0)) := (HB.out.cell (p := ⟨b, off0 + 0, none⟩) hb).trans (HC.out 0 (by omega))
        have r1 : wr.cell? ⟨b, off0 + 1, none⟩ = some (.int .i64 (L.getD 1 0)) := (HB.out.cell (p := ⟨b, off0 + 1, none⟩) hb).trans (HC.out 1 (by omega))
        have f1 := hL.out 1 (by omega)
        have g1 : decide (L.getD 1 0 < 0) = false := decide_eq_false (by omega)
        have g2 : decide (10 < L.getD 1 0) = false := decide_eq_false (by omega)
        have f2 : L.getD 0 0 < L.getD 1 0 := f1.2.2 (by omega)
        have g3 : decide (L.getD 1 0 ≤ L.getD 0 0) = false := decide_eq_false (by omega)
        clear f1 f2
        generalize L.getD 1 0 = z1 at *
        generalize L.getD 0 0 = z0 at *
        go_wp2
        go_quiet (fail)
        go_wp2
        exact ⟨⟨2, by omega, by omega, by go_num, hid (below_dn HB.out _)⟩, by simp [intOf]⟩
    · have hd : decide (k < (L.length : Int)) = false := by simpa using hlt
      clear hlt HQ hL
      have i0' : wr.cell? ⟨w.heap.size, 0, none⟩ = some (.int .u8 op) := cn HB.out i0
      have i1' : wr.cell? ⟨w.heap.size, 1, none⟩ = some (.int .u8 dst) := cn HB.out i1
      have i2' : wr.cell? ⟨w.heap.size, 2, none⟩ = some (.int .u8 src) := cn HB.out i2
      have i3' : wr.cell? ⟨w.heap.size, 3, none⟩ = some (.int .i16 off) := cn HB.out i3
      have i4' : wr.cell? ⟨w.heap.size, 4, none⟩ = some (.int .i32 imm) := cn HB.out i4
      have t0' : wr.cell? ⟨w1.heap.size, 0, none⟩ = some (.int .i64 3) := cn HB.out t0
      have t1' : wr.cell? ⟨w1.heap.size, 1, none⟩ = some (.int .i64 o) := cn HB.out t1
      have t2' : wr.cell? ⟨w1.heap.size, 2, none⟩ = some (.int .i64 sz) := cn HB.out t2
      have t3' : wr.cell? ⟨w1.heap.size, 3, none⟩ = some (.bool wd) := cn HB.out t3
      have t4' : wr.cell? ⟨w1.heap.size, 4, none⟩ = some (.bool rg) := cn HB.out t4
      clear i0 i1 i2 i3 i4 t0 t1 t2 t3 t4
      have X := hid (Bx.next HB.out X'.out)
      clear X'
      have q5 : w4.heap.size ≤ wr.heap.size := HB.out.size
      clear HB
      go_wp2_with fail
      refine (HJ.out _ (X.out.sz.alloc _)).mono ?_
      rintro e w6 ⟨rfl, b6⟩
      have i0 : w6.cell? ⟨w.heap.size, 0, none⟩ = some (.int .u8 op) := cn b6 (cna _ i0')
      have i1 : w6.cell? ⟨w.heap.size, 1, none⟩ = some (.int .u8 dst) := cn b6 (cna _ i1')
      have i2 : w6.cell? ⟨w.heap.size, 2, none⟩ = some (.int .u8 src) := cn b6 (cna _ i2')
      have i3 : w6.cell? ⟨w.heap.size, 3, none⟩ = some (.int .i16 off) := cn b6 (cna _ i3')
      have i4 : w6.cell? ⟨w.heap.size, 4, none⟩ = some (.int .i32 imm) := cn b6 (cna _ i4')
      have t0 : w6.cell? ⟨w1.heap.size, 0, none⟩ = some (.int .i64 3) := cn b6 (cna _ t0')
      have t1 : w6.cell? ⟨w1.heap.size, 1, none⟩ = some (.int .i64 o) := cn b6 (cna _ t1')
      have t2 : w6.cell? ⟨w1.heap.size, 2, none⟩ = some (.int .i64 sz) := cn b6 (cna _ t2')
      have t3 : w6.cell? ⟨w1.heap.size, 3, none⟩ = some (.bool wd) := cn b6 (cna _ t3')
      have t4 : w6.cell? ⟨w1.heap.size, 4, none⟩ = some (.bool rg) := cn b6 (cna _ t4')
      clear i0' i1' i2' i3' i4' t0' t1' t2' t3' t4'
      have Y := hid (Bx.next b6 (Bx.next ((Below.refl wr.heap.size wr).alloc (Nat.le_refl _) _) X.out))
      have q6 : wr.heap.size < w6.heap.size := by have := b6.size; simp at this; omega
      have q7 : w.heap.size < w6.heap.size := by omega
      have q8 : w1.heap.size < w6.heap.size := by omega
      clear b6 X HJ
      go_wp2_with fail
      refine (HK.out _ ((Y.out.sz.alloc _).alloc _)).mono ?_
      rintro e w7 ⟨rfl, b7⟩
      have s0 : w7.cell? ⟨w1.heap.size, 0, none⟩ = some (.int .i64 3) := cn b7 (cna _ (cna _ t0))
      have s1 : w7.cell? ⟨w1.heap.size, 1, none⟩ = some (.int .i64 o) := cn b7 (cna _ (cna _ t1))
      have s2 : w7.cell? ⟨w1.heap.size, 2, none⟩ = some (.int .i64 sz) := cn b7 (cna _ (cna _ t2))
      have s3 : w7.cell? ⟨w1.heap.size, 3, none⟩ = some (.bool wd) := cn b7 (cna _ (cna _ t3))
      have s4 : w7.cell? ⟨w1.heap.size, 4, none⟩ = some (.bool rg) := cn b7 (cna _ (cna _ t4))
      have x0 : w7.cell? ⟨w6.heap.size, 0, none⟩ = some (.int .i64 3) := cn b7 (cna _ (by simp))
      have x1 : w7.cell? ⟨w6.heap.size, 1, none⟩ = some (.int .i64 o) := cn b7 (cna _ (by simp))
      have x2 : w7.cell? ⟨w6.heap.size, 2, none⟩ = some (.int .i64 sz) := cn b7 (cna _ (by simp))
      have x3 : w7.cell? ⟨w6.heap.size, 3, none⟩ = some (.bool wd) := cn b7 (cna _ (by simp))
      have x4 : w7.cell? ⟨w6.heap.size, 4, none⟩ = some (.bool rg) := cn b7 (cna _ (by simp))
      obtain ⟨hc7, hf7⟩ := bcell b7
      have y0 : w7.frozen? ⟨w6.heap.size, 0, none⟩ = false := (hf7 _ _ (by simp; omega)).trans (frz2 w6 _ _ _ 0)
      have y1 : w7.frozen? ⟨w6.heap.size, 1, none⟩ = false := (hf7 _ _ (by simp; omega)).trans (frz2 w6 _ _ _ 1)
      have y2 : w7.frozen? ⟨w6.heap.size, 2, none⟩ = false := (hf7 _ _ (by simp; omega)).trans (frz2 w6 _ _ _ 2)
      have y3 : w7.frozen? ⟨w6.heap.size, 3, none⟩ = false := (hf7 _ _ (by simp; omega)).trans (frz2 w6 _ _ _ 3)
      have y4 : w7.frozen? ⟨w6.heap.size, 4, none⟩ = false := (hf7 _ _ (by simp; omega)).trans (frz2 w6 _ _ _ 4)
      have Z := hid (Bx.next b7 (Bx.next ((Below.refl _ _).alloc (Nat.le_refl _) _) (Bx.next ((Below.refl w6.heap.size w6).alloc (Nat.le_refl _) _) Y.out)))
      have q9 : w6.heap.size < w7.heap.size := by have := b7.size; simp at this; omega
      have qa : w1.heap.size < w7.heap.size := by omega
      have qb : w.heap.size < w7.heap.size := by omega
      clear b7 hc7 hf7 HK i0 i1 i2 i3 i4 t0 t1 t2 t3 t4
      go_wp2_with fail
      refine (wakes_any _ (set5 Z.out.sz (by omega))).mono ?_
      rintro e w8 ⟨rfl, b8⟩
      have HF := hid (below5 Z.out.2 (by omega) b8)
      clear b8
      go_wp2
      go_ret
      exact ⟨rfl, HF.out⟩
set_option maxRecDepth 100000 in
set_option maxHeartbeats 4000000 in
theorem near_3_e (_cls o sz : Int) (wd rg : Bool) (c1 o1 sz1 : Int) (wd1 rg1 : Bool) (c2 o2 sz2 : Int) (wd2 rg2 : Bool) (e1 e2 N P : Int) (bb : Bool) (L : List Int) (op dst src off imm off' imm' : Int) (w : World) (hz : SzOk w)
    (HO : Hid (∀ W, SzOk W → Calls Tryd.prog 13 #[.agg #[.int .u8 op, .int .u8 dst, .int .u8 src, .int .i16 off, .int .i32 imm]] W fun e w' => e = .returned (.tuple #[.agg #[.int .i64 3, .int .i64 o, .int .i64 sz, .bool wd, .bool rg], .int .i64 0]) ∧ Below W.heap.size W w'))
    (HR : Hid (∀ W, SzOk W → Calls Tryd.prog 6 #[.agg #[.int .u8 op, .int .u8 dst, .int .u8 src, .int .i16 off, .int .i32 imm]] W (Left2 W L)))
    (HW : Hid (∀ W, SzOk W → Calls Tryd.prog 8 #[.agg #[.int .u8 op, .int .u8 dst, .int .u8 src, .int .i16 off, .int .i32 imm]] W fun e w' => e = .returned (.int .i64 N) ∧ Below W.heap.size W w'))
    (HP : Hid (∀ W, SzOk W → Calls Tryd.prog 10 #[.agg #[.int .u8 op, .int .u8 dst, .int .u8 src, .int .i16 off, .int .i32 imm]] W fun e w' => e = .returned (.int .i64 P) ∧ Below W.heap.size W w'))
    (HJ : Hid (∀ W, SzOk W → Calls Tryd.prog 13 #[.agg #[.int .u8 op, .int .u8 dst, .int .u8 src, .int .i16 off', .int .i32 imm]] W fun e w' => e = .returned (.tuple #[.agg #[.int .i64 3, .int .i64 o, .int .i64 sz, .bool wd, .bool rg], .int .i64 0]) ∧ Below W.heap.size W w'))
    (HK : Hid (∀ W, SzOk W → Calls Tryd.prog 13 #[.agg #[.int .u8 op, .int .u8 dst, .int .u8 src, .int .i16 off, .int .i32 imm']] W fun e w' => e = .returned (.tuple #[.agg #[.int .i64 c2, .int .i64 o2, .int .i64 sz2, .bool wd2, .bool rg2], .int .i64 e2]) ∧ Below W.heap.size W w'))
    (hlen : L.length ≤ 2) (hL : Hid (∀ j, j < L.length → 0 ≤ L.getD j 0 ∧ L.getD j 0 ≤ 10 ∧ (0 < j → L.getD (j - 1) 0 < L.getD j 0))) (n0 : -1 ≤ N) (n1 : N < 10) (p0 : 1 ≤ P) (p1 : P ≤ 2)
    (he2 : (e2 != 0) = true) :
    Calls Tryd.prog 4 #[.agg #[.int .u8 op, .int .u8 dst, .int .u8 src, .int .i16 off, .int .i32 imm], .int .i16 off', .int .i32 imm'] w fun e w' => e = .returned (.bool true) ∧ Below w.heap.size w w' := by
  have HZ := hid hz
  clear hz
  go_enter Tryd.func4, Tryd.ntmps4
  go_wp2_with fail
  refine (HO.out _ (HZ.out.alloc _)).mono ?_
  rintro e w1 ⟨rfl, b1⟩
  have i0 : w1.cell? ⟨w.heap.size, 0, none⟩ = some (.int .u8 op) := cn b1 (by simp)
  have i1 : w1.cell? ⟨w.heap.size, 1, none⟩ = some (.int .u8 dst) := cn b1 (by simp)
  have i2 : w1.cell? ⟨w.heap.size, 2, none⟩ = some (.int .u8 src) := cn b1 (by simp)
  have i3 : w1.cell? ⟨w.heap.size, 3, none⟩ = some (.int .i16 off) := cn b1 (by simp)
  have i4 : w1.cell? ⟨w.heap.size, 4, none⟩ = some (.int .i32 imm) := cn b1 (by simp)
  have X := hid (Bx.next b1 (Bx.next ((Below.refl w.heap.size w).alloc (Nat.le_refl _) _) ⟨HZ.out, Below.refl _ _⟩))
  have q1 : w.heap.size < w1.heap.size := by have := b1.size; simp at this; omega
  clear b1 HO
  go_wp2_with fail
  refine (HR.out _ (X.out.sz.alloc _)).mono ?_
  rintro e w2 ⟨v, rfl, own⟩
  have b2 := own.2
  obtain ⟨q, cap, rfl, hq⟩ := own_ints own
  clear own
  have i0' : w2.cell? ⟨w.heap.size, 0, none⟩ = some (.int .u8 op) := cn b2 (by first | exact i0 | exact cna _ i0)
  have i1' : w2.cell? ⟨w.heap.size, 1, none⟩ = some (.int .u8 dst) := cn b2 (by first | exact i1 | exact cna _ i1)
  have i2' : w2.cell? ⟨w.heap.size, 2, none⟩ = some (.int .u8 src) := cn b2 (by first | exact i2 | exact cna _ i2)
  have i3' : w2.cell? ⟨w.heap.size, 3, none⟩ = some (.int .i16 off) := cn b2 (by first | exact i3 | exact cna _ i3)
  have i4' : w2.cell? ⟨w.heap.size, 4, none⟩ = some (.int .i32 imm) := cn b2 (by first | exact i4 | exact cna _ i4)
  have t0' : w2.cell? ⟨w1.heap.size, 0, none⟩ = some (.int .i64 3) := cn b2 (by simp)
  have t1' : w2.cell? ⟨w1.heap.size, 1, none⟩ = some (.int .i64 o) := cn b2 (by simp)
  have t2' : w2.cell? ⟨w1.heap.size, 2, none⟩ = some (.int .i64 sz) := cn b2 (by simp)
  have t3' : w2.cell? ⟨w1.heap.size, 3, none⟩ = some (.bool wd) := cn b2 (by simp)
  have t4' : w2.cell? ⟨w1.heap.size, 4, none⟩ = some (.bool rg) := cn b2 (by simp)
  clear i0 i1 i2 i3 i4
  have i0 := i0'
  have t0 := t0'
  have i1 := i1'
  have t1 := t1'
  have i2 := i2'
  have t2 := t2'
  have i3 := i3'
  have t3 := t3'
  have i4 := i4'
  have t4 := t4'
  clear i0' i1' i2' i3' i4' t0' t1' t2' t3' t4'
  have X' := hid (Bx.next b2 (Bx.next ((Below.refl w1.heap.size w1).alloc (Nat.le_refl _) _) X.out))
  have q2 : w1.heap.size < w2.heap.size := by have := b2.size; simp at this; omega
  have HQ := hid hq
  clear b2 hq HR X
  go_wp2_with fail
  refine (HW.out _ X'.out.sz).mono ?_
  rintro e w3 ⟨rfl, b3⟩
  have i0' : w3.cell? ⟨w.heap.size, 0, none⟩ = some (.int .u8 op) := cn b3 (by first | exact i0 | exact cna _ i0)
  have i1' : w3.cell? ⟨w.heap.size, 1, none⟩ = some (.int .u8 dst) := cn b3 (by first | exact i1 | exact cna _ i1)
  have i2' : w3.cell? ⟨w.heap.size, 2, none⟩ = some (.int .u8 src) := cn b3 (by first | exact i2 | exact cna _ i2)
  have i3' : w3.cell? ⟨w.heap.size, 3, none⟩ = some (.int .i16 off) := cn b3 (by first | exact i3 | exact cna _ i3)
  have i4' : w3.cell? ⟨w.heap.size, 4, none⟩ = some (.int .i32 imm) := cn b3 (by first | exact i4 | exact cna _ i4)
  have t0' : w3.cell? ⟨w1.heap.size, 0, none⟩ = some (.int .i64 3) := cn b3 (by first | simp; done | exact t0 | exact cna _ t0)
  have t1' : w3.cell? ⟨w1.heap.size, 1, none⟩ = some (.int .i64 o) := cn b3 (by first | simp; done | exact t1 | exact cna _ t1)
  have t2' : w3.cell? ⟨w1.heap.size, 2, none⟩ = some (.int .i64 sz) := cn b3 (by first | simp; done | exact t2 | exact cna _ t2)
  have t3' : w3.cell? ⟨w1.heap.size, 3, none⟩ = some (.bool wd) := cn b3 (by first | simp; done | exact t3 | exact cna _ t3)
  have t4' : w3.cell? ⟨w1.heap.size, 4, none⟩ = some (.bool rg) := cn b3 (by first | simp; done | exact t4 | exact cna _ t4)
  clear i0 i1 i2 i3 i4 t0 t1 t2 t3 t4
  have i0 := i0'
  have t0 := t0'
  have i1 := i1'
  have t1 := t1'
  have i2 := i2'
  have t2 := t2'
  have i3 := i3'
  have t3 := t3'
  have i4 := i4'
  have t4 := t4'
  clear i0' i1' i2' i3' i4' t0' t1' t2' t3' t4'
  have X := hid (Bx.next b3 X'.out)
  clear X'
  have X' := X
  clear X
  have q3 : w2.heap.size ≤ w3.heap.size := b3.size
  have HQ' := hid (HQ.out.below b3)
  clear HQ
  have HQ := HQ'
  clear HQ'
  clear b3 HW
  go_wp2_with fail
  refine (HP.out _ X'.out.sz).mono ?_
  rintro e w4 ⟨rfl, b4⟩
  have i0' : w4.cell? ⟨w.heap.size, 0, none⟩ = some (.int .u8 op) := cn b4 (by first | exact i0 | exact cna _ i0)
  have i1' : w4.cell? ⟨w.heap.size, 1, none⟩ = some (.int .u8 dst) := cn b4 (by first | exact i1 | exact cna _ i1)
  have i2' : w4.cell? ⟨w.heap.size, 2, none⟩ = some (.int .u8 src) := cn b4 (by first | exact i2 | exact cna _ i2)
  have i3' : w4.cell? ⟨w.heap.size, 3, none⟩ = some (.int .i16 off) := cn b4 (by first | exact i3 | exact cna _ i3)
  have i4' : w4.cell? ⟨w.heap.size, 4, none⟩ = some (.int .i32 imm) := cn b4 (by first | exact i4 | exact cna _ i4)
  have t0' : w4.cell? ⟨w1.heap.size, 0, none⟩ = some (.int .i64 3) := cn b4 (by first | simp; done | exact t0 | exact cna _ t0)
  have t1' : w4.cell? ⟨w1.heap.size, 1, none⟩ = some (.int .i64 o) := cn b4 (by first | simp; done | exact t1 | exact cna _ t1)
  have t2' : w4.cell? ⟨w1.heap.size, 2, none⟩ = some (.int .i64 sz) := cn b4 (by first | simp; done | exact t2 | exact cna _ t2)
  have t3' : w4.cell? ⟨w1.heap.size, 3, none⟩ = some (.bool wd) := cn b4 (by first | simp; done | exact t3 | exact cna _ t3)
  have t4' : w4.cell? ⟨w1.heap.size, 4, none⟩ = some (.bool rg) := cn b4 (by first | simp; done | exact t4 | exact cna _ t4)
  clear i0 i1 i2 i3 i4 t0 t1 t2 t3 t4
  have i0 := i0'
  have t0 := t0'
  have i1 := i1'
  have t1 := t1'
  have i2 := i2'
  have t2 := t2'
  have i3 := i3'
  have t3 := t3'
  have i4 := i4'
  have t4 := t4'
  clear i0' i1' i2' i3' i4' t0' t1' t2' t3' t4'
  have X := hid (Bx.next b4 X'.out)
  clear X'
  have X' := X
  clear X
  have q4 : w3.heap.size ≤ w4.heap.size := b4.size
  have HQ' := hid (HQ.out.below b4)
  clear HQ
  have HQ := HQ'
  clear HQ'
  clear b4 HP
  go_wp2
  go_loopw [12] (fun i wr => ∃ k : Int, 0 ≤ k ∧ k ≤ (L.length : Int) ∧ i = .int .i64 k ∧ Hid (Below w4.heap.size w4 wr)) (fun i _ => 3 - (intOf i).toNat)
  case atStart => exact ⟨0, by omega, by omega, rfl, hid (Below.refl _ _)⟩
  case round =>
    obtain ⟨k, hk0, hk, rfl, HB⟩ := hrel
    by_cases hlt : k < (L.length : Int)
    · obtain ⟨hll, hq⟩ := HQ.out
      obtain ⟨b, off0, rfl, hb, hc⟩ := hq.resolve_left (by omega)
      have HC := hid hc
      clear hq hc hll
      have hd : decide (k < (L.length : Int)) = true := by simpa using hlt
      rcases (show k = 0 ∨ k = 1 by omega) with rfl | rfl
      · have r0 : wr.cell? ⟨b, off0, none⟩ = some (.int .i64 (L.getD 0 0)) := (HB.out.cell (p := ⟨b, off0 + 0, none⟩) hb).trans (HC.out 0 (by omega))
        have f0 := hL.out 0 (by omega)
        have g1 : decide (L.getD 0 0 < 0) = false := decide_eq_false (by omega)
        have g2 : decide (10 < L.getD 0 0) = false := decide_eq_false (by omega)
        clear f0
        generalize L.getD 0 0 = z0 at *
        go_wp2
        go_quiet (fail)
        go_wp2
        exact ⟨⟨1, by omega, by omega, by go_num, hid (below_dn HB.out _)⟩, by simp [intOf]⟩
      · have r0 : wr.cell? ⟨b, off0, none⟩ = some (.int .i64 (L.getD 0 0)) := (HB.out.cell (p := ⟨b, off0 + 0, none⟩) hb).trans (HC.out 0 (by omega))
        have r1 : wr.cell? ⟨b, off0 + 1, none⟩ = some (.int .i64 (L.getD 1 0)) := (HB.out.cell (p := ⟨b, off0 + 1, none⟩) hb).trans (HC.out 1 (by omega))
        have f1 := hL.out 1 (by omega)
        have g1 : decide (L.getD 1 0 < 0) = false := decide_eq_false (by omega)
        have g2 : decide (10 < L.getD 1 0) = false := decide_eq_false (by omega)
        have f2 : L.getD 0 0 < L.getD 1 0 := f1.2.2 (by omega)
        have g3 : decide (L.getD 1 0 ≤ L.getD 0 0) = false := decide_eq_false (by omega)
        clear f1 f2
        generalize L.getD 1 0 = z1 at *
        generalize L.getD 0 0 = z0 at *
        go_wp2
        go_quiet (fail)
        go_wp2
        exact ⟨⟨2, by omega, by omega, by go_num, hid (below_dn HB.out _)⟩, by simp [intOf]⟩
    · have hd : decide (k < (L.length : Int)) = false := by simpa using hlt
      clear hlt HQ hL
      have i0' : wr.cell? ⟨w.heap.size, 0, none⟩ = some (.int .u8 op) := cn HB.out i0
      have i1' : wr.cell? ⟨w.heap.size, 1, none⟩ = some (.int .u8 dst) := cn HB.out i1
      have i2' : wr.cell? ⟨w.heap.size, 2, none⟩ = some (.int .u8 src) := cn HB.out i2
      have i3' : wr.cell? ⟨w.heap.size, 3, none⟩ = some (.int .i16 off) := cn HB.out i3
      have i4' : wr.cell? ⟨w.heap.size, 4, none⟩ = some (.int .i32 imm) := cn HB.out i4
      have t0' : wr.cell? ⟨w1.heap.size, 0, none⟩ = some (.int .i64 3) := cn HB.out t0
      have t1' : wr.cell? ⟨w1.heap.size, 1, none⟩ = some (.int .i64 o) := cn HB.out t1
      have t2' : wr.cell? ⟨w1.heap.size, 2, none⟩ = some (.int .i64 sz) := cn HB.out t2
      have t3' : wr.cell? ⟨w1.heap.size, 3, none⟩ = some (.bool wd) := cn HB.out t3
      have t4' : wr.cell? ⟨w1.heap.size, 4, none⟩ = some (.bool rg) := cn HB.out t4
      clear i0 i1 i2 i3 i4 t0 t1 t2 t3 t4
      have X := hid (Bx.next HB.out X'.out)
      clear X'
      have q5 : w4.heap.size ≤ wr.heap.size := HB.out.size
      clear HB
      go_wp2_with fail
      refine (HJ.out _ (X.out.sz.alloc _)).mono ?_
      rintro e w6 ⟨rfl, b6⟩
      have i0 : w6.cell? ⟨w.heap.size, 0, none⟩ = some (.int .u8 op) := cn b6 (cna _ i0')
      have i1 : w6.cell? ⟨w.heap.size, 1, none⟩ = some (.int .u8 dst) := cn b6 (cna _ i1')
      have i2 : w6.cell? ⟨w.heap.size, 2, none⟩ = some (.int .u8 src) := cn b6 (cna _ i2')
      have i3 : w6.cell? ⟨w.heap.size, 3, none⟩ = some (.int .i16 off) := cn b6 (cna _ i3')
      have i4 : w6.cell? ⟨w.heap.size, 4, none⟩ = some (.int .i32 imm) := cn b6 (cna _ i4')
      have t0 : w6.cell? ⟨w1.heap.size, 0, none⟩ = some (.int .i64 3) := cn b6 (cna _ t0')
      have t1 : w6.cell? ⟨w1.heap.size, 1, none⟩ = some (.int .i64 o) := cn b6 (cna _ t1')
      have t2 : w6.cell? ⟨w1.heap.size, 2, none⟩ = some (.int .i64 sz) := cn b6 (cna _ t2')
      have t3 : w6.cell? ⟨w1.heap.size, 3, none⟩ = some (.bool wd) := cn b6 (cna _ t3')
      have t4 : w6.cell? ⟨w1.heap.size, 4, none⟩ = some (.bool rg) := cn b6 (cna _ t4')
      clear i0' i1' i2' i3' i4' t0' t1' t2' t3' t4'
      have Y := hid (Bx.next b6 (Bx.next ((Below.refl wr.heap.size wr).alloc (Nat.le_refl _) _) X.out))
      have q6 : wr.heap.size < w6.heap.size := by have := b6.size; simp at this; omega
      have q7 : w.heap.size < w6.heap.size := by omega
      have q8 : w1.heap.size < w6.heap.size := by omega
      clear b6 X HJ
      go_wp2_with fail
      refine (HK.out _ ((Y.out.sz.alloc _).alloc _)).mono ?_
      rintro e w7 ⟨rfl, b7⟩
      have s0 : w7.cell? ⟨w1.heap.size, 0, none⟩ = some (.int .i64 3) := cn b7 (cna _ (cna _ t0))
      have s1 : w7.cell? ⟨w1.heap.size, 1, none⟩ = some (.int .i64 o) := cn b7 (cna _ (cna _ t1))
      have s2 : w7.cell? ⟨w1.heap.size, 2, none⟩ = some (.int .i64 sz) := cn b7 (cna _ (cna _ t2))
      have s3 : w7.cell? ⟨w1.heap.size, 3, none⟩ = some (.bool wd) := cn b7 (cna _ (cna _ t3))
      have s4 : w7.cell? ⟨w1.heap.size, 4, none⟩ = some (.bool rg) := cn b7 (cna _ (cna _ t4))
      have x0 : w7.cell? ⟨w6.heap.size, 0, none⟩ = some (.int .i64 3) := cn b7 (cna _ (by simp))
      have x1 : w7.cell? ⟨w6.heap.size, 1, none⟩ = some (.int .i64 o) := cn b7 (cna _ (by simp))
      have x2 : w7.cell? ⟨w6.heap.size, 2, none⟩ = some (.int .i64 sz) := cn b7 (cna _ (by simp))
      have x3 : w7.cell? ⟨w6.heap.size, 3, none⟩ = some (.bool wd) := cn b7 (cna _ (by simp))
      have x4 : w7.cell? ⟨w6.heap.size, 4, none⟩ = some (.bool rg) := cn b7 (cna _ (by simp))
      obtain ⟨hc7, hf7⟩ := bcell b7
      have y0 : w7.frozen? ⟨w6.heap.size, 0, none⟩ = false := (hf7 _ _ (by simp; omega)).trans (frz2 w6 _ _ _ 0)
      have y1 : w7.frozen? ⟨w6.heap.size, 1, none⟩ = false := (hf7 _ _ (by simp; omega)).trans (frz2 w6 _ _ _ 1)
      have y2 : w7.frozen? ⟨w6.heap.size, 2, none⟩ = false := (hf7 _ _ (by simp; omega)).trans (frz2 w6 _ _ _ 2)
      have y3 : w7.frozen? ⟨w6.heap.size, 3, none⟩ = false := (hf7 _ _ (by simp; omega)).trans (frz2 w6 _ _ _ 3)
      have y4 : w7.frozen? ⟨w6.heap.size, 4, none⟩ = false := (hf7 _ _ (by simp; omega)).trans (frz2 w6 _ _ _ 4)
      have Z := hid (Bx.next b7 (Bx.next ((Below.refl _ _).alloc (Nat.le_refl _) _) (Bx.next ((Below.refl w6.heap.size w6).alloc (Nat.le_refl _) _) Y.out)))
      have q9 : w6.heap.size < w7.heap.size := by have := b7.size; simp at this; omega
      have qa : w1.heap.size < w7.heap.size := by omega
      have qb : w.heap.size < w7.heap.size := by omega
      clear b7 hc7 hf7 HK i0 i1 i2 i3 i4 t0 t1 t2 t3 t4
      go_wp2_with fail
      refine (wakes_any _ (set5 Z.out.sz (by omega))).mono ?_
      rintro e w8 ⟨rfl, b8⟩
      have HF := hid (below5 Z.out.2 (by omega) b8)
      clear b8
      go_wp2
      go_ret
      exact ⟨rfl, HF.out⟩
set_option maxRecDepth 100000 in
set_option maxHeartbeats 4000000 in
theorem near_4_s (_cls o sz : Int) (wd rg : Bool) (c1 o1 sz1 : Int) (wd1 rg1 : Bool) (c2 o2 sz2 : Int) (wd2 rg2 : Bool) (e1 e2 N P : Int) (bb : Bool) (L : List Int) (op dst src off imm off' imm' : Int) (w : World) (hz : SzOk w)
    (HO : Hid (∀ W, SzOk W → Calls Tryd.prog 13 #[.agg #[.int .u8 op, .int .u8 dst, .int .u8 src, .int .i16 off, .int .i32 imm]] W fun e w' => e = .returned (.tuple #[.agg #[.int .i64 4, .int .i64 o, .int .i64 sz, .bool wd, .bool rg], .int .i64 0]) ∧ Below W.heap.size W w'))
    (HR : Hid (∀ W, SzOk W → Calls Tryd.prog 6 #[.agg #[.int .u8 op, .int .u8 dst, .int .u8 src, .int .i16 off, .int .i32 imm]] W (Left2 W L)))
    (HW : Hid (∀ W, SzOk W → Calls Tryd.prog 8 #[.agg #[.int .u8 op, .int .u8 dst, .int .u8 src, .int .i16 off, .int .i32 imm]] W fun e w' => e = .returned (.int .i64 N) ∧ Below W.heap.size W w'))
    (HP : Hid (∀ W, SzOk W → Calls Tryd.prog 10 #[.agg #[.int .u8 op, .int .u8 dst, .int .u8 src, .int .i16 off, .int .i32 imm]] W fun e w' => e = .returned (.int .i64 P) ∧ Below W.heap.size W w'))
    (HJ : Hid (∀ W, SzOk W → Calls Tryd.prog 13 #[.agg #[.int .u8 op, .int .u8 dst, .int .u8 src, .int .i16 off', .int .i32 imm]] W fun e w' => e = .returned (.tuple #[.agg #[.int .i64 4, .int .i64 o, .int .i64 sz, .bool wd, .bool rg], .int .i64 0]) ∧ Below W.heap.size W w'))
    (HK : Hid (∀ W, SzOk W → Calls Tryd.prog 13 #[.agg #[.int .u8 op, .int .u8 dst, .int .u8 src, .int .i16 off, .int .i32 imm']] W fun e w' => e = .returned (.tuple #[.agg #[.int .i64 4, .int .i64 o, .int .i64 sz, .bool wd, .bool rg], .int .i64 0]) ∧ Below W.heap.size W w'))
    (hlen : L.length ≤ 2) (hL : Hid (∀ j, j < L.length → 0 ≤ L.getD j 0 ∧ L.getD j 0 ≤ 10 ∧ (0 < j → L.getD (j - 1) 0 < L.getD j 0))) (n0 : -1 ≤ N) (n1 : N < 10) (p0 : 1 ≤ P) (p1 : P ≤ 2)
    (e_ : True) :
    Calls Tryd.prog 4 #[.agg #[.int .u8 op, .int .u8 dst, .int .u8 src, .int .i16 off, .int .i32 imm], .int .i16 off', .int .i32 imm'] w fun e w' => e = .returned (.bool true) ∧ Below w.heap.size w w' := by
  have HZ := hid hz
  clear hz
  go_enter Tryd.func4, Tryd.ntmps4
  go_wp2_with fail
  refine (HO.out _ (HZ.out.alloc _)).mono ?_
  rintro e w1 ⟨rfl, b1⟩
  have i0 : w1.cell? ⟨w.heap.size, 0, none⟩ = some (.int .u8 op) := cn b1 (by simp)
  have i1 : w1.cell? ⟨w.heap.size, 1, none⟩ = some (.int .u8 dst) := cn b1 (by simp)
  have i2 : w1.cell? ⟨w.heap.size, 2, none⟩ = some (.int .u8 src) := cn b1 (by simp)
  have i3 : w1.cell? ⟨w.heap.size, 3, none⟩ = some (.int .i16 off) := cn b1 (by simp)
  have i4 : w1.cell? ⟨w.heap.size, 4, none⟩ = some (.int .i32 imm) := cn b1 (by simp)
  have X := hid (Bx.next b1 (Bx.next ((Below.refl w.heap.size w).alloc (Nat.le_refl _) _) ⟨HZ.out, Below.refl _ _⟩))
  have q1 : w.heap.size < w1.heap.size := by have := b1.size; simp at this; omega
  clear b1 HO
  go_wp2_with fail
  refine (HR.out _ (X.out.sz.alloc _)).mono ?_
  rintro e w2 ⟨v, rfl, own⟩
  have b2 := own.2
  obtain ⟨q, cap, rfl, hq⟩ := own_ints own
  clear own
  have i0' : w2.cell? ⟨w.heap.size, 0, none⟩ = some (.int .u8 op) := cn b2 (by first | exact i0 | exact cna _ i0)
  have i1' : w2.cell? ⟨w.heap.size, 1, none⟩ = some (.int .u8 dst) := cn b2 (by first | exact i1 | exact cna _ i1)
  have i2' : w2.cell? ⟨w.heap.size, 2, none⟩ = some (.int .u8 src) := cn b2 (by first | exact i2 | exact cna _ i2)
  have i3' : w2.cell? ⟨w.heap.size, 3, none⟩ = some (.int .i16 off) := cn b2 (by first | exact i3 | exact cna _ i3)
  have i4' : w2.cell? ⟨w.heap.size, 4, none⟩ = some (.int .i32 imm) := cn b2 (by first | exact i4 | exact cna _ i4)
  have t0' : w2.cell? ⟨w1.heap.size, 0, none⟩ = some (.int .i64 4) := cn b2 (by simp)
  have t1' : w2.cell? ⟨w1.heap.size, 1, none⟩ = some (.int .i64 o) := cn b2 (by simp)
  have t2' : w2.cell? ⟨w1.heap.size, 2, none⟩ = some (.int .i64 sz) := cn b2 (by simp)
  have t3' : w2.cell? ⟨w1.heap.size, 3, none⟩ = some (.bool wd) := cn b2 (by simp)
  have t4' : w2.cell? ⟨w1.heap.size, 4, none⟩ = some (.bool rg) := cn b2 (by simp)
  clear i0 i1 i2 i3 i4
  have i0 := i0'
  have t0 := t0'
  have i1 := i1'
  have t1 := t1'
  have i2 := i2'
  have t2 := t2'
  have i3 := i3'
  have t3 := t3'
  have i4 := i4'
  have t4 := t4'
  clear i0' i1' i2' i3' i4' t0' t1' t2' t3' t4'
  have X' := hid (Bx.next b2 (Bx.next ((Below.refl w1.heap.size w1).alloc (Nat.le_refl _) _) X.out))
  have q2 : w1.heap.size < w2.heap.size := by have := b2.size; simp at this; omega
  have HQ := hid hq
  clear b2 hq HR X
  go_wp2_with fail
  refine (HW.out _ X'.out.sz).mono ?_
  rintro e w3 ⟨rfl, b3⟩
  have i0' : w3.cell? ⟨w.heap.size, 0, none⟩ = some (.int .u8 op) := cn b3 (by first | exact i0 | exact cna _ i0)
  have i1' : w3.cell? ⟨w.heap.size, 1, none⟩ = some (.int .u8 dst) := cn b3 (by first | exact i1 | exact cna _ i1)
  have i2' : w3.cell? ⟨w.heap.size, 2, none⟩ = some (.int .u8 src) := cn b3 (by first | exact i2 | exact cna _ i2)
  have i3' : w3.cell? ⟨w.heap.size, 3, none⟩ = some (.int .i16 off) := cn b3 (by first | exact i3 | exact cna _ i3)
  have i4' : w3.cell? ⟨w.heap.size, 4, none⟩ = some (.int .i32 imm) := cn b3 (by first | exact i4 | exact cna _ i4)
  have t0' : w3.cell? ⟨w1.heap.size, 0, none⟩ = some (.int .i64 4) := cn b3 (by first | simp; done | exact t0 | exact cna _ t0)
  have t1' : w3.cell? ⟨w1.heap.size, 1, none⟩ = some (.int .i64 o) := cn b3 (by first | simp; done | exact t1 | exact cna _ t1)
  have t2' : w3.cell? ⟨w1.heap.size, 2, none⟩ = some (.int .i64 sz) := cn b3 (by first | simp; done | exact t2 | exact cna _ t2)
  have t3' : w3.cell? ⟨w1.heap.size, 3, none⟩ = some (.bool wd) := cn b3 (by first | simp; done | exact t3 | exact cna _ t3)
  have t4' : w3.cell? ⟨w1.heap.size, 4, none⟩ = some (.bool rg) := cn b3 (by first | simp; done | exact t4 | exact cna _ t4)
  clear i0 i1 i2 i3 i4 t0 t1 t2 t3 t4
  have i0 := i0'
  have t0 := t0'
  have i1 := i1'
  have t1 := t1'
  have i2 := i2'
  have t2 := t2'
  have i3 := i3'
  have t3 := t3'
  have i4 := i4'
  have t4 := t4'
  clear i0' i1' i2' i3' i4' t0' t1' t2' t3' t4'
  have X := hid (Bx.next b3 X'.out)
  clear X'
  have X' := X
  clear X
  have q3 : w2.heap.size ≤ w3.heap.size := b3.size
  have HQ' := hid (HQ.out.below b3)
  clear HQ
  have HQ := HQ'
  clear HQ'
  clear b3 HW
  go_wp2_with fail
  refine (HP.out _ X'.out.sz).mono ?_
  rintro e w4 ⟨rfl, b4⟩
  have i0' : w4.cell? ⟨w.heap.size, 0, none⟩ = some (.int .u8 op) := cn b4 (by first | exact i0 | exact cna _ i0)
  have i1' : w4.cell? ⟨w.heap.size, 1, none⟩ = some (.int .u8 dst) := cn b4 (by first | exact i1 | exact cna _ i1)
  have i2' : w4.cell? ⟨w.heap.size, 2, none⟩ = some (.int .u8 src) := cn b4 (by first | exact i2 | exact cna _ i2)
  have i3' : w4.cell? ⟨w.heap.size, 3, none⟩ = some (.int .i16 off) := cn b4 (by first | exact i3 | exact cna _ i3)
  have i4' : w4.cell? ⟨w.heap.size, 4, none⟩ = some (.int .i32 imm) := cn b4 (by first | exact i4 | exact cna _ i4)
  have t0' : w4.cell? ⟨w1.heap.size, 0, none⟩ = some (.int .i64 4) := cn b4 (by first | simp; done | exact t0 | exact cna _ t0)
  have t1' : w4.cell? ⟨w1.heap.size, 1, none⟩ = some (.int .i64 o) := cn b4 (by first | simp; done | exact t1 | exact cna _ t1)
  have t2' : w4.cell? ⟨w1.heap.size, 2, none⟩ = some (.int .i64 sz) := cn b4 (by first | simp; done | exact t2 | exact cna _ t2)
  have t3' : w4.cell? ⟨w1.heap.size, 3, none⟩ = some (.bool wd) := cn b4 (by first | simp; done | exact t3 | exact cna _ t3)
  have t4' : w4.cell? ⟨w1.heap.size, 4, none⟩ = some (.bool rg) := cn b4 (by first | simp; done | exact t4 | exact cna _ t4)
  clear i0 i1 i2 i3 i4 t0 t1 t2 t3 t4
  have i0 := i0'
  have t0 := t0'
  have i1 := i1'
  have t1 := t1'
  have i2 := i2'
  have t2 := t2'
  have i3 := i3'
  have t3 := t3'
  have i4 := i4'
  have t4 := t4'
  clear i0' i1' i2' i3' i4' t0' t1' t2' t3' t4'
  have X := hid (Bx.next b4 X'.out)
  clear X'
  have X' := X
  clear X
  have q4 : w3.heap.size ≤ w4.heap.size := b4.size
  have HQ' := hid (HQ.out.below b4)
  clear HQ
  have HQ := HQ'
  clear HQ'
  clear b4 HP
  go_wp2
  go_loopw [12] (fun i wr => ∃ k : Int, 0 ≤ k ∧ k ≤ (L.length : Int) ∧ i = .int .i64 k ∧ Hid (Below w4.heap.size w4 wr)) (fun i _ => 3 - (intOf i).toNat)
  case atStart => exact ⟨0, by omega, by omega, rfl, hid (Below.refl _ _)⟩
  case round =>
    obtain ⟨k, hk0, hk, rfl, HB⟩ := hrel
    by_cases hlt : k < (L.length : Int)
    · obtain ⟨hll, hq⟩ := HQ.out
      obtain ⟨b, off0, rfl, hb, hc⟩ := hq.resolve_left (by omega)
      have HC := hid hc
      clear hq hc hll
      have hd : decide (k < (L.length : Int)) = true := by simpa using hlt
      rcases (show k = 0 ∨ k = 1 by omega) with rfl | rfl
      · have r0 : wr.cell? ⟨b, off0, none⟩ = some (.int .i64 (L.getD 0 0)) := (HB.out.cell (p := ⟨b, off0 + 0, none⟩) hb).trans (HC.out 0 (by omega))
        have f0 := hL.out 0 (by omega)
        have g1 : decide (L.getD 0 0 < 0) = false := decide_eq_false (by omega)
        have g2 : decide (10 < L.getD 0 0) = false := decide_eq_false (by omega)
        clear f0
        generalize L.getD 0 0 = z0 at *
        go_wp2
        go_quiet (fail)
        go_wp2
        exact ⟨⟨1, by omega, by omega, by go_num, hid (below_dn HB.out _)⟩, by simp [intOf]⟩
      · have r0 : wr.cell? ⟨b, off0, none⟩ = some (.int .i64 (L.getD 0 0)) := (HB.out.cell (p := ⟨b, off0 + 0, none⟩) hb).trans (HC.out 0 (by omega))
        have r1 : wr.cell? ⟨b, off0 + 1, none⟩ = some (.int .i64 (L.getD 1 0)) := (HB.out.cell (p := ⟨b, off0 + 1, none⟩) hb).trans (HC.out 1 (by omega))
        have f1 := hL.out 1 (by omega)
        have g1 : decide (L.getD 1 0 < 0) = false := decide_eq_false (by omega)
        have g2 : decide (10 < L.getD 1 0) = false := decide_eq_false (by omega)
        have f2 : L.getD 0 0 < L.getD 1 0 := f1.2.2 (by omega)
        have g3 : decide (L.getD 1 0 ≤ L.getD 0 0) = false := decide_eq_false (by omega)
        clear f1 f2
        generalize L.getD 1 0 = z1 at *
        generalize L.getD 0 0 = z0 at *
        go_wp2
        go_quiet (fail)
        go_wp2
        exact ⟨⟨2, by omega, by omega, by go_num, hid (below_dn HB.out _)⟩, by simp [intOf]⟩
    · have hd : decide (k < (L.length : Int)) = false := by simpa using hlt
      clear hlt HQ hL
      have i0' : wr.cell? ⟨w.heap.size, 0, none⟩ = some (.int .u8 op) := cn HB.out i0
      have i1' : wr.cell? ⟨w.heap.size, 1, none⟩ = some (.int .u8 dst) := cn HB.out i1
      have i2' : wr.cell? ⟨w.heap.size, 2, none⟩ = some (.int .u8 src) := cn HB.out i2
      have i3' : wr.cell? ⟨w.heap.size, 3, none⟩ = some (.int .i16 off) := cn HB.out i3
      have i4' : wr.cell? ⟨w.heap.size, 4, none⟩ = some (.int .i32 imm) := cn HB.out i4
      have t0' : wr.cell? ⟨w1.heap.size, 0, none⟩ = some (.int .i64 4) := cn HB.out t0
      have t1' : wr.cell? ⟨w1.heap.size, 1, none⟩ = some (.int .i64 o) := cn HB.out t1
      have t2' : wr.cell? ⟨w1.heap.size, 2, none⟩ = some (.int .i64 sz) := cn HB.out t2
      have t3' : wr.cell? ⟨w1.heap.size, 3, none⟩ = some (.bool wd) := cn HB.out t3
      have t4' : wr.cell? ⟨w1.heap.size, 4, none⟩ = some (.bool rg) := cn HB.out t4
      clear i0 i1 i2 i3 i4 t0 t1 t2 t3 t4
      have X := hid (Bx.next HB.out X'.out)
      clear X'
      have q5 : w4.heap.size ≤ wr.heap.size := HB.out.size
      clear HB
      go_wp2_with fail
      refine (HJ.out _ (X.out.sz.alloc _)).mono ?_
      rintro e w6 ⟨rfl, b6⟩
      have i0 : w6.cell? ⟨w.heap.size, 0, none⟩ = some (.int .u8 op) := cn b6 (cna _ i0')
      have i1 : w6.cell? ⟨w.heap.size, 1, none⟩ = some (.int .u8 dst) := cn b6 (cna _ i1')
      have i2 : w6.cell? ⟨w.heap.size, 2, none⟩ = some (.int .u8 src) := cn b6 (cna _ i2')
      have i3 : w6.cell? ⟨w.heap.size, 3, none⟩ = some (.int .i16 off) := cn b6 (cna _ i3')
      have i4 : w6.cell? ⟨w.heap.size, 4, none⟩ = some (.int .i32 imm) := cn b6 (cna _ i4')
      have t0 : w6.cell? ⟨w1.heap.size, 0, none⟩ = some (.int .i64 4) := cn b6 (cna _ t0')
      have t1 : w6.cell? ⟨w1.heap.size, 1, none⟩ = some (.int .i64 o) := cn b6 (cna _ t1')
      have t2 : w6.cell? ⟨w1.heap.size, 2, none⟩ = some (.int .i64 sz) := cn b6 (cna _ t2')
      have t3 : w6.cell? ⟨w1.heap.size, 3, none⟩ = some (.bool wd) := cn b6 (cna _ t3')
      have t4 : w6.cell? ⟨w1.heap.size, 4, none⟩ = some (.bool rg) := cn b6 (cna _ t4')
      clear i0' i1' i2' i3' i4' t0' t1' t2' t3' t4'
      have Y := hid (Bx.next b6 (Bx.next ((Below.refl wr.heap.size wr).alloc (Nat.le_refl _) _) X.out))
      have q6 : wr.heap.size < w6.heap.size := by have := b6.size; simp at this; omega
      have q7 : w.heap.size < w6.heap.size := by omega
      have q8 : w1.heap.size < w6.heap.size := by omega
      clear b6 X HJ
      go_wp2_with fail
      refine (HK.out _ ((Y.out.sz.alloc _).alloc _)).mono ?_
      rintro e w7 ⟨rfl, b7⟩
      have s0 : w7.cell? ⟨w1.heap.size, 0, none⟩ = some (.int .i64 4) := cn b7 (cna _ (cna _ t0))
      have s1 : w7.cell? ⟨w1.heap.size, 1, none⟩ = some (.int .i64 o) := cn b7 (cna _ (cna _ t1))
      have s2 : w7.cell? ⟨w1.heap.size, 2, none⟩ = some (.int .i64 sz) := cn b7 (cna _ (cna _ t2))
      have s3 : w7.cell? ⟨w1.heap.size, 3, none⟩ = some (.bool wd) := cn b7 (cna _ (cna _ t3))
      have s4 : w7.cell? ⟨w1.heap.size, 4, none⟩ = some (.bool rg) := cn b7 (cna _ (cna _ t4))
      have x0 : w7.cell? ⟨w6.heap.size, 0, none⟩ = some (.int .i64 4) := cn b7 (cna _ (by simp))
      have x1 : w7.cell? ⟨w6.heap.size, 1, none⟩ = some (.int .i64 o) := cn b7 (cna _ (by simp))
      have x2 : w7.cell? ⟨w6.heap.size, 2, none⟩ = some (.int .i64 sz) := cn b7 (cna _ (by simp))
      have x3 : w7.cell? ⟨w6.heap.size, 3, none⟩ = some (.bool wd) := cn b7 (cna _ (by simp))
      have x4 : w7.cell? ⟨w6.heap.size, 4, none⟩ = some (.bool rg) := cn b7 (cna _ (by simp))
      obtain ⟨hc7, hf7⟩ := bcell b7
      have y0 : w7.frozen? ⟨w6.heap.size, 0, none⟩ = false := (hf7 _ _ (by simp; omega)).trans (frz2 w6 _ _ _ 0)
      have y1 : w7.frozen? ⟨w6.heap.size, 1, none⟩ = false := (hf7 _ _ (by simp; omega)).trans (frz2 w6 _ _ _ 1)
      have y2 : w7.frozen? ⟨w6.heap.size, 2, none⟩ = false := (hf7 _ _ (by simp; omega)).trans (frz2 w6 _ _ _ 2)
      have y3 : w7.frozen? ⟨w6.heap.size, 3, none⟩ = false := (hf7 _ _ (by simp; omega)).trans (frz2 w6 _ _ _ 3)
      have y4 : w7.frozen? ⟨w6.heap.size, 4, none⟩ = false := (hf7 _ _ (by simp; omega)).trans (frz2 w6 _ _ _ 4)
      have Z := hid (Bx.next b7 (Bx.next ((Below.refl _ _).alloc (Nat.le_refl _) _) (Bx.next ((Below.refl w6.heap.size w6).alloc (Nat.le_refl _) _) Y.out)))
      have q9 : w6.heap.size < w7.heap.size := by have := b7.size; simp at this; omega
      have qa : w1.heap.size < w7.heap.size := by omega
      have qb : w.heap.size < w7.heap.size := by omega
      clear b7 hc7 hf7 HK i0 i1 i2 i3 i4 t0 t1 t2 t3 t4
      go_wp2_with fail
      refine (wakes_any _ (set5 Z.out.sz (by omega))).mono ?_
      rintro e w8 ⟨rfl, b8⟩
      have HF := hid (below5 Z.out.2 (by omega) b8)
      clear b8
      go_wp2
      go_ret
      exact ⟨rfl, HF.out⟩
set_option maxRecDepth 100000 in
set_option maxHeartbeats 4000000 in
theorem near_4_e (_cls o sz : Int) (wd rg : Bool) (c1 o1 sz1 : Int) (wd1 rg1 : Bool) (c2 o2 sz2 : Int) (wd2 rg2 : Bool) (e1 e2 N P : Int) (bb : Bool) (L : List Int) (op dst src off imm off' imm' : Int) (w : World) (hz : SzOk w)
    (HO : Hid (∀ W, SzOk W → Calls Tryd.prog 13 #[.agg #[.int .u8 op, .int .u8 dst, .int .u8 src, .int .i16 off, .int .i32 imm]] W fun e w' => e = .returned (.tuple #[.agg #[.int .i64 4, .int .i64 o, .int .i64 sz, .bool wd, .bool rg], .int .i64 0]) ∧ Below W.heap.size W w'))
    (HR : Hid (∀ W, SzOk W → Calls Tryd.prog 6 #[.agg #[.int .u8 op, .int .u8 dst, .int .u8 src, .int .i16 off, .int .i32 imm]] W (Left2 W L)))
    (HW : Hid (∀ W, SzOk W → Calls Tryd.prog 8 #[.agg #[.int .u8 op, .int .u8 dst, .int .u8 src, .int .i16 off, .int .i32 imm]] W fun e w' => e = .returned (.int .i64 N) ∧ Below W.heap.size W w'))
    (HP : Hid (∀ W, SzOk W → Calls Tryd.prog 10 #[.agg #[.int .u8 op, .int .u8 dst, .int .u8 src, .int .i16 off, .int .i32 imm]] W fun e w' => e = .returned (.int .i64 P) ∧ Below W.heap.size W w'))
    (HJ : Hid (∀ W, SzOk W → Calls Tryd.prog 13 #[.agg #[.int .u8 op, .int .u8 dst, .int .u8 src, .int .i16 off', .int .i32 imm]] W fun e w' => e = .returned (.tuple #[.agg #[.int .i64 4, .int .i64 o, .int .i64 sz, .bool wd, .bool rg], .int .i64 0]) ∧ Below W.heap.size W w'))
    (HK : Hid (∀ W, SzOk W → Calls Tryd.prog 13 #[.agg #[.int .u8 op, .int .u8 dst, .int .u8 src, .int .i16 off, .int .i32 imm']] W fun e w' => e = .returned (.tuple #[.agg #[.int .i64 c2, .int .i64 o2, .int .i64 sz2, .bool wd2, .bool rg2], .int .i64 e2]) ∧ Below W.heap.size W w'))
    (hlen : L.length ≤ 2) (hL : Hid (∀ j, j < L.length → 0 ≤ L.getD j 0 ∧ L.getD j 0 ≤ 10 ∧ (0 < j → L.getD (j - 1) 0 < L.getD j 0))) (n0 : -1 ≤ N) (n1 : N < 10) (p0 : 1 ≤ P) (p1 : P ≤ 2)
    (he2 : (e2 != 0) = true) :
    Calls Tryd.prog 4 #[.agg #[.int .u8 op, .int .u8 dst, .int .u8 src, .int .i16 off, .int .i32 imm], .int .i16 off', .int .i32 imm'] w fun e w' => e = .returned (.bool true) ∧ Below w.heap.size w w' := by
  have HZ := hid hz
  clear hz
  go_enter Tryd.func4, Tryd.ntmps4
  go_wp2_with fail
  refine (HO.out _ (HZ.out.alloc _)).mono ?_
  rintro e w1 ⟨rfl, b1⟩
  have i0 : w1.cell? ⟨w.heap.size, 0, none⟩ = some (.int .u8 op) := cn b1 (by simp)
  have i1 : w1.cell? ⟨w.heap.size, 1, none⟩ = some (.int .u8 dst) := cn b1 (by simp)
  have i2 : w1.cell? ⟨w.heap.size, 2, none⟩ = some (.int .u8 src) := cn b1 (by simp)
  have i3 : w1.cell? ⟨w.heap.size, 3, none⟩ = some (.int .i16 off) := cn b1 (by simp)
  have i4 : w1.cell? ⟨w.heap.size, 4, none⟩ = some (.int .i32 imm) := cn b1 (by simp)
  have X := hid (Bx.next b1 (Bx.next ((Below.refl w.heap.size w).alloc (Nat.le_refl _) _) ⟨HZ.out, Below.refl _ _⟩))
  have q1 : w.heap.size < w1.heap.size := by have := b1.size; simp at this; omega
  clear b1 HO
  go_wp2_with fail
  refine (HR.out _ (X.out.sz.alloc _)).mono ?_
  rintro e w2 ⟨v, rfl, own⟩
  have b2 := own.2
  obtain ⟨q, cap, rfl, hq⟩ := own_ints own
  clear own
  have i0' : w2.cell? ⟨w.heap.size, 0, none⟩ = some (.int .u8 op) := cn b2 (by first | exact i0 | exact cna _ i0)
  have i1' : w2.cell? ⟨w.heap.size, 1, none⟩ = some (.int .u8 dst) := cn b2 (by first | exact i1 | exact cna _ i1)
  have i2' : w2.cell? ⟨w.heap.size, 2, none⟩ = some (.int .u8 src) := cn b2 (by first | exact i2 | exact cna _ i2)
  have i3' : w2.cell? ⟨w.heap.size, 3, none⟩ = some (.int .i16 off) := cn b2 (by first | exact i3 | exact cna _ i3)
  have i4' : w2.cell? ⟨w.heap.size, 4, none⟩ = some (.int .i32 imm) := cn b2 (by first | exact i4 | exact cna _ i4)
  have t0' : w2.cell? ⟨w1.heap.size, 0, none⟩ = some (.int .i64 4) := cn b2 (by simp)
  have t1' : w2.cell? ⟨w1.heap.size, 1, none⟩ = some (.int .i64 o) := cn b2 (by simp)
  have t2' : w2.cell? ⟨w1.heap.size, 2, none⟩ = some (.int .i64 sz) := cn b2 (by simp)
  have t3' : w2.cell? ⟨w1.heap.size, 3, none⟩ = some (.bool wd) := cn b2 (by simp)
  have t4' : w2.cell? ⟨w1.heap.size, 4, none⟩ = some (.bool rg) := cn b2 (by simp)
  clear i0 i1 i2 i3 i4
  have i0 := i0'
  have t0 := t0'
  have i1 := i1'
  have t1 := t1'
  have i2 := i2'
  have t2 := t2'
  have i3 := i3'
  have t3 := t3'
  have i4 := i4'
  have t4 := t4'
  clear i0' i1' i2' i3' i4' t0' t1' t2' t3' t4'
  have X' := hid (Bx.next b2 (Bx.next ((Below.refl w1.heap.size w1).alloc (Nat.le_refl _) _) X.out))
  have q2 : w1.heap.size < w2.heap.size := by have := b2.size; simp at this; omega
  have HQ := hid hq
  clear b2 hq HR X
  go_wp2_with fail
  refine (HW.out _ X'.out.sz).mono ?_
  rintro e w3 ⟨rfl, b3⟩
  have i0' : w3.cell? ⟨w.heap.size, 0, none⟩ = some (.int .u8 op) := cn b3 (by first | exact i0 | exact cna _ i0)
  have i1' : w3.cell? ⟨w.heap.size, 1, none⟩ = some (.int .u8 dst) := cn b3 (by first | exact i1 | exact cna _ i1)
  have i2' : w3.cell? ⟨w.heap.size, 2, none⟩ = some (.int .u8 src) := cn b3 (by first | exact i2 | exact cna _ i2)
  have i3' : w3.cell? ⟨w.heap.size, 3, none⟩ = some (.int .i16 off) := cn b3 (by first | exact i3 | exact cna _ i3)
  have i4' : w3.cell? ⟨w.heap.size, 4, none⟩ = some (.int .i32 imm) := cn b3 (by first | exact i4 | exact cna _ i4)
  have t0' : w3.cell? ⟨w1.heap.size, 0, none⟩ = some (.int .i64 4) := cn b3 (by first | simp; done | exact t0 | exact cna _ t0)
  have t1' : w3.cell? ⟨w1.heap.size, 1, none⟩ = some (.int .i64 o) := cn b3 (by first | simp; done | exact t1 | exact cna _ t1)
  have t2' : w3.cell? ⟨w1.heap.size, 2, none⟩ = some (.int .i64 sz) := cn b3 (by first | simp; done | exact t2 | exact cna _ t2)
  have t3' : w3.cell? ⟨w1.heap.size, 3, none⟩ = some (.bool wd) := cn b3 (by first | simp; done | exact t3 | exact cna _ t3)
  have t4' : w3.cell? ⟨w1.heap.size, 4, none⟩ = some (.bool rg) := cn b3 (by first | simp; done | exact t4 | exact cna _ t4)
  clear i0 i1 i2 i3 i4 t0 t1 t2 t3 t4
  have i0 := i0'
  have t0 := t0'
  have i1 := i1'
  have t1 := t1'
  have i2 := i2'
  have t2 := t2'
  have i3 := i3'
  have t3 := t3'
  have i4 := i4'
  have t4 := t4'
  clear i0' i1' i2' i3' i4' t0' t1' t2' t3' t4'
  have X := hid (Bx.next b3 X'.out)
  clear X'
  have X' := X
  clear X
  have q3 : w2.heap.size ≤ w3.heap.size := b3.size
  have HQ' := hid (HQ.out.below b3)
  clear HQ
  have HQ := HQ'
  clear HQ'
  clear b3 HW
  go_wp2_with fail
  refine (HP.out _ X'.out.sz).mono ?_
  rintro e w4 ⟨rfl, b4⟩
  have i0' : w4.cell? ⟨w.heap.size, 0, none⟩ = some (.int .u8 op) := cn b4 (by first | exact i0 | exact cna _ i0)
  have i1' : w4.cell? ⟨w.heap.size, 1, none⟩ = some (.int .u8 dst) := cn b4 (by first | exact i1 | exact cna _ i1)
  have i2' : w4.cell? ⟨w.heap.size, 2, none⟩ = some (.int .u8 src) := cn b4 (by first | exact i2 | exact cna _ i2)
  have i3' : w4.cell? ⟨w.heap.size, 3, none⟩ = some (.int .i16 off) := cn b4 (by first | exact i3 | exact cna _ i3)
  have i4' : w4.cell? ⟨w.heap.size, 4, none⟩ = some (.int .i32 imm) := cn b4 (by first | exact i4 | exact cna _ i4)
  have t0' : w4.cell? ⟨w1.heap.size, 0, none⟩ = some (.int .i64 4) := cn b4 (by first | simp; done | exact t0 | exact cna _ t0)
  have t1' : w4.cell? ⟨w1.heap.size, 1, none⟩ = some (.int .i64 o) := cn b4 (by first | simp; done | exact t1 | exact cna _ t1)
  have t2' : w4.cell? ⟨w1.heap.size, 2, none⟩ = some (.int .i64 sz) := cn b4 (by first | simp; done | exact t2 | exact cna _ t2)
  have t3' : w4.cell? ⟨w1.heap.size, 3, none⟩ = some (.bool wd) := cn b4 (by first | simp; done | exact t3 | exact cna _ t3)
  have t4' : w4.cell? ⟨w1.heap.size, 4, none⟩ = some (.bool rg) := cn b4 (by first | simp; done | exact t4 | exact cna _ t4)
  clear i0 i1 i2 i3 i4 t0 t1 t2 t3 t4
  have i0 := i0'
  have t0 := t0'
  have i1 := i1'
  have t1 := t1'
  have i2 := i2'
  have t2 := t2'
  have i3 := i3'
  have t3 := t3'
  have i4 := i4'
  have t4 := t4'
  clear i0' i1' i2' i3' i4' t0' t1' t2' t3' t4'
  have X := hid (Bx.next b4 X'.out)
  clear X'
  have X' := X
  clear X
  have q4 : w3.heap.size ≤ w4.heap.size := b4.size
  have HQ' := hid (HQ.out.below b4)
  clear HQ
  have HQ := HQ'
  clear HQ'
  clear b4 HP
  go_wp2
  go_loopw [12] (fun i wr => ∃ k : Int, 0 ≤ k ∧ k ≤ (L.length : Int) ∧ i = .int .i64 k ∧ Hid (Below w4.heap.size w4 wr)) (fun i _ => 3 - (intOf i).toNat)
  case atStart => exact ⟨0, by omega, by omega, rfl, hid (Below.refl _ _)⟩
  case round =>
    obtain ⟨k, hk0, hk, rfl, HB⟩ := hrel
    by_cases hlt : k < (L.length : Int)
    · obtain ⟨hll, hq⟩ := HQ.out
      obtain ⟨b, off0, rfl, hb, hc⟩ := hq.resolve_left (by omega)
      have HC := hid hc
      clear hq hc hll
      have hd : decide (k < (L.length : Int)) = true := by simpa using hlt
      rcases (show k = 0 ∨ k = 1 by omega) with rfl | rfl
      · have r0 : wr.cell? ⟨b, off0, none⟩ = some (.int .i64 (L.getD 0 0)) := (HB.out.cell (p := ⟨b, off0 + 0, none⟩) hb).trans (HC.out 0 (by omega))
        have f0 := hL.out 0 (by omega)
        have g1 : decide (L.getD 0 0 < 0) = false := decide_eq_false (by omega)
        have g2 : decide (10 < L.getD 0 0) = false := decide_eq_false (by omega)
        clear f0
        generalize L.getD 0 0 = z0 at *
        go_wp2
        go_quiet (fail)
        go_wp2
        exact ⟨⟨1, by omega, by omega, by go_num, hid (below_dn HB.out _)⟩, by simp [intOf]⟩
      · have r0 : wr.cell? ⟨b, off0, none⟩ = some (.int .i64 (L.getD 0 0)) := (HB.out.cell (p := ⟨b, off0 + 0, none⟩) hb).trans (HC.out 0 (by omega))
        have r1 : wr.cell? ⟨b, off0 + 1, none⟩ = some (.int .i64 (L.getD 1 0)) := (HB.out.cell (p := ⟨b, off0 + 1, none⟩) hb).trans (HC.out 1 (by omega))
        have f1 := hL.out 1 (by omega)
        have g1 : decide (L.getD 1 0 < 0) = false := decide_eq_false (by omega)
        have g2 : decide (10 < L.getD 1 0) = false := decide_eq_false (by omega)
        have f2 : L.getD 0 0 < L.getD 1 0 := f1.2.2 (by omega)
        have g3 : decide (L.getD 1 0 ≤ L.getD 0 0) = false := decide_eq_false (by omega)
        clear f1 f2
        generalize L.getD 1 0 = z1 at *
        generalize L.getD 0 0 = z0 at *
        go_wp2
        go_quiet (fail)
        go_wp2
        exact ⟨⟨2, by omega, by omega, by go_num, hid (below_dn HB.out _)⟩, by simp [intOf]⟩
    · have hd : decide (k < (L.length : Int)) = false := by simpa using hlt
      clear hlt HQ hL
      have i0' : wr.cell? ⟨w.heap.size, 0, none⟩ = some (.int .u8 op) := cn HB.out i0
      have i1' : wr.cell? ⟨w.heap.size, 1, none⟩ = some (.int .u8 dst) := cn HB.out i1
      have i2' : wr.cell? ⟨w.heap.size, 2, none⟩ = some (.int .u8 src) := cn HB.out i2
      have i3' : wr.cell? ⟨w.heap.size, 3, none⟩ = some (.int .i16 off) := cn HB.out i3
      have i4' : wr.cell? ⟨w.heap.size, 4, none⟩ = some (.int .i32 imm) := cn HB.out i4
      have t0' : wr.cell? ⟨w1.heap.size, 0, none⟩ = some (.int .i64 4) := cn HB.out t0
      have t1' : wr.cell? ⟨w1.heap.size, 1, none⟩ = some (.int .i64 o) := cn HB.out t1
      have t2' : wr.cell? ⟨w1.heap.size, 2, none⟩ = some (.int .i64 sz) := cn HB.out t2
      have t3' : wr.cell? ⟨w1.heap.size, 3, none⟩ = some (.bool wd) := cn HB.out t3
      have t4' : wr.cell? ⟨w1.heap.size, 4, none⟩ = some (.bool rg) := cn HB.out t4
      clear i0 i1 i2 i3 i4 t0 t1 t2 t3 t4
      have X := hid (Bx.next HB.out X'.out)
      clear X'
      have q5 : w4.heap.size ≤ wr.heap.size := HB.out.size
      clear HB
      go_wp2_with fail
      refine (HJ.out _ (X.out.sz.alloc _)).mono ?_
      rintro e w6 ⟨rfl, b6⟩
      have i0 : w6.cell? ⟨w.heap.size, 0, none⟩ = some (.int .u8 op) := cn b6 (cna _ i0')
      have i1 : w6.cell? ⟨w.heap.size, 1, none⟩ = some (.int .u8 dst) := cn b6 (cna _ i1')
      have i2 : w6.cell? ⟨w.heap.size, 2, none⟩ = some (.int .u8 src) := cn b6 (cna _ i2')
      have i3 : w6.cell? ⟨w.heap.size, 3, none⟩ = some (.int .i16 off) := cn b6 (cna _ i3')
      have i4 : w6.cell? ⟨w.heap.size, 4, none⟩ = some (.int .i32 imm) := cn b6 (cna _ i4')
      have t0 : w6.cell? ⟨w1.heap.size, 0, none⟩ = some (.int .i64 4) := cn b6 (cna _ t0')
      have t1 : w6.cell? ⟨w1.heap.size, 1, none⟩ = some (.int .i64 o) := cn b6 (cna _ t1')
      have t2 : w6.cell? ⟨w1.heap.size, 2, none⟩ = some (.int .i64 sz) := cn b6 (cna _ t2')
      have t3 : w6.cell? ⟨w1.heap.size, 3, none⟩ = some (.bool wd) := cn b6 (cna _ t3')
      have t4 : w6.cell? ⟨w1.heap.size, 4, none⟩ = some (.bool rg) := cn b6 (cna _ t4')
      clear i0' i1' i2' i3' i4' t0' t1' t2' t3' t4'
      have Y := hid (Bx.next b6 (Bx.next ((Below.refl wr.heap.size wr).alloc (Nat.le_refl _) _) X.out))
      have q6 : wr.heap.size < w6.heap.size := by have := b6.size; simp at this; omega
      have q7 : w.heap.size < w6.heap.size := by omega
      have q8 : w1.heap.size < w6.heap.size := by omega
      clear b6 X HJ
      go_wp2_with fail
      refine (HK.out _ ((Y.out.sz.alloc _).alloc _)).mono ?_
      rintro e w7 ⟨rfl, b7⟩
      have s0 : w7.cell? ⟨w1.heap.size, 0, none⟩ = some (.int .i64 4) := cn b7 (cna _ (cna _ t0))
      have s1 : w7.cell? ⟨w1.heap.size, 1, none⟩ = some (.int .i64 o) := cn b7 (cna _ (cna _ t1))
      have s2 : w7.cell? ⟨w1.heap.size, 2, none⟩ = some (.int .i64 sz) := cn b7 (cna _ (cna _ t2))
      have s3 : w7.cell? ⟨w1.heap.size, 3, none⟩ = some (.bool wd) := cn b7 (cna _ (cna _ t3))
      have s4 : w7.cell? ⟨w1.heap.size, 4, none⟩ = some (.bool rg) := cn b7 (cna _ (cna _ t4))
      have x0 : w7.cell? ⟨w6.heap.size, 0, none⟩ = some (.int .i64 4) := cn b7 (cna _ (by simp))
      have x1 : w7.cell? ⟨w6.heap.size, 1, none⟩ = some (.int .i64 o) := cn b7 (cna _ (by simp))
      have x2 : w7.cell? ⟨w6.heap.size, 2, none⟩ = some (.int .i64 sz) := cn b7 (cna _ (by simp))
      have x3 : w7.cell? ⟨w6.heap.size, 3, none⟩ = some (.bool wd) := cn b7 (cna _ (by simp))
      have x4 : w7.cell? ⟨w6.heap.size, 4, none⟩ = some (.bool rg) := cn b7 (cna _ (by simp))
      obtain ⟨hc7, hf7⟩ := bcell b7
      have y0 : w7.frozen? ⟨w6.heap.size, 0, none⟩ = false := (hf7 _ _ (by simp; omega)).trans (frz2 w6 _ _ _ 0)
      have y1 : w7.frozen? ⟨w6.heap.size, 1, none⟩ = false := (hf7 _ _ (by simp; omega)).trans (frz2 w6 _ _ _ 1)
      have y2 : w7.frozen? ⟨w6.heap.size, 2, none⟩ = false := (hf7 _ _ (by simp; omega)).trans (frz2 w6 _ _ _ 2)
      have y3 : w7.frozen? ⟨w6.heap.size, 3, none⟩ = false := (hf7 _ _ (by simp; omega)).trans (frz2 w6 _ _ _ 3)
      have y4 : w7.frozen? ⟨w6.heap.size, 4, none⟩ = false := (hf7 _ _ (by simp; omega)).trans (frz2 w6 _ _ _ 4)
      have Z := hid (Bx.next b7 (Bx.next ((Below.refl _ _).alloc (Nat.le_refl _) _) (Bx.next ((Below.refl w6.heap.size w6).alloc (Nat.le_refl _) _) Y.out)))
      have q9 : w6.heap.size < w7.heap.size := by have := b7.size; simp at this; omega
      have qa : w1.heap.size < w7.heap.size := by omega
      have qb : w.heap.size < w7.heap.size := by omega
      clear b7 hc7 hf7 HK i0 i1 i2 i3 i4 t0 t1 t2 t3 t4
      go_wp2_with fail
      refine (wakes_any _ (set5 Z.out.sz (by omega))).mono ?_
      rintro e w8 ⟨rfl, b8⟩
      have HF := hid (below5 Z.out.2 (by omega) b8)
      clear b8
      go_wp2
      go_ret
      exact ⟨rfl, HF.out⟩
end Go.Proofs.YtkapbeipjjcalaaDoor
