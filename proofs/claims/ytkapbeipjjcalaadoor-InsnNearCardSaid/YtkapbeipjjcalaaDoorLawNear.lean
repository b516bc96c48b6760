/-
  The walk of law InsnNear: the registers that an instruction reads and writes lie in their bounds and in order, and what it doesn't say must be 0. The table of sizes is as start-up lays it (the card ties it); no other condition.
-/
import Derived.Test.YtkapbeipjjcalaaDoorLawNearA
import Derived.Test.YtkapbeipjjcalaaDoorLawNearB
import Derived.Test.YtkapbeipjjcalaaDoorLawNearC
import Derived.Test.YtkapbeipjjcalaaDoorLawNearD
namespace Go.Proofs.YtkapbeipjjcalaaDoor
set_option linter.unusedSimpArgs false
set_option linter.unusedVariables false
open Go.ChangeShapes Go.WideShapes Go.ChangeAt Go.RowKit Go.Joins Go.Deep

set_option maxRecDepth 100000 in
set_option maxHeartbeats 4000000 in
theorem near_no_walk (E op dst src off imm off' imm' : Int) (w : World) (hz : SzOk w)
    (HO : Hid (∀ W, SzOk W → Calls Tryd.prog 13 #[.agg #[.int .u8 op, .int .u8 dst, .int .u8 src, .int .i16 off, .int .i32 imm]] W fun e w' => e = .returned (.tuple #[.agg #[.int .i64 0, .int .i64 0, .int .i64 0, .bool false, .bool false], .int .i64 E]) ∧ Below W.heap.size W w'))
    (HR : Hid (∀ W, SzOk W → Calls Tryd.prog 6 #[.agg #[.int .u8 op, .int .u8 dst, .int .u8 src, .int .i16 off, .int .i32 imm]] W (Left2 W [])))
    (HW : Hid (∀ W, SzOk W → Calls Tryd.prog 8 #[.agg #[.int .u8 op, .int .u8 dst, .int .u8 src, .int .i16 off, .int .i32 imm]] W fun e w' => e = .returned (.int .i64 (-1)) ∧ Below W.heap.size W w'))
    (HP : Hid (∀ W, SzOk W → Calls Tryd.prog 10 #[.agg #[.int .u8 op, .int .u8 dst, .int .u8 src, .int .i16 off, .int .i32 imm]] W fun e w' => e = .returned (.int .i64 0) ∧ Below W.heap.size W w'))
    (he : (E != 0) = true) :
    Calls Tryd.prog 4 #[.agg #[.int .u8 op, .int .u8 dst, .int .u8 src, .int .i16 off, .int .i32 imm], .int .i16 off', .int .i32 imm'] w fun e w' => e = .returned (.bool true) ∧ Below w.heap.size w w' := by
  have HZ := hid hz
  clear hz
  go_enter Tryd.func4, Tryd.ntmps4
  go_wp2_with fail
  refine (HO.out _ (HZ.out.alloc _)).mono ?_
  rintro e w1 ⟨rfl, b1⟩
  have i0 : w1.cell? ⟨w.heap.size, 0, none⟩ = some (.int .u8 op) := cn b1 (by simp)
  have i1 : w1.cell? ⟨w.heap.size, 1, none⟩ = some (.int .u8 dst) := cn b1 (by simp)
  have i2 : w1.cell? ⟨w.heap.size, 2, none⟩ = some (.int .u8 src) := cn b1 (by simp)
  have i3 : w1.cell? ⟨w.heap.size, 3, none⟩ = some (.int .i16 off) := cn b1 (by simp)
  have i4 : w1.cell? ⟨w.heap.size, 4, none⟩ = some (.int .i32 imm) := cn b1 (by simp)
  have X := hid (Bx.next b1 (Bx.next ((Below.refl w.heap.size w).alloc (Nat.le_refl _) _) ⟨HZ.out, Below.refl _ _⟩))
  have q1 : w.heap.size < w1.heap.size := by have := b1.size; simp at this; omega
  clear b1 HO
  go_wp2_with fail
  refine (HR.out _ (X.out.sz.alloc _)).mono ?_
  rintro e w2 ⟨v, rfl, own⟩
  have b2 := own.2
  obtain ⟨q, cap, rfl, hq⟩ := own_ints own
  clear own hq
  have i0' : w2.cell? ⟨w.heap.size, 0, none⟩ = some (.int .u8 op) := cn b2 (by first | exact i0 | exact cna _ i0)
  have i1' : w2.cell? ⟨w.heap.size, 1, none⟩ = some (.int .u8 dst) := cn b2 (by first | exact i1 | exact cna _ i1)
  have i2' : w2.cell? ⟨w.heap.size, 2, none⟩ = some (.int .u8 src) := cn b2 (by first | exact i2 | exact cna _ i2)
  have i3' : w2.cell? ⟨w.heap.size, 3, none⟩ = some (.int .i16 off) := cn b2 (by first | exact i3 | exact cna _ i3)
  have i4' : w2.cell? ⟨w.heap.size, 4, none⟩ = some (.int .i32 imm) := cn b2 (by first | exact i4 | exact cna _ i4)
  have t0' : w2.cell? ⟨w1.heap.size, 0, none⟩ = some (.int .i64 0) := cn b2 (by simp)
  have t1' : w2.cell? ⟨w1.heap.size, 1, none⟩ = some (.int .i64 0) := cn b2 (by simp)
  have t2' : w2.cell? ⟨w1.heap.size, 2, none⟩ = some (.int .i64 0) := cn b2 (by simp)
  have t3' : w2.cell? ⟨w1.heap.size, 3, none⟩ = some (.bool false) := cn b2 (by simp)
  have t4' : w2.cell? ⟨w1.heap.size, 4, none⟩ = some (.bool false) := cn b2 (by simp)
  clear i0 i1 i2 i3 i4
  have i0 := i0'
  have t0 := t0'
  have i1 := i1'
  have t1 := t1'
  have i2 := i2'
  have t2 := t2'
  have i3 := i3'
  have t3 := t3'
  have i4 := i4'
  have t4 := t4'
  clear i0' i1' i2' i3' i4' t0' t1' t2' t3' t4'
  have X2 := hid (Bx.next b2 (Bx.next ((Below.refl w1.heap.size w1).alloc (Nat.le_refl _) _) X.out))
  have q2 : w1.heap.size < w2.heap.size := by have := b2.size; simp at this; omega
  clear b2 HR X
  go_wp2_with fail
  refine (HW.out _ X2.out.sz).mono ?_
  rintro e w3 ⟨rfl, b3⟩
  have i0' : w3.cell? ⟨w.heap.size, 0, none⟩ = some (.int .u8 op) := cn b3 (by first | exact i0 | exact cna _ i0)
  have i1' : w3.cell? ⟨w.heap.size, 1, none⟩ = some (.int .u8 dst) := cn b3 (by first | exact i1 | exact cna _ i1)
  have i2' : w3.cell? ⟨w.heap.size, 2, none⟩ = some (.int .u8 src) := cn b3 (by first | exact i2 | exact cna _ i2)
  have i3' : w3.cell? ⟨w.heap.size, 3, none⟩ = some (.int .i16 off) := cn b3 (by first | exact i3 | exact cna _ i3)
  have i4' : w3.cell? ⟨w.heap.size, 4, none⟩ = some (.int .i32 imm) := cn b3 (by first | exact i4 | exact cna _ i4)
  have t0' : w3.cell? ⟨w1.heap.size, 0, none⟩ = some (.int .i64 0) := cn b3 (by exact t0)
  have t1' : w3.cell? ⟨w1.heap.size, 1, none⟩ = some (.int .i64 0) := cn b3 (by exact t1)
  have t2' : w3.cell? ⟨w1.heap.size, 2, none⟩ = some (.int .i64 0) := cn b3 (by exact t2)
  have t3' : w3.cell? ⟨w1.heap.size, 3, none⟩ = some (.bool false) := cn b3 (by exact t3)
  have t4' : w3.cell? ⟨w1.heap.size, 4, none⟩ = some (.bool false) := cn b3 (by exact t4)
  clear i0 i1 i2 i3 i4 t0 t1 t2 t3 t4
  have i0 := i0'
  have t0 := t0'
  have i1 := i1'
  have t1 := t1'
  have i2 := i2'
  have t2 := t2'
  have i3 := i3'
  have t3 := t3'
  have i4 := i4'
  have t4 := t4'
  clear i0' i1' i2' i3' i4' t0' t1' t2' t3' t4'
  have X3 := hid (Bx.next b3 X2.out)
  clear b3 X2 HW
  go_wp2_with fail
  refine (HP.out _ X3.out.sz).mono ?_
  rintro e w4 ⟨rfl, b4⟩
  have i0' : w4.cell? ⟨w.heap.size, 0, none⟩ = some (.int .u8 op) := cn b4 (by first | exact i0 | exact cna _ i0)
  have i1' : w4.cell? ⟨w.heap.size, 1, none⟩ = some (.int .u8 dst) := cn b4 (by first | exact i1 | exact cna _ i1)
  have i2' : w4.cell? ⟨w.heap.size, 2, none⟩ = some (.int .u8 src) := cn b4 (by first | exact i2 | exact cna _ i2)
  have i3' : w4.cell? ⟨w.heap.size, 3, none⟩ = some (.int .i16 off) := cn b4 (by first | exact i3 | exact cna _ i3)
  have i4' : w4.cell? ⟨w.heap.size, 4, none⟩ = some (.int .i32 imm) := cn b4 (by first | exact i4 | exact cna _ i4)
  have t0' : w4.cell? ⟨w1.heap.size, 0, none⟩ = some (.int .i64 0) := cn b4 (by exact t0)
  have t1' : w4.cell? ⟨w1.heap.size, 1, none⟩ = some (.int .i64 0) := cn b4 (by exact t1)
  have t2' : w4.cell? ⟨w1.heap.size, 2, none⟩ = some (.int .i64 0) := cn b4 (by exact t2)
  have t3' : w4.cell? ⟨w1.heap.size, 3, none⟩ = some (.bool false) := cn b4 (by exact t3)
  have t4' : w4.cell? ⟨w1.heap.size, 4, none⟩ = some (.bool false) := cn b4 (by exact t4)
  clear i0 i1 i2 i3 i4 t0 t1 t2 t3 t4
  have i0 := i0'
  have t0 := t0'
  have i1 := i1'
  have t1 := t1'
  have i2 := i2'
  have t2 := t2'
  have i3 := i3'
  have t3 := t3'
  have i4 := i4'
  have t4 := t4'
  clear i0' i1' i2' i3' i4' t0' t1' t2' t3' t4'
  have X4 := hid (Bx.next b4 X3.out)
  clear b4 X3 HP
  go_wp2_with fail
  refine (wakes_any _ X4.out.sz).mono ?_
  rintro e w5 ⟨rfl, b5⟩
  have X5 := hid (Bx.next b5 X4.out)
  clear b5
  go_wp2
  go_ret
  exact ⟨rfl, X5.out.2⟩

set_option maxHeartbeats 1000000 in
theorem insnNear_walk (op dst src off imm off' imm' : Int) (h0 : 0 ≤ op) (h1 : op < 256) (d0 : 0 ≤ dst) (d1 : dst < 256) (s0 : 0 ≤ src) (s1 : src < 256) (o0 : -32768 ≤ off) (o1 : off < 32768) (m0 : -2147483648 ≤ imm) (m1 : imm < 2147483648) (p0 : -32768 ≤ off') (p1 : off' < 32768) (r0' : -2147483648 ≤ imm') (r1' : imm' < 2147483648) (w : World) (hz : SzOk w) :
    Calls Tryd.prog 4 #[.agg #[.int .u8 op, .int .u8 dst, .int .u8 src, .int .i16 off, .int .i32 imm], .int .i16 off', .int .i32 imm'] w fun e w' => e = .returned (.bool true) ∧ Below w.heap.size w w' := by
  have HR := hid fun W h => ureads op dst src off imm W h0 h1 d0 d1 s0 s1 o0 o1 m0 m1 h
  have HW := hid fun W h => uwrites op dst src off imm W h0 h1 d0 d1 s0 s1 o0 o1 m0 m1 h
  have HP := hid fun W h => uplaces op dst src off imm W h0 h1 d0 d1 s0 s1 o0 o1 m0 m1 h
  by_cases h : uE op dst src off imm = 0
  · have hat := hid (uL_at op dst src off imm h0 h1 d0 s0 h)
    have hlen := uL_len op dst src off imm
    obtain ⟨n0, n1⟩ := near_w op dst src off imm d0 h
    obtain ⟨k0, k1⟩ := near_p op dst src off imm h
    obtain ⟨y1, y2⟩ := near_off op dst src off imm off' h0 h1 h
    have y3 := fun h2 => near_imm op dst src off imm imm' h0 h1 h h2
    have HO := hid fun W hz => of_is op dst src off imm (uT op dst src off imm) 0 rfl h W h0 h1 d0 d1 s0 s1 o0 o1 m0 m1 hz
    have HJ := hid fun W hz => of_is op dst src off' imm (uT op dst src off' imm) (uE op dst src off' imm) rfl rfl W h0 h1 d0 d1 s0 s1 p0 p1 m0 m1 hz
    have HK := hid fun W hz => of_is op dst src off imm' (uT op dst src off imm') (uE op dst src off imm') rfl rfl W h0 h1 d0 d1 s0 s1 o0 o1 r0' r1' hz
    clear h
    generalize uL op dst src off imm = L at *
    generalize uW op dst src off imm = N at *
    generalize uP op dst src off imm = P at *
    generalize uT op dst src off imm = T at *
    generalize uT op dst src off' imm = T1 at *
    generalize uE op dst src off' imm = e1 at *
    generalize uT op dst src off imm' = T2 at *
    generalize uE op dst src off imm' = e2 at *
    obtain ⟨cls, o, sz, wd, rg, z1, z2, z3, z4⟩ := T
    by_cases hc : offCls cls = true
    · obtain ⟨rfl, rfl⟩ := y1 hc
      have hcs : cls = 3 ∨ cls = 4 ∨ cls = 5 ∨ cls = 6 ∨ cls = 7 := by simpa [offCls, or_assoc] using hc
      by_cases he : e2 = 0
      · subst he
        have h2 : cls ≠ 2 := by omega
        obtain rfl := y3 h2 rfl
        rcases hcs with rfl | rfl | rfl | rfl | rfl
        · exact near_3_s 0 o sz wd rg 0 0 0 false false 0 0 0 false false 0 0 N P false L op dst src off imm off' imm' w hz HO HR HW HP HJ HK hlen hat n0 n1 k0 k1 trivial
        · exact near_4_s 0 o sz wd rg 0 0 0 false false 0 0 0 false false 0 0 N P false L op dst src off imm off' imm' w hz HO HR HW HP HJ HK hlen hat n0 n1 k0 k1 trivial
        · exact near_5_s 0 o sz wd rg 0 0 0 false false 0 0 0 false false 0 0 N P false L op dst src off imm off' imm' w hz HO HR HW HP HJ HK hlen hat n0 n1 k0 k1 trivial
        · exact near_6_s 0 o sz wd rg 0 0 0 false false 0 0 0 false false 0 0 N P false L op dst src off imm off' imm' w hz HO HR HW HP HJ HK hlen hat n0 n1 k0 k1 trivial
        · exact near_7_s 0 o sz wd rg 0 0 0 false false 0 0 0 false false 0 0 N P false L op dst src off imm off' imm' w hz HO HR HW HP HJ HK hlen hat n0 n1 k0 k1 trivial
      · have he2 : (e2 != 0) = true := by simpa using he
        rcases hcs with rfl | rfl | rfl | rfl | rfl
        · exact near_3_e 0 o sz wd rg 0 0 0 false false T2.cls T2.op T2.size T2.wide T2.reg 0 e2 N P false L op dst src off imm off' imm' w hz HO HR HW HP HJ HK hlen hat n0 n1 k0 k1 he2
        · exact near_4_e 0 o sz wd rg 0 0 0 false false T2.cls T2.op T2.size T2.wide T2.reg 0 e2 N P false L op dst src off imm off' imm' w hz HO HR HW HP HJ HK hlen hat n0 n1 k0 k1 he2
        · exact near_5_e 0 o sz wd rg 0 0 0 false false T2.cls T2.op T2.size T2.wide T2.reg 0 e2 N P false L op dst src off imm off' imm' w hz HO HR HW HP HJ HK hlen hat n0 n1 k0 k1 he2
        · exact near_6_e 0 o sz wd rg 0 0 0 false false T2.cls T2.op T2.size T2.wide T2.reg 0 e2 N P false L op dst src off imm off' imm' w hz HO HR HW HP HJ HK hlen hat n0 n1 k0 k1 he2
        · exact near_7_e 0 o sz wd rg 0 0 0 false false T2.cls T2.op T2.size T2.wide T2.reg 0 e2 N P false L op dst src off imm off' imm' w hz HO HR HW HP HJ HK hlen hat n0 n1 k0 k1 he2
    · have hc' : offCls cls = false := by simpa using hc
      have y := y2 hc'
      have hcs : (cls ≠ 3 ∧ cls ≠ 4 ∧ cls ≠ 5 ∧ cls ≠ 6) ∧ cls ≠ 7 := by simpa [offCls, and_assoc] using hc'
      have f3 : (cls == 3) = false := by simpa using hcs.1.1
      have f4 : (cls == 4) = false := by simpa using hcs.1.2.1
      have f5 : (cls == 5) = false := by simpa using hcs.1.2.2.1
      have f6 : (cls == 6) = false := by simpa using hcs.1.2.2.2
      have f7 : (cls == 7) = false := by simpa using hcs.2
      have g1 : (e1 == 0) = (e1 == 0) := rfl
      have g2 : (off' == 0) = (e1 == 0) := by
        by_cases hh : e1 = 0
        · have hh2 := y.1 hh
          rw [hh, hh2]
        · have hh2 : ¬ off' = 0 := fun x => hh (y.2 x)
          have u1 : (e1 == 0) = false := by simpa using hh
          have u2 : (off' == 0) = false := by simpa using hh2
          rw [u1, u2]
      by_cases he : e2 = 0
      · subst he
        by_cases h2 : cls = 2
        · subst h2
          exact near_2 0 o sz wd rg T1.cls T1.op T1.size T1.wide T1.reg T2.cls T2.op T2.size T2.wide T2.reg e1 0 N P (e1 == 0) L op dst src off imm off' imm' w hz HO HR HW HP HJ HK hlen hat n0 n1 k0 k1 g1 g2
        · obtain rfl := y3 h2 rfl
          have f2 : (cls == 2) = false := by simpa using h2
          exact near_n_s cls o sz wd rg T1.cls T1.op T1.size T1.wide T1.reg 0 0 0 false false e1 0 N P (e1 == 0) L op dst src off imm off' imm' w hz HO HR HW HP HJ HK hlen hat n0 n1 k0 k1 f3 f4 f5 f6 f7 g1 g2 f2
      · have he2 : (e2 != 0) = true := by simpa using he
        exact near_n_e cls o sz wd rg T1.cls T1.op T1.size T1.wide T1.reg T2.cls T2.op T2.size T2.wide T2.reg e1 e2 N P (e1 == 0) L op dst src off imm off' imm' w hz HO HR HW HP HJ HK hlen hat n0 n1 k0 k1 f3 f4 f5 f6 f7 g1 g2 he2
  · obtain ⟨eT, eL, eW, eP⟩ := near_no op dst src off imm h
    have HO := hid fun W hz => of_is op dst src off imm (uT op dst src off imm) (uE op dst src off imm) rfl rfl W h0 h1 d0 d1 s0 s1 o0 o1 m0 m1 hz
    rw [eT] at HO
    rw [eL] at HR
    rw [eW] at HW
    rw [eP] at HP
    exact near_no_walk (uE op dst src off imm) op dst src off imm off' imm' w hz HO HR HW HP (by simpa using h)
end Go.Proofs.YtkapbeipjjcalaaDoor
