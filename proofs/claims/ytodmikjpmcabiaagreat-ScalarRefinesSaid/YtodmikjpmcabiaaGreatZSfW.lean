import Derived.Test.YtodmikjpmcabiaaGreatZSfR
import Derived.Test.YtodmikjpmcabiaaGreatZScR
import Derived.Test.YtodmikjpmcabiaaGreatZScW
namespace Go.Proofs.YtodmikjpmcabiaaGreat
set_option linter.unusedSimpArgs false
set_option linter.unusedVariables false
set_option maxRecDepth 100000
set_option maxRecDepth 100000
open Go.ChangeShapes Go.WideShapes Go.ChangeAt Go.RowKit

theorem neqR_sc (x y : Sc) (W : World) : (binOp .neq 28 (sv x) (sv y)).run Tryz.prog W = .ok (.bool (!(x == y))) W := by
  obtain ⟨⟨a, b⟩, a2, b2⟩ := x
  obtain ⟨⟨c, d⟩, c2, d2⟩ := y
  unfold sv
  have e : ((((a, b), (a2, b2)) : Sc) == ((c, d), (c2, d2))) = ((a == c) && (b == d) && ((a2 == c2) && (b2 == d2))) := rfl
  rw [e]
  go_simp
  by_cases h1 : a = c <;> by_cases h2 : b = d <;> by_cases h3 : a2 = c2 <;> by_cases h4 : b2 = d2 <;> simp [h1, h2, h3, h4]
theorem neqR_self (x : Sc) (W : World) : (binOp .neq 28 (sv x) (sv x)).run Tryz.prog W = .ok (.bool false) W := by rw [neqR_sc]; simp
set_option maxHeartbeats 16000000 in
theorem refines_walk (op : Int) (c : Bool) (a b : Sc) (hol : Bool) (w : World) : Calls Tryz.prog 5 #[sumV op c a b, .bool hol] w fun e w' => e = .returned (.bool true) ∧ Below w.heap.size w w' := by
  have X1 := hid fun W => each_any op c a b W
  have XC := hid fun (o : Int) (d : Bool) (W : World) => cRefine_any o d a b hol W
  have XD := hid fun (o : Int) (d : Bool) (W : World) => rRefine_any o d a b hol W
  have X3 := hid fun W => awake_true W
  unfold sumV at X1 ⊢
  go_enter Tryz.func5, Tryz.ntmps5
  go_wp2_with fail
  have JM : SmC (w.alloc (.cells #[.int .i64 op, .bool c, .int .u64 (ub a.1.1), .int .u64 (ub a.1.2), .int .u64 (ub a.2.1), .int .u64 (ub a.2.2), .int .u64 (ub b.1.1), .int .u64 (ub b.1.2), .int .u64 (ub b.2.1), .int .u64 (ub b.2.2)] 49)) (w.heap.size) op c a b := (SmC.new rfl)
  have B : Below w.heap.size w (w.alloc (.cells #[.int .i64 op, .bool c, .int .u64 (ub a.1.1), .int .u64 (ub a.1.2), .int .u64 (ub a.2.1), .int .u64 (ub a.2.2), .int .u64 (ub b.1.1), .int .u64 (ub b.1.2), .int .u64 (ub b.2.1), .int .u64 (ub b.2.2)] 49)) := (bel_alloc (Below.refl _ _))
  generalize (w.alloc (.cells #[.int .i64 op, .bool c, .int .u64 (ub a.1.1), .int .u64 (ub a.1.2), .int .u64 (ub a.2.1), .int .u64 (ub a.2.2), .int .u64 (ub b.1.1), .int .u64 (ub b.1.2), .int .u64 (ub b.2.1), .int .u64 (ub b.2.2)] 49)) = w00 at *
  have JM0 := JM.c0
  have JM1 := JM.c1
  have JM2 := JM.c2
  have JM3 := JM.c3
  have JM4 := JM.c4
  have JM5 := JM.c5
  have JM6 := JM.c6
  have JM7 := JM.c7
  have JM8 := JM.c8
  have JM9 := JM.c9
  have JMl := JM.lt
  have lb := B.size
  go_wp2_with fail
  clear JM0 JM1 JM2 JM3 JM4 JM5 JM6 JM7 JM8 JM9 JMl lb
  refine (X1.out _).mono ?_
  intro e w1 hE
  obtain ⟨g, cap, rfl, z, hg, HS⟩ := each_form hE
  clear hE
  have B1 := below_next B z
  clear JM B
  have HS0 := hid HS
  clear HS z
  go_wp2_with fail
  go_loopw [16] (fun i wr => ∃ k : Nat, k ≤ 29 ∧ i = .int .i64 k ∧ Hid (Below w1.heap.size w1 wr)) (fun i _ => 29 - (intOf i).toNat)
  case atStart => exact ⟨0, by omega, rfl, hid (Below.refl _ _)⟩
  case round =>
    obtain ⟨k, hk, rfl, HB⟩ := hrel
    obtain ⟨wo, rfl⟩ : ∃ wo : World, wo = wr := ⟨_, rfl⟩
    by_cases hlt : k < 29
    · have hk29 : (k : Int) < 29 := by omega
      obtain ⟨o, d, hA⟩ := HS0.out k hlt
      have HA := hid (hA.below HB.out hg)
      clear hA
      have hgo : g < wo.heap.size := Nat.lt_of_lt_of_le hg HB.out.size
      have r0 : wo.cell? ⟨g, k * 10, none⟩ = some (.int .i64 o) := HA.out 0 _ rfl
      have r1 : wo.cell? ⟨g, k * 10 + 1, none⟩ = some (.bool d) := HA.out 1 _ rfl
      have r2 : wo.cell? ⟨g, k * 10 + 2, none⟩ = some (.int .u64 (ub a.1.1)) := HA.out 2 _ rfl
      have r3 : wo.cell? ⟨g, k * 10 + 3, none⟩ = some (.int .u64 (ub a.1.2)) := HA.out 3 _ rfl
      have r4 : wo.cell? ⟨g, k * 10 + 4, none⟩ = some (.int .u64 (ub a.2.1)) := HA.out 4 _ rfl
      have r5 : wo.cell? ⟨g, k * 10 + 5, none⟩ = some (.int .u64 (ub a.2.2)) := HA.out 5 _ rfl
      have r6 : wo.cell? ⟨g, k * 10 + 6, none⟩ = some (.int .u64 (ub b.1.1)) := HA.out 6 _ rfl
      have r7 : wo.cell? ⟨g, k * 10 + 7, none⟩ = some (.int .u64 (ub b.1.2)) := HA.out 7 _ rfl
      have r8 : wo.cell? ⟨g, k * 10 + 8, none⟩ = some (.int .u64 (ub b.2.1)) := HA.out 8 _ rfl
      have r9 : wo.cell? ⟨g, k * 10 + 9, none⟩ = some (.int .u64 (ub b.2.2)) := HA.out 9 _ rfl
      have XCo := XC.out o d
      have XDo := XD.out o d
      generalize refT o d a b hol = R at XCo XDo
      obtain ⟨R1, R2, R3⟩ := R
      have N1 := hid (neqR_self R1)
      have N2 := hid (neqR_self R2)
      unfold tri at XCo XDo
      unfold sv at XCo XDo N1 N2
      dsimp only at XCo XDo N1 N2
      replace XCo := hid XCo
      replace XDo := hid XDo
      go_wp2_with fail
      refine (XCo.out _).mono ?_
      rintro e w2 ⟨rfl, z⟩
      clear r0 r1 r2 r3 r4 r5 r6 r7 r8 r9
      have J : SmC w2 wo.heap.size o d a b := (SmC.new rfl).below z
      have B2 : Below w1.heap.size w1 w2 := below_next (bel_alloc HB.out) z
      clear z HA HB
      have j0 := J.c0
      have j1 := J.c1
      have j2 := J.c2
      have j3 := J.c3
      have j4 := J.c4
      have j5 := J.c5
      have j6 := J.c6
      have j7 := J.c7
      have j8 := J.c8
      have j9 := J.c9
      have jl := J.lt
      clear J
      go_wp2_with fail
      refine (XDo.out _).mono ?_
      rintro e w3 ⟨rfl, z⟩
      have JA : SC w3 w2.heap.size R1 := ((SC.new (x := R1) rfl).alloc _).below z
      have JB : SC w3 (w2.heap.size + 1) R2 := (SC.new (x := R2) (by simp)).below z
      have B3 := hid (bel_alloc (o := (.cells #[.int .u64 (ub R2.1.1), .int .u64 (ub R2.1.2), .int .u64 (ub R2.2.1), .int .u64 (ub R2.2.2)] 28)) (bel_alloc (o := (.cells #[.int .u64 (ub R1.1.1), .int .u64 (ub R1.1.2), .int .u64 (ub R1.2.1), .int .u64 (ub R1.2.2)] 28)) (below_next (bel_alloc (bel_alloc B2)) z)))
      clear z B2 j0 j1 j2 j3 j4 j5 j6 j7 j8 j9 jl
      obtain ⟨al, a0, a1, a2, a3⟩ := JA.k
      obtain ⟨bl, b0, b1, b2, b3⟩ := JB.k
      clear JA JB
      have N1 := N1.out
      have N2 := N2.out
      go_wp2
      go_roundw
      case rel => first | exact ⟨k + 1, by omega, by go_num, B3⟩ | ((repeat apply Exists.intro); exact ⟨⟨k + 1, by omega, by go_num, B3⟩, rfl⟩)
      case measure => simp [intOf]; omega
    · have hk9 : k = 29 := by omega
      subst hk9
      have hno : ¬ ((29 : Int) < 29) := by decide
      go_wp2_with fail
      refine (X3.out _).mono ?_
      rintro e w4 ⟨rfl, z⟩
      have B4 := hid (below_next B1 (below_next HB.out z))
      clear z HB
      go_wp2
      go_ret
      exact ⟨rfl, B4.out⟩
end Go.Proofs.YtodmikjpmcabiaaGreat
