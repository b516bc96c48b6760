/-
  TnumSets: which numbers tnums hold, which is in which, what joins and meets them, are the document's.
-/
import Derived.Test.YtbinbjfpjielkaaTnT3
import Derived.Test.YtbinbjfpjielkaaTnT4
import Derived.Test.YtbinbjfpjielkaaTnW
namespace Go.Proofs.Ytbinbjfpjielkaa
set_option linter.unusedSimpArgs false
set_option linter.unusedVariables false
open Go.ChangeShapes Go.WideShapes Go.ChangeAt Go.RowKit

set_option maxRecDepth 100000 in
set_option maxHeartbeats 8000000 in
theorem sets_walk (a b : Tn) (n : B64) (w : World) : Calls Try.prog 3 #[tv a, tv b, .int .u64 (ub n)] w fun e w' => e = .returned (.bool true) ∧ Below w.heap.size w w' := by
  have X1 := fun W => tJoin_any a b W
  have Y1 := fun W => rJoin_any a b W
  generalize bothT a b (joinT a b) = R1 at X1 Y1
  generalize bothE a b = E1 at X1 Y1
  have X2 := fun W => tMeet_any a b W
  have Y2 := fun W => rMeet_any a b W
  generalize (if meetB a b then meetT a b else t0) = R2 at X2 Y2
  generalize meetB a b = E2 at X2 Y2
  have M1 := fun W => tMay_any a W
  have M2 := fun W => rMay_any a W
  generalize tmay a = v1 at M1 M2
  have H1 := fun W => tHas_any a n W
  have H2 := fun W => rHas_any a n W
  generalize thas a n = v2 at H1 H2
  have N1 := fun W => tIn_any a b W
  have N2 := fun W => rIn_any a b W
  generalize tin a b = v3 at N1 N2
  have F1 := fun W => tFree_any a W
  have F2 := fun W => rFree_any a W
  generalize (if tmay a then (cntU a.2 64 : Int) else -1) = v4 at F1 F2
  have O1 := fun W => tOf_any n W
  have A1 := tAll_any
  have A2 := rAll_any
  have hz0 : (.int .u64 (ub 0#64) : Value) = .int .u64 0 := rfl
  unfold tv at X1 Y1 X2 Y2 M1 M2 H1 H2 N1 N2 F1 F2 O1 A1 A2 ⊢
  dsimp only at O1 A1 A2
  rw [hz0] at O1
  simp only [hz0] at A1 A2
  obtain ⟨AM, hAM⟩ : ∃ AM, AM = ub 18446744073709551615#64 := ⟨_, rfl⟩
  rw [← hAM] at A1 A2
  clear hz0 hAM
  have HX1 := hid X1
  have HY1 := hid Y1
  have HX2 := hid X2
  have HY2 := hid Y2
  have HM1 := hid M1
  have HM2 := hid M2
  have HH1 := hid H1
  have HH2 := hid H2
  have HN1 := hid N1
  have HN2 := hid N2
  have HF1 := hid F1
  have HF2 := hid F2
  have HO1 := hid O1
  have HA1 := hid A1
  have HA2 := hid A2
  clear X1 Y1 X2 Y2 M1 M2 H1 H2 N1 N2 F1 F2 O1 A1 A2
  have HAW := hid awake_true
  go_enter Try.func3, Try.ntmps3
  go_wp2_with fail
  refine (HX1.out _).mono ?_
  rintro e w1 ⟨rfl, z1⟩
  have T0 : TC w1 w.heap.size a := ((TC.new rfl).alloc _).below z1
  have T1 : TC w1 (w.heap.size + 1) b := (TC.new (by simp)).below z1
  have B : Below w.heap.size w w1 := (((Below.refl _ _).alloc (Nat.le_refl _) _).alloc (by simp) _).trans (z1.mono (by simp; omega))
  clear z1
  have pT0 := T0.1
  have qT0 := T0.2.1
  have rT0 := T0.2.2
  have pT1 := T1.1
  have qT1 := T1.2.1
  have rT1 := T1.2.2
  go_wp2_with fail
  refine (HY1.out _).mono ?_
  rintro e w2 ⟨rfl, z2⟩
  clear pT0 qT0 rT0 pT1 qT1 rT1
  replace T0 := (T0.alloc (.cells #[.int .u64 (ub R1.1), .int .u64 (ub R1.2)] 24)).below z2
  replace T1 := (T1.alloc (.cells #[.int .u64 (ub R1.1), .int .u64 (ub R1.2)] 24)).below z2
  have G1 : TC w2 w1.heap.size R1 := (TC.new rfl).below z2
  replace B := (B.alloc B.size (.cells #[.int .u64 (ub R1.1), .int .u64 (ub R1.2)] 24)).trans (z2.mono (by simp; exact Nat.le_succ_of_le B.size))
  clear z2
  have pT0 := T0.1
  have qT0 := T0.2.1
  have rT0 := T0.2.2
  have pT1 := T1.1
  have qT1 := T1.2.1
  have rT1 := T1.2.2
  have pG1 := G1.1
  have qG1 := G1.2.1
  have rG1 := G1.2.2
  go_wp2_with fail
  refine (HX2.out _).mono ?_
  rintro e w3 ⟨rfl, z3⟩
  clear pT0 qT0 rT0 pT1 qT1 rT1 pG1 qG1 rG1
  replace T0 := (T0.alloc (.cells #[.int .u64 (ub R1.1), .int .u64 (ub R1.2)] 24)).below z3
  replace T1 := (T1.alloc (.cells #[.int .u64 (ub R1.1), .int .u64 (ub R1.2)] 24)).below z3
  replace G1 := (G1.alloc (.cells #[.int .u64 (ub R1.1), .int .u64 (ub R1.2)] 24)).below z3
  have G2 : TC w3 w2.heap.size R1 := (TC.new rfl).below z3
  replace B := (B.alloc B.size (.cells #[.int .u64 (ub R1.1), .int .u64 (ub R1.2)] 24)).trans (z3.mono (by simp; exact Nat.le_succ_of_le B.size))
  clear z3
  have pT0 := T0.1
  have qT0 := T0.2.1
  have rT0 := T0.2.2
  have pT1 := T1.1
  have qT1 := T1.2.1
  have rT1 := T1.2.2
  have pG1 := G1.1
  have qG1 := G1.2.1
  have rG1 := G1.2.2
  have pG2 := G2.1
  have qG2 := G2.2.1
  have rG2 := G2.2.2
  go_wp2_with fail
  refine (HY2.out _).mono ?_
  rintro e w4 ⟨rfl, z4⟩
  clear pT0 qT0 rT0 pT1 qT1 rT1 pG1 qG1 rG1 pG2 qG2 rG2
  replace T0 := (T0.alloc (.cells #[.int .u64 (ub R2.1), .int .u64 (ub R2.2)] 24)).below z4
  replace T1 := (T1.alloc (.cells #[.int .u64 (ub R2.1), .int .u64 (ub R2.2)] 24)).below z4
  replace G1 := (G1.alloc (.cells #[.int .u64 (ub R2.1), .int .u64 (ub R2.2)] 24)).below z4
  replace G2 := (G2.alloc (.cells #[.int .u64 (ub R2.1), .int .u64 (ub R2.2)] 24)).below z4
  have G3 : TC w4 w3.heap.size R2 := (TC.new rfl).below z4
  replace B := (B.alloc B.size (.cells #[.int .u64 (ub R2.1), .int .u64 (ub R2.2)] 24)).trans (z4.mono (by simp; exact Nat.le_succ_of_le B.size))
  clear z4
  have pT0 := T0.1
  have qT0 := T0.2.1
  have rT0 := T0.2.2
  have pT1 := T1.1
  have qT1 := T1.2.1
  have rT1 := T1.2.2
  have pG1 := G1.1
  have qG1 := G1.2.1
  have rG1 := G1.2.2
  have pG2 := G2.1
  have qG2 := G2.2.1
  have rG2 := G2.2.2
  have pG3 := G3.1
  have qG3 := G3.2.1
  have rG3 := G3.2.2
  go_wp2_with fail
  clear pT0 qT0 rT0 pT1 qT1 rT1 pG1 qG1 rG1 pG2 qG2 rG2 pG3 qG3 rG3
  have ba := (Below.refl w4.heap.size w4).alloc (Nat.le_refl _) (.cells #[.int .u64 (ub R2.1), .int .u64 (ub R2.2)] 24)
  have RR := hid (show I2 w a b (w4.alloc (.cells #[.int .u64 (ub R2.1), .int .u64 (ub R2.2)] 24)) from ⟨T0.below ba, T1.below ba, B.alloc B.size _⟩)
  clear ba T0 T1 B G1 G2 G3
  generalize w4.alloc (.cells #[.int .u64 (ub R2.1), .int .u64 (ub R2.2)] 24) = wo at RR ⊢
  have q0 := RR.out.ca.2.1
  have r0 := RR.out.ca.2.2
  have q1 := RR.out.cb.2.1
  have r1 := RR.out.cb.2.2
  go_region_held3 (fun w' => w'.cell? ⟨w.heap.size, 0, none⟩ = some (.int .u64 (ub a.1)) ∧ w'.cell? ⟨w.heap.size, 1, none⟩ = some (.int .u64 (ub a.2)) ∧ w'.cell? ⟨w.heap.size + 1, 0, none⟩ = some (.int .u64 (ub b.1)) ∧ w'.cell? ⟨w.heap.size + 1, 1, none⟩ = some (.int .u64 (ub b.2)) ∧ Below wo.heap.size wo w')
    (first | (go_split_ands; exact ⟨cn bq (by assumption), cn bq (by assumption), cn bq (by assumption), cn bq (by assumption), below_next (by assumption) bq⟩) | exact ⟨cn (below_dr wo) q0, cn (below_dr wo) r0, cn (below_dr wo) q1, cn (below_dr wo) r1, below_dr wo⟩)
    (first | (go_at_call 18; go_split_ands; (with_reducible refine (HAW.out _).mono ?_); rintro e wq ⟨rfl, bq⟩) | (go_at_call 19; go_split_ands; (with_reducible refine (HM1.out _).mono ?_); rintro e wq ⟨rfl, bq⟩) | (go_at_call 20; go_split_ands; (with_reducible refine (HM2.out _).mono ?_); rintro e wq ⟨rfl, bq⟩) | (go_at_call 21; go_split_ands; (with_reducible refine (HH1.out _).mono ?_); rintro e wq ⟨rfl, bq⟩) | (go_at_call 22; go_split_ands; (with_reducible refine (HH2.out _).mono ?_); rintro e wq ⟨rfl, bq⟩) | (go_at_call 23; go_split_ands; (with_reducible refine (HN1.out _).mono ?_); rintro e wq ⟨rfl, bq⟩) | (go_at_call 24; go_split_ands; (with_reducible refine (HN2.out _).mono ?_); rintro e wq ⟨rfl, bq⟩) | (go_at_call 25; go_split_ands; (with_reducible refine (HF1.out _).mono ?_); rintro e wq ⟨rfl, bq⟩) | (go_at_call 26; go_split_ands; (with_reducible refine (HF2.out _).mono ?_); rintro e wq ⟨rfl, bq⟩) | (go_at_call 27; go_split_ands; (with_reducible refine (HO1.out _).mono ?_); rintro e wq ⟨rfl, bq⟩) | (go_at_call 28; go_split_ands; (with_reducible refine (HA1.out _).mono ?_); rintro e wq ⟨rfl, bq⟩) | (go_at_call 29; go_split_ands; (with_reducible refine (HA2.out _).mono ?_); rintro e wq ⟨rfl, bq⟩))
  go_split_ands
  obtain ⟨wn, rfl⟩ : ∃ X : World, X = wq := ⟨_, rfl⟩
  have HW := hid (RR.out.next (show Below wo.heap.size wo wn by assumption)).bel
  clear RR q0 r0 q1 r1
  go_wp2
  go_ret
  exact ⟨rfl, HW.out⟩
end Go.Proofs.Ytbinbjfpjielkaa
