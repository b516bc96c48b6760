/-
  SpanOne, its first regions.
-/
import Derived.Test.YtoanbjnhoggpjaaSpV
import Derived.Test.YtoanbjnhoggpjaaSpT
import Derived.Test.YtoanbjnhoggpjaaSpX
import Derived.Test.YtoanbjnhoggpjaaSpZ
import Derived.Test.YtoanbjnhoggpjaaSpOp
import Derived.Test.YtoanbjnhoggpjaaHrT
namespace Go.Proofs.Ytoanbjnhoggpjaa
set_option linter.unusedSimpArgs false
set_option linter.unusedVariables false
open Go.ChangeShapes Go.WideShapes Go.ChangeAt Go.RowKit

def CutO (R : Act → World → Prop) : Exit → Act → World → Prop
  | .normal, a, w => R a w
  | _, _, _ => False
theorem CutO.imp {R : Act → World → Prop} {Q : Exit → Act → World → Prop} (h : ∀ a w, R a w → Q .normal a w) : ∀ e a w, CutO R e a w → Q e a w := fun e a w hr => by
  cases e <;> first | exact h a w hr | exact hr.elim
theorem cutO {P : Program} {c : Code} {Q : Exit → Act → World → Prop} {a : Act} {w : World} {A : Nat → Act} {F : Nat → World → Prop} (h1 : Code.wp P c (CutO fun a' W' => ∃ g : Nat, F g W' ∧ a' = A g) a w) (h2 : ∀ g W, F g W → Q .normal (A g) W) : Code.wp P c Q a w :=
  Code.wp_mono (CutO.imp fun a' W' ⟨g, hF, e⟩ => e ▸ h2 g W' hF) h1
theorem cutP {P : Program} {c : Code} {Q : Exit → Act → World → Prop} {a : Act} {w : World} {A : Act} {F : World → Prop} (h1 : Code.wp P c (CutO fun a' W' => F W' ∧ a' = A) a w) (h2 : ∀ W, F W → Q .normal A W) : Code.wp P c Q a w :=
  Code.wp_mono (CutO.imp fun a' W' ⟨hF, e⟩ => e ▸ h2 W' hF) h1
theorem belowAl {wv W : World} {o : Obj} (h : Below wv.heap.size wv W) : Below wv.heap.size wv (W.alloc o) := h.alloc h.size o
/-- A box made behind a world. -/
structure TNS (n : Nat) (w : World) (B : Nat) (t : Tn) : Prop where
  le : n ≤ B
  tb : BC w B t
theorem BC.zero {w : World} {t : TypeId} {b : Nat} (hb : b = w.heap.size) : BC (w.alloc (.cells #[.int .u64 0, .int .u64 0] t)) b t0 := BC.new (a := t0) hb
theorem eqS {n : Nat} {w : World} {B : Nat} {t : Tn} (h : TNS n w B t) : ∃ g, g = B := ⟨B, rfl⟩
theorem keepO {w : World} {op : Int} {c : Bool} {A B : Tn} {X Y : B64} {wv w' : World} (h : GI w op c A B X Y wv) (hB : Below wv.heap.size wv w') :
    w'.cell? ⟨w.heap.size, 0, none⟩ = some (.int .i64 op) ∧ w'.cell? ⟨w.heap.size, 1, none⟩ = some (.bool c) ∧ w'.cell? ⟨w.heap.size, 6, none⟩ = some (.int .u64 (ub X)) ∧ w'.cell? ⟨w.heap.size, 7, none⟩ = some (.int .u64 (ub Y)) ∧ Below wv.heap.size wv w' :=
  ⟨(h.next hB).g0, (h.next hB).g1, (h.next hB).g6, (h.next hB).g7, hB⟩
def hasS (s : Tn) (x : B64) : Bool := decide (s.1.toNat ≤ x.toNat) && decide (x.toNat ≤ s.2.toNat)
theorem hasS_iff (s : Tn) (x : B64) : hasS s x = true ↔ Lies s x.toNat := by unfold hasS Lies; rw [Bool.and_eq_true, decide_eq_true_eq, decide_eq_true_eq]
/-- What Has says of what both hold, and of what either holds. -/
theorem has_facts (A B : Tn) (X : B64) : (mayS (meetP A B) && hasS (meetS A B) X) = (hasS A X && hasS B X) ∧ ((hasS A X || hasS B X) = true → hasS (joinSp A B) X = true) := by
  constructor
  · rw [Bool.eq_iff_iff, Bool.and_eq_true, Bool.and_eq_true, hasS_iff, hasS_iff, hasS_iff]
    constructor
    · rintro ⟨h, k⟩
      rw [show meetS A B = meetP A B from if_pos h] at k
      have e1 : (meetP A B).1.toNat = max A.1.toNat B.1.toNat := bmax_toNat _ _
      have e2 : (meetP A B).2.toNat = min A.2.toNat B.2.toNat := bmin_toNat _ _
      unfold Lies at *
      omega
    · rintro ⟨h, k⟩
      have hm : mayS (meetP A B) = true := (meetS_may A B).2 (by unfold Lies at *; exact ⟨decide_eq_true (by omega), decide_eq_true (by omega), by omega, by omega⟩)
      refine ⟨hm, ?_⟩
      rw [show meetS A B = meetP A B from if_pos hm]
      have e1 : (meetP A B).1.toNat = max A.1.toNat B.1.toNat := bmax_toNat _ _
      have e2 : (meetP A B).2.toNat = min A.2.toNat B.2.toNat := bmin_toNat _ _
      unfold Lies at *
      omega
  · rw [Bool.or_eq_true, hasS_iff, hasS_iff, hasS_iff]
    intro h
    have mA : mayS A = true ↔ A.1.toNat ≤ A.2.toNat := decide_eq_true_iff
    have mB : mayS B = true ↔ B.1.toNat ≤ B.2.toNat := decide_eq_true_iff
    unfold joinSp
    by_cases hA : mayS A = true
    · rw [if_pos hA]
      by_cases hB : mayS B = true
      · rw [if_pos hB]
        unfold Lies at *
        dsimp only
        rw [bmin_toNat, bmax_toNat]
        omega
      · rw [if_neg hB]
        rw [mB] at hB
        unfold Lies at *
        omega
    · rw [if_neg hA]
      rw [mA] at hA
      by_cases hB : mayS B = true
      · rw [if_pos hB]
        unfold Lies at *
        omega
      · rw [mB] at hB
        unfold Lies at *
        omega
theorem neq_span (R : Tn) (n : B64) (h : R ≠ (n, n)) (W : World) : (binOp .neq 26 (.agg #[.int .u64 (ub R.1), .int .u64 (ub R.2)]) (.agg #[.int .u64 (ub n), .int .u64 (ub n)])).run Try.prog W = .ok (.bool true) W := by
  have h' : ¬ (R.1 = n ∧ R.2 = n) := fun k => h (Prod.ext k.1 k.2)
  have e : (R.1 == n && R.2 == n) = false := by
    rw [Bool.and_eq_false_iff, beq_eq_false_iff_ne, beq_eq_false_iff_ne]
    by_cases k : R.1 = n
    · exact .inr (fun q => h' ⟨k, q⟩)
    · exact .inl k
  cases k : (R.1 == n)
  · go_simp
  · rw [k, Bool.true_and] at e
    go_simp
set_option maxRecDepth 20000 in
set_option maxHeartbeats 16000000 in
theorem one_walk (op : Int) (c : Bool) (A B : Tn) (X Y : B64) (w : World) : Calls Try.prog 9 #[.agg #[.int .i64 op, .bool c, .int .u64 (ub A.1), .int .u64 (ub A.2), .int .u64 (ub B.1), .int .u64 (ub B.2), .int .u64 (ub X), .int .u64 (ub Y)]] w fun e w' => e = .returned (.bool true) ∧ Below w.heap.size w w' := by
  have HX := fun W => sAlu_any op c (X, X) (Y, Y) W
  have HO1 := fun W => sOf_any X W
  have HO2 := fun W => sOf_any Y W
  have HW := hid wakes_true
  have HN := fun W (h0 : ¬ op < 0) (h1 : ¬ 12 < op) => qOne_any op.toNat (by omega) c X Y W
  have PA := hid (alu_one op c X Y)
  have HM := fun W => sMeet_any A B W
  generalize oneB op.toNat c X Y = n at *
  generalize aluT op c (X, X) (Y, Y) = R at *
  generalize aluE op (X, X) (Y, Y) = E at *
  unfold tv at HX HO1 HO2
  dsimp only at HX HO1 HO2
  replace HX := hid HX
  replace HO1 := hid HO1
  replace HO2 := hid HO2
  have I := GI.start w op c A B X Y 75
  go_enter Try.func9, Try.ntmps9
  go_wp2_with fail
  generalize w.alloc (.cells #[.int .i64 op, .bool c, .int .u64 (ub A.1), .int .u64 (ub A.2), .int .u64 (ub B.1), .int .u64 (ub B.2), .int .u64 (ub X), .int .u64 (ub Y)] 75) = wv at I ⊢
  have HI := hid I
  have hb0 : Below wv.heap.size wv wv := Below.refl _ _
  have i0 := I.g0
  have i1 := I.g1
  have i6 := I.g6
  have i7 := I.g7
  apply cutO (F := fun g W' => GI w op c A B X Y W' ∧ BC W' g R)
  · go_region_held3 (fun w' => w'.cell? ⟨w.heap.size, 0, none⟩ = some (.int .i64 op) ∧ w'.cell? ⟨w.heap.size, 1, none⟩ = some (.bool c) ∧ w'.cell? ⟨w.heap.size, 6, none⟩ = some (.int .u64 (ub X)) ∧ w'.cell? ⟨w.heap.size, 7, none⟩ = some (.int .u64 (ub Y)) ∧ Below wv.heap.size wv w')
      ((refine keepO HI.out ?_; go_split_ands; first | (with_reducible assumption) | (with_reducible exact below_dr _) | (with_reducible exact below_next (by assumption) bq) | (with_reducible exact belowAl (by assumption)) | (with_reducible exact Below.drew (belowAl (by assumption))) | exact Below.setCell (Below.setCell (by with_reducible assumption) T7.1 _) T7.1 _))
      (first | (go_at_call 36; go_split_ands; (with_reducible refine (HO1.out _).mono ?_); rintro e wq ⟨rfl, bq⟩; have hB7 := below_next (a := wv) (by with_reducible assumption) bq; (first | (have T7 : TNS wv.heap.size wq _ t0 := ⟨(by first | exact Nat.le_refl _ | exact Below.size (by assumption)), (BC.zero rfl).below bq⟩) | (have T7 : TNS wv.heap.size wq _ t0 := ⟨(by first | exact Nat.le_refl _ | exact Below.size (by assumption)), ((BC.zero rfl).below (below_dr _)).below bq⟩) | (have T7 : TNS wv.heap.size wq _ t0 := ⟨T7.1, T7.2.below bq⟩) | skip); (try have cq0 := T7.2.lt); (try have cq1 := T7.2.c0); (try have cq2 := T7.2.c1); (try have cq3 := T7.2.f0); (try have cq4 := T7.2.f1)) | (go_at_call 36; go_split_ands; (with_reducible refine (HO2.out _).mono ?_); rintro e wq ⟨rfl, bq⟩; have hB7 := below_next (a := wv) (by with_reducible assumption) bq; (first | (have T7 : TNS wv.heap.size wq _ t0 := ⟨(by first | exact Nat.le_refl _ | exact Below.size (by assumption)), (BC.zero rfl).below bq⟩) | (have T7 : TNS wv.heap.size wq _ t0 := ⟨(by first | exact Nat.le_refl _ | exact Below.size (by assumption)), ((BC.zero rfl).below (below_dr _)).below bq⟩) | (have T7 : TNS wv.heap.size wq _ t0 := ⟨T7.1, T7.2.below bq⟩) | skip); (try have cq0 := T7.2.lt); (try have cq1 := T7.2.c0); (try have cq2 := T7.2.c1); (try have cq3 := T7.2.f0); (try have cq4 := T7.2.f1)) | (go_at_call 35; go_split_ands; (with_reducible refine (HX.out _).mono ?_); rintro e wq ⟨rfl, bq⟩; have hB7 := below_next (a := wv) (by with_reducible assumption) bq; (first | (have T7 : TNS wv.heap.size wq _ t0 := ⟨(by first | exact Nat.le_refl _ | exact Below.size (by assumption)), (BC.zero rfl).below bq⟩) | (have T7 : TNS wv.heap.size wq _ t0 := ⟨(by first | exact Nat.le_refl _ | exact Below.size (by assumption)), ((BC.zero rfl).below (below_dr _)).below bq⟩) | (have T7 : TNS wv.heap.size wq _ t0 := ⟨T7.1, T7.2.below bq⟩) | skip); (try have cq0 := T7.2.lt); (try have cq1 := T7.2.c0); (try have cq2 := T7.2.c1); (try have cq3 := T7.2.f0); (try have cq4 := T7.2.f1)))
    all_goals
      go_split_ands
      first
        | (have hE := eqS T7; obtain ⟨g, hg⟩ := hE)
        | (have hE : ∃ g : Nat, g = wq.heap.size := ⟨_, rfl⟩; obtain ⟨g, hg⟩ := hE)
      refine ⟨g, ⟨HI.out.next (by with_reducible assumption), ?_⟩, ?_⟩
      · rw [hg]
        first | exact T7.tb.put _ | exact BC.new rfl
      · first | (rw [← hg]; done) | (rw [← hg]; exact rfl)
  clear I HI hb0 i0 i1 i6 i7 HX HO1 HO2
  intro g W5 IJ
  obtain ⟨I, J⟩ := IJ
  by_cases h0 : op < 0
  case pos =>
    obtain rfl : E = 1 := PA.out.1 (.inl h0)
    clear PA HN HM
    have i0 := I.g0
    have il := I.lt
    go_wp2_with fail
    refine (HW.out _).mono ?_
    rintro e wz ⟨rfl, bz⟩
    have HB := hid (I.bel.trans (bz.mono I.bel.size))
    go_wp2
    go_ret
    exact ⟨rfl, HB.out⟩
  by_cases h1 : 12 < op
  case pos =>
    obtain rfl : E = 1 := PA.out.1 (.inr h1)
    clear PA HN HM
    have i0 := I.g0
    have il := I.lt
    go_wp2_with fail
    refine (HW.out _).mono ?_
    rintro e wz ⟨rfl, bz⟩
    have HB := hid (I.bel.trans (bz.mono I.bel.size))
    go_wp2
    go_ret
    exact ⟨rfl, HB.out⟩
  obtain ⟨hE, PR⟩ := PA.out.2 (by omega) (by omega)
  subst hE
  replace PR := hid PR
  clear PA
  have HNn := fun W => HN W (by omega) (by omega)
  rw [Int.toNat_of_nonneg (by omega)] at HNn
  clear HN
  have HN := hid HNn
  clear HNn
  have HOn := fun W => sOf_any n W
  unfold tv at HOn
  dsimp only at HOn
  replace HOn := hid HOn
  have i0 := I.g0
  have i1 := I.g1
  have i6 := I.g6
  have i7 := I.g7
  have il := I.lt
  go_wp2_with fail
  refine (HN.out _).mono ?_
  rintro e W6 ⟨rfl, rfl⟩
  clear i0 i1 i6 i7 il
  have HI := hid I
  have HJ := hid J
  have j0 := J.c0
  have j1 := J.c1
  have d0 := cn (below_dr W6) j0
  have d1 := cn (below_dr W6) j1
  have d2 := cn (below_dr W6) I.g0
  have hu : undef = Value.tuple #[] := rfl
  go_wp2_with fail
  refine Code.wp_mono (Q := CutO fun a' W' => ∃ (u46 : Value) (u47 : Value) (u48 : Value) (u49 : Value) (u50 : Value) (u51 : Value) (u52 : Value) (u53 : Value) (u54 : Value) (u55 : Value) (u56 : Value) (u57 : Value) (u58 : Value) (u59 : Value) (u60 : Value) (u61 : Value) (u62 : Value) (u63 : Value) (u64 : Value) (u65 : Value) (u66 : Value) (u67 : Value) (u68 : Value) (u69 : Value) (u70 : Value) (u71 : Value) (u72 : Value) (u73 : Value) (u74 : Value) (u75 : Value) (u76 : Value) (u77 : Value) (u78 : Value), (GI w op c A B X Y W' ∧ BC W' g R) ∧ a' = { tmps := #[Value.agg #[Value.int IntKind.i64 op, Value.bool c, Value.int IntKind.u64 (ub A.fst), Value.int IntKind.u64 (ub A.snd), Value.int IntKind.u64 (ub B.fst), Value.int IntKind.u64 (ub B.snd), Value.int IntKind.u64 (ub X), Value.int IntKind.u64 (ub Y)], Value.pointer (some ⟨w.heap.size, 0, none⟩), Value.bool false, Value.pointer (some ⟨g, 0, none⟩), Value.int IntKind.i64 0, Value.int IntKind.u64 (ub n), undef, undef, undef, undef, Value.tuple #[Value.agg #[Value.int IntKind.u64 (ub R.fst), Value.int IntKind.u64 (ub R.snd)], Value.int IntKind.i64 0], Value.pointer (some ⟨w.heap.size, 0, none⟩), Value.int IntKind.i64 op, Value.pointer (some ⟨w.heap.size, 1, none⟩), Value.bool c, Value.pointer (some ⟨w.heap.size, 6, none⟩), Value.int IntKind.u64 (ub X), Value.agg #[Value.int IntKind.u64 (ub X), Value.int IntKind.u64 (ub X)], Value.pointer (some ⟨w.heap.size, 7, none⟩), Value.int IntKind.u64 (ub Y), Value.agg #[Value.int IntKind.u64 (ub Y), Value.int IntKind.u64 (ub Y)], Value.tuple #[Value.agg #[Value.int IntKind.u64 (ub R.fst), Value.int IntKind.u64 (ub R.snd)], Value.int IntKind.i64 0], Value.agg #[Value.int IntKind.u64 (ub R.fst), Value.int IntKind.u64 (ub R.snd)], Value.int IntKind.i64 0, Value.pointer (some ⟨w.heap.size, 0, none⟩), Value.int IntKind.i64 op, Value.bool false, Value.bool false, Value.pointer (some ⟨w.heap.size, 0, none⟩), Value.int IntKind.i64 op, Value.bool false, Value.bool false, undef, undef, undef, undef, undef, Value.pointer (some ⟨w.heap.size, 0, none⟩), Value.int IntKind.i64 op, Value.pointer (some ⟨w.heap.size, 1, none⟩), Value.bool c, Value.pointer (some ⟨w.heap.size, 6, none⟩), Value.int IntKind.u64 (ub X), Value.pointer (some ⟨w.heap.size, 7, none⟩), Value.int IntKind.u64 (ub Y), Value.int IntKind.u64 (ub n), u46, u47, u48, u49, u50, u51, u52, u53, u54, u55, u56, u57, u58, u59, u60, u61, u62, u63, u64, u65, u66, u67, u68, u69, u70, u71, u72, u73, u74, u75, u76, u77, u78, Value.bool false, undef, undef, undef, undef, undef, undef, undef, undef, undef, undef, undef, undef, undef, undef, undef, undef, undef, undef, undef, undef, undef, undef, undef, undef, undef, undef, undef, undef, undef, undef, undef, undef, undef, undef, undef, undef, undef, undef, undef, undef, undef, undef, undef, undef, undef, undef, undef, undef, undef, undef, undef, undef, undef, undef, undef, undef, undef, undef], defers := [] }) (CutO.imp ?_) ?_
  rotate_left
  · clear HW HM
    rcases PR.out with hR | ⟨hne, hop, hR⟩
    · have nn : ∀ W : World, (binOp .neq 26 (.agg #[.int .u64 (ub R.1), .int .u64 (ub R.2)]) (.agg #[.int .u64 (ub n), .int .u64 (ub n)])).run Try.prog W = .ok (.bool false) W := by rw [hR]; intro W; go_simp
      clear PR hR
      have e0 := HI.out.g0
      refine wp_region_held_drew (S := (fun w' : World => Below W6.heap.size W6 w')) (by kernel_rfl) ?_ (fun hHeld => ?_)
      · (try dsimp only); first | (with_reducible exact below_dr _) | (with_reducible exact Below.refl _ _) | exact below_dr _
      have hBk := below_dr W6
      refine take_d (i := 0) (v := ?va1_1) rfl (by rfl) (by kernel_rfl) (by kernel_rfl) (by kernel_rfl) (fun _ _ _ h => h) (Or.inl ⟨by rfl, ?ha1_1⟩) (by assumption) ?ra1_1
      case ha1_1 => (intro wS hSw; (try dsimp only at hSw); go_simp; try (with_reducible rfl))
      (try simp only [Act.put, List.setIfInBounds_toArray, List.set_cons_zero, List.set_cons_succ])
      refine take_d (i := 1) (v := ?va1_2) rfl (by rfl) (by kernel_rfl) (by kernel_rfl) (by kernel_rfl) (fun _ _ _ h => h) (Or.inl ⟨by rfl, ?ha1_2⟩) (by assumption) ?ra1_2
      case ha1_2 => (intro wS hSw; (try dsimp only at hSw); go_simp; try (with_reducible rfl))
      (try simp only [Act.put, List.setIfInBounds_toArray, List.set_cons_zero, List.set_cons_succ])
      refine take_d (i := 2) (v := ?va1_3) rfl (by rfl) (by kernel_rfl) (by kernel_rfl) (by kernel_rfl) (fun _ _ _ h => h) (Or.inl ⟨by rfl, ?ha1_3⟩) (by assumption) ?ra1_3
      case ha1_3 => (intro wS hSw; (try dsimp only at hSw); go_simp; try (with_reducible rfl))
      (try simp only [Act.put, List.setIfInBounds_toArray, List.set_cons_zero, List.set_cons_succ])
      refine take_d (i := 3) (v := ?va1_4) rfl (by rfl) (by kernel_rfl) (by kernel_rfl) (by kernel_rfl) (fun _ _ _ h => h) (Or.inl ⟨by rfl, ?ha1_4⟩) (by assumption) ?ra1_4
      case ha1_4 => (intro wS hSw; (try dsimp only at hSw); have hcq0 := cn hSw j0; have hcq1 := cn hSw j1; go_simp; try (with_reducible rfl))
      (try simp only [Act.put, List.setIfInBounds_toArray, List.set_cons_zero, List.set_cons_succ])
      refine take_d (i := 4) (v := ?va1_5) rfl (by rfl) (by kernel_rfl) (by kernel_rfl) (by kernel_rfl) (fun _ _ _ h => h) (Or.inl ⟨by rfl, ?ha1_5⟩) (by assumption) ?ra1_5
      case ha1_5 => (intro wS hSw; (try dsimp only at hSw); go_simp; try (with_reducible rfl))
      (try simp only [Act.put, List.setIfInBounds_toArray, List.set_cons_zero, List.set_cons_succ])
      refine wpAnyH_ready (rs := [5]) (by kernel_rfl) (by simp) ?_
      refine AllReadyH.cons rfl (fun K hK => ?_) AllReadyH.nil
      go_simp
      go_at_call 36
      refine (HOn.out _).mono ?_
      rintro e wa1_6 ⟨rfl, bka1_6⟩
      have hBn := below_next hBk bka1_6
      clear hBk bka1_6
      have hBk := hBn
      clear hBn
      try go_simp
      refine hK.out _ _ ?_ (fun hHeld => ?_)
      · (try dsimp only); exact hBk
      clear hK K
      (try simp only [Act.put, List.setIfInBounds_toArray, List.set_cons_zero, List.set_cons_succ])
      refine take_d (i := 6) (v := ?va1_7) rfl (by rfl) (by kernel_rfl) (by kernel_rfl) (by kernel_rfl) (fun _ _ _ h => h) (Or.inl ⟨by rfl, ?ha1_7⟩) (by assumption) ?ra1_7
      case ha1_7 => (intro wS hSw; (try dsimp only at hSw); go_simp; try (with_reducible rfl))
      (try simp only [Act.put, List.setIfInBounds_toArray, List.set_cons_zero, List.set_cons_succ])
      refine take_d (i := 7) (v := ?va1_8) rfl (by rfl) (by kernel_rfl) (by kernel_rfl) (by kernel_rfl) (fun _ _ _ h => h) (Or.inl ⟨by rfl, ?ha1_8⟩) (by assumption) ?ra1_8
      case ha1_8 => (intro wS hSw; (try dsimp only at hSw); go_simp; try (with_reducible rfl))
      (try simp only [Act.put, List.setIfInBounds_toArray, List.set_cons_zero, List.set_cons_succ])
      refine take_d (i := 8) (v := undef) rfl (by rfl) (by kernel_rfl) (by kernel_rfl) (by kernel_rfl) (fun _ _ _ h => h) (Or.inr ⟨by rfl, rfl⟩) (by assumption) ?ra1_9
      (try simp only [Act.put, List.setIfInBounds_toArray, List.set_cons_zero, List.set_cons_succ])
      refine take_d (i := 9) (v := undef) rfl (by rfl) (by kernel_rfl) (by kernel_rfl) (by kernel_rfl) (fun _ _ _ h => h) (Or.inr ⟨by rfl, rfl⟩) (by assumption) ?ra1_10
      (try simp only [Act.put, List.setIfInBounds_toArray, List.set_cons_zero, List.set_cons_succ])
      refine take_d (i := 10) (v := undef) rfl (by rfl) (by kernel_rfl) (by kernel_rfl) (by kernel_rfl) (fun _ _ _ h => h) (Or.inr ⟨by rfl, rfl⟩) (by assumption) ?ra1_11
      (try simp only [Act.put, List.setIfInBounds_toArray, List.set_cons_zero, List.set_cons_succ])
      refine take_d (i := 11) (v := undef) rfl (by rfl) (by kernel_rfl) (by kernel_rfl) (by kernel_rfl) (fun _ _ _ h => h) (Or.inr ⟨by rfl, rfl⟩) (by assumption) ?ra1_12
      (try simp only [Act.put, List.setIfInBounds_toArray, List.set_cons_zero, List.set_cons_succ])
      refine take_d (i := 12) (v := undef) rfl (by rfl) (by kernel_rfl) (by kernel_rfl) (by kernel_rfl) (fun _ _ _ h => h) (Or.inr ⟨by rfl, rfl⟩) (by assumption) ?ra1_13
      (try simp only [Act.put, List.setIfInBounds_toArray, List.set_cons_zero, List.set_cons_succ])
      refine take_d (i := 13) (v := undef) rfl (by rfl) (by kernel_rfl) (by kernel_rfl) (by kernel_rfl) (fun _ _ _ h => h) (Or.inr ⟨by rfl, rfl⟩) (by assumption) ?ra1_14
      (try simp only [Act.put, List.setIfInBounds_toArray, List.set_cons_zero, List.set_cons_succ])
      refine take_d (i := 14) (v := undef) rfl (by rfl) (by kernel_rfl) (by kernel_rfl) (by kernel_rfl) (fun _ _ _ h => h) (Or.inr ⟨by rfl, rfl⟩) (by assumption) ?ra1_15
      (try simp only [Act.put, List.setIfInBounds_toArray, List.set_cons_zero, List.set_cons_succ])
      refine take_d (i := 15) (v := undef) rfl (by rfl) (by kernel_rfl) (by kernel_rfl) (by kernel_rfl) (fun _ _ _ h => h) (Or.inr ⟨by rfl, rfl⟩) (by assumption) ?ra1_16
      (try simp only [Act.put, List.setIfInBounds_toArray, List.set_cons_zero, List.set_cons_succ])
      refine take_d (i := 16) (v := undef) rfl (by rfl) (by kernel_rfl) (by kernel_rfl) (by kernel_rfl) (fun _ _ _ h => h) (Or.inr ⟨by rfl, rfl⟩) (by assumption) ?ra1_17
      (try simp only [Act.put, List.setIfInBounds_toArray, List.set_cons_zero, List.set_cons_succ])
      refine take_d (i := 17) (v := undef) rfl (by rfl) (by kernel_rfl) (by kernel_rfl) (by kernel_rfl) (fun _ _ _ h => h) (Or.inr ⟨by rfl, rfl⟩) (by assumption) ?ra1_18
      (try simp only [Act.put, List.setIfInBounds_toArray, List.set_cons_zero, List.set_cons_succ])
      refine take_d (i := 18) (v := undef) rfl (by rfl) (by kernel_rfl) (by kernel_rfl) (by kernel_rfl) (fun _ _ _ h => h) (Or.inr ⟨by rfl, rfl⟩) (by assumption) ?ra1_19
      (try simp only [Act.put, List.setIfInBounds_toArray, List.set_cons_zero, List.set_cons_succ])
      refine take_d (i := 19) (v := undef) rfl (by rfl) (by kernel_rfl) (by kernel_rfl) (by kernel_rfl) (fun _ _ _ h => h) (Or.inr ⟨by rfl, rfl⟩) (by assumption) ?ra1_20
      (try simp only [Act.put, List.setIfInBounds_toArray, List.set_cons_zero, List.set_cons_succ])
      refine take_d (i := 20) (v := undef) rfl (by rfl) (by kernel_rfl) (by kernel_rfl) (by kernel_rfl) (fun _ _ _ h => h) (Or.inr ⟨by rfl, rfl⟩) (by assumption) ?ra1_21
      (try simp only [Act.put, List.setIfInBounds_toArray, List.set_cons_zero, List.set_cons_succ])
      refine take_d (i := 21) (v := undef) rfl (by rfl) (by kernel_rfl) (by kernel_rfl) (by kernel_rfl) (fun _ _ _ h => h) (Or.inr ⟨by rfl, rfl⟩) (by assumption) ?ra1_22
      (try simp only [Act.put, List.setIfInBounds_toArray, List.set_cons_zero, List.set_cons_succ])
      refine take_d (i := 22) (v := undef) rfl (by rfl) (by kernel_rfl) (by kernel_rfl) (by kernel_rfl) (fun _ _ _ h => h) (Or.inr ⟨by rfl, rfl⟩) (by assumption) ?ra1_23
      (try simp only [Act.put, List.setIfInBounds_toArray, List.set_cons_zero, List.set_cons_succ])
      refine take_d (i := 23) (v := undef) rfl (by rfl) (by kernel_rfl) (by kernel_rfl) (by kernel_rfl) (fun _ _ _ h => h) (Or.inr ⟨by rfl, rfl⟩) (by assumption) ?ra1_24
      (try simp only [Act.put, List.setIfInBounds_toArray, List.set_cons_zero, List.set_cons_succ])
      refine take_d (i := 24) (v := undef) rfl (by rfl) (by kernel_rfl) (by kernel_rfl) (by kernel_rfl) (fun _ _ _ h => h) (Or.inr ⟨by rfl, rfl⟩) (by assumption) ?ra1_25
      (try simp only [Act.put, List.setIfInBounds_toArray, List.set_cons_zero, List.set_cons_succ])
      refine take_d (i := 25) (v := undef) rfl (by rfl) (by kernel_rfl) (by kernel_rfl) (by kernel_rfl) (fun _ _ _ h => h) (Or.inr ⟨by rfl, rfl⟩) (by assumption) ?ra1_26
      (try simp only [Act.put, List.setIfInBounds_toArray, List.set_cons_zero, List.set_cons_succ])
      refine take_d (i := 26) (v := undef) rfl (by rfl) (by kernel_rfl) (by kernel_rfl) (by kernel_rfl) (fun _ _ _ h => h) (Or.inr ⟨by rfl, rfl⟩) (by assumption) ?ra1_27
      (try simp only [Act.put, List.setIfInBounds_toArray, List.set_cons_zero, List.set_cons_succ])
      refine take_d (i := 27) (v := undef) rfl (by rfl) (by kernel_rfl) (by kernel_rfl) (by kernel_rfl) (fun _ _ _ h => h) (Or.inr ⟨by rfl, rfl⟩) (by assumption) ?ra1_28
      (try simp only [Act.put, List.setIfInBounds_toArray, List.set_cons_zero, List.set_cons_succ])
      refine take_d (i := 28) (v := undef) rfl (by rfl) (by kernel_rfl) (by kernel_rfl) (by kernel_rfl) (fun _ _ _ h => h) (Or.inr ⟨by rfl, rfl⟩) (by assumption) ?ra1_29
      (try simp only [Act.put, List.setIfInBounds_toArray, List.set_cons_zero, List.set_cons_succ])
      refine take_d (i := 29) (v := undef) rfl (by rfl) (by kernel_rfl) (by kernel_rfl) (by kernel_rfl) (fun _ _ _ h => h) (Or.inr ⟨by rfl, rfl⟩) (by assumption) ?ra1_30
      (try simp only [Act.put, List.setIfInBounds_toArray, List.set_cons_zero, List.set_cons_succ])
      refine take_d (i := 30) (v := undef) rfl (by rfl) (by kernel_rfl) (by kernel_rfl) (by kernel_rfl) (fun _ _ _ h => h) (Or.inr ⟨by rfl, rfl⟩) (by assumption) ?ra1_31
      (try simp only [Act.put, List.setIfInBounds_toArray, List.set_cons_zero, List.set_cons_succ])
      refine take_d (i := 31) (v := undef) rfl (by rfl) (by kernel_rfl) (by kernel_rfl) (by kernel_rfl) (fun _ _ _ h => h) (Or.inr ⟨by rfl, rfl⟩) (by assumption) ?ra1_32
      (try simp only [Act.put, List.setIfInBounds_toArray, List.set_cons_zero, List.set_cons_succ])
      refine take_d (i := 32) (v := ?va1_33) rfl (by rfl) (by kernel_rfl) (by kernel_rfl) (by kernel_rfl) (fun _ _ _ h => h) (Or.inl ⟨by rfl, ?ha1_33⟩) (by assumption) ?ra1_33
      case ha1_33 => (intro wS hSw; (try dsimp only at hSw); go_simp; try (with_reducible rfl))
      (try simp only [Act.put, List.setIfInBounds_toArray, List.set_cons_zero, List.set_cons_succ])
      refine take_d (i := 33) (v := ?va1_34) rfl (by rfl) (by kernel_rfl) (by kernel_rfl) (by kernel_rfl) (fun _ _ _ h => h) (Or.inl ⟨by rfl, ?ha1_34⟩) (by assumption) ?ra1_34
      case ha1_34 => (intro wS hSw; (try dsimp only at hSw); go_simp; try (with_reducible rfl))
      (try simp only [Act.put, List.setIfInBounds_toArray, List.set_cons_zero, List.set_cons_succ])
      refine wpAnyH_done (by kernel_rfl) ?_ _
      exact ⟨_, _, _, _, _, _, _, _, _, _, _, _, _, _, _, _, _, _, _, _, _, _, _, _, _, _, _, _, _, _, _, _, _, ⟨HI.out.next hBk, HJ.out.below hBk⟩, rfl⟩
    · have nn := fun W : World => neq_span R n hne W
      have r1 : (R.1 == 0#64) = true := by rw [hR]; rfl
      have r2 : c = true → (R.2 + 1#64 == 0#64) = true := by rintro rfl; rw [hR]; decide
      have r3 : c = false → (R.2 + 1#64 == 0#64) = false := by rintro rfl; rw [hR]; decide
      have r4 : c = false → (ub R.2 != 4294967295) = false := by rintro rfl; rw [hR]; decide
      clear PR hne hR
      rcases hop with rfl | rfl
      · cases c
        · replace r3 := r3 rfl
          replace r4 := r4 rfl
          clear r2
          have e0 := HI.out.g0
          refine wp_region_held_drew (S := (fun w' : World => Below W6.heap.size W6 w')) (by kernel_rfl) ?_ (fun hHeld => ?_)
          · (try dsimp only); first | (with_reducible exact below_dr _) | (with_reducible exact Below.refl _ _) | exact below_dr _
          have hBk := below_dr W6
          refine take_d (i := 0) (v := ?va2_1) rfl (by rfl) (by kernel_rfl) (by kernel_rfl) (by kernel_rfl) (fun _ _ _ h => h) (Or.inl ⟨by rfl, ?ha2_1⟩) (by assumption) ?ra2_1
          case ha2_1 => (intro wS hSw; (try dsimp only at hSw); go_simp; try (with_reducible rfl))
          (try simp only [Act.put, List.setIfInBounds_toArray, List.set_cons_zero, List.set_cons_succ])
          refine take_d (i := 1) (v := ?va2_2) rfl (by rfl) (by kernel_rfl) (by kernel_rfl) (by kernel_rfl) (fun _ _ _ h => h) (Or.inl ⟨by rfl, ?ha2_2⟩) (by assumption) ?ra2_2
          case ha2_2 => (intro wS hSw; (try dsimp only at hSw); go_simp; try (with_reducible rfl))
          (try simp only [Act.put, List.setIfInBounds_toArray, List.set_cons_zero, List.set_cons_succ])
          refine take_d (i := 2) (v := ?va2_3) rfl (by rfl) (by kernel_rfl) (by kernel_rfl) (by kernel_rfl) (fun _ _ _ h => h) (Or.inl ⟨by rfl, ?ha2_3⟩) (by assumption) ?ra2_3
          case ha2_3 => (intro wS hSw; (try dsimp only at hSw); go_simp; try (with_reducible rfl))
          (try simp only [Act.put, List.setIfInBounds_toArray, List.set_cons_zero, List.set_cons_succ])
          refine take_d (i := 3) (v := ?va2_4) rfl (by rfl) (by kernel_rfl) (by kernel_rfl) (by kernel_rfl) (fun _ _ _ h => h) (Or.inl ⟨by rfl, ?ha2_4⟩) (by assumption) ?ra2_4
          case ha2_4 => (intro wS hSw; (try dsimp only at hSw); have hcq0 := cn hSw j0; have hcq1 := cn hSw j1; go_simp; try (with_reducible rfl))
          (try simp only [Act.put, List.setIfInBounds_toArray, List.set_cons_zero, List.set_cons_succ])
          refine take_d (i := 4) (v := ?va2_5) rfl (by rfl) (by kernel_rfl) (by kernel_rfl) (by kernel_rfl) (fun _ _ _ h => h) (Or.inl ⟨by rfl, ?ha2_5⟩) (by assumption) ?ra2_5
          case ha2_5 => (intro wS hSw; (try dsimp only at hSw); go_simp; try (with_reducible rfl))
          (try simp only [Act.put, List.setIfInBounds_toArray, List.set_cons_zero, List.set_cons_succ])
          refine wpAnyH_ready (rs := [5]) (by kernel_rfl) (by simp) ?_
          refine AllReadyH.cons rfl (fun K hK => ?_) AllReadyH.nil
          go_simp
          go_at_call 36
          refine (HOn.out _).mono ?_
          rintro e wa2_6 ⟨rfl, bka2_6⟩
          have hBn := below_next hBk bka2_6
          clear hBk bka2_6
          have hBk := hBn
          clear hBn
          try go_simp
          refine hK.out _ _ ?_ (fun hHeld => ?_)
          · (try dsimp only); exact hBk
          clear hK K
          (try simp only [Act.put, List.setIfInBounds_toArray, List.set_cons_zero, List.set_cons_succ])
          refine take_d (i := 6) (v := ?va2_7) rfl (by rfl) (by kernel_rfl) (by kernel_rfl) (by kernel_rfl) (fun _ _ _ h => h) (Or.inl ⟨by rfl, ?ha2_7⟩) (by assumption) ?ra2_7
          case ha2_7 => (intro wS hSw; (try dsimp only at hSw); go_simp; try (with_reducible rfl))
          (try simp only [Act.put, List.setIfInBounds_toArray, List.set_cons_zero, List.set_cons_succ])
          refine take_d (i := 7) (v := ?va2_8) rfl (by rfl) (by kernel_rfl) (by kernel_rfl) (by kernel_rfl) (fun _ _ _ h => h) (Or.inl ⟨by rfl, ?ha2_8⟩) (by assumption) ?ra2_8
          case ha2_8 => (intro wS hSw; (try dsimp only at hSw); go_simp; try (with_reducible rfl))
          (try simp only [Act.put, List.setIfInBounds_toArray, List.set_cons_zero, List.set_cons_succ])
          refine take_d (i := 8) (v := ?va2_9) rfl (by rfl) (by kernel_rfl) (by kernel_rfl) (by kernel_rfl) (fun _ _ _ h => h) (Or.inl ⟨by rfl, ?ha2_9⟩) (by assumption) ?ra2_9
          case ha2_9 => (intro wS hSw; (try dsimp only at hSw); go_simp; try (with_reducible rfl))
          (try simp only [Act.put, List.setIfInBounds_toArray, List.set_cons_zero, List.set_cons_succ])
          refine take_d (i := 9) (v := ?va2_10) rfl (by rfl) (by kernel_rfl) (by kernel_rfl) (by kernel_rfl) (fun _ _ _ h => h) (Or.inl ⟨by rfl, ?ha2_10⟩) (by assumption) ?ra2_10
          case ha2_10 => (intro wS hSw; (try dsimp only at hSw); have hcq0 := cn hSw e0; go_simp; try (with_reducible rfl))
          (try simp only [Act.put, List.setIfInBounds_toArray, List.set_cons_zero, List.set_cons_succ])
          refine take_d (i := 10) (v := ?va2_11) rfl (by rfl) (by kernel_rfl) (by kernel_rfl) (by kernel_rfl) (fun _ _ _ h => h) (Or.inl ⟨by rfl, ?ha2_11⟩) (by assumption) ?ra2_11
          case ha2_11 => (intro wS hSw; (try dsimp only at hSw); go_simp; try (with_reducible rfl))
          (try simp only [Act.put, List.setIfInBounds_toArray, List.set_cons_zero, List.set_cons_succ])
          refine take_d (i := 11) (v := ?va2_12) rfl (by rfl) (by kernel_rfl) (by kernel_rfl) (by kernel_rfl) (fun _ _ _ h => h) (Or.inl ⟨by rfl, ?ha2_12⟩) (by assumption) ?ra2_12
          case ha2_12 => (intro wS hSw; (try dsimp only at hSw); go_simp; try (with_reducible rfl))
          (try simp only [Act.put, List.setIfInBounds_toArray, List.set_cons_zero, List.set_cons_succ])
          refine take_d (i := 12) (v := undef) rfl (by rfl) (by kernel_rfl) (by kernel_rfl) (by kernel_rfl) (fun _ _ _ h => h) (Or.inr ⟨by rfl, rfl⟩) (by assumption) ?ra2_13
          (try simp only [Act.put, List.setIfInBounds_toArray, List.set_cons_zero, List.set_cons_succ])
          refine take_d (i := 13) (v := undef) rfl (by rfl) (by kernel_rfl) (by kernel_rfl) (by kernel_rfl) (fun _ _ _ h => h) (Or.inr ⟨by rfl, rfl⟩) (by assumption) ?ra2_14
          (try simp only [Act.put, List.setIfInBounds_toArray, List.set_cons_zero, List.set_cons_succ])
          refine take_d (i := 14) (v := undef) rfl (by rfl) (by kernel_rfl) (by kernel_rfl) (by kernel_rfl) (fun _ _ _ h => h) (Or.inr ⟨by rfl, rfl⟩) (by assumption) ?ra2_15
          (try simp only [Act.put, List.setIfInBounds_toArray, List.set_cons_zero, List.set_cons_succ])
          refine take_d (i := 15) (v := ?va2_16) rfl (by rfl) (by kernel_rfl) (by kernel_rfl) (by kernel_rfl) (fun _ _ _ h => h) (Or.inl ⟨by rfl, ?ha2_16⟩) (by assumption) ?ra2_16
          case ha2_16 => (intro wS hSw; (try dsimp only at hSw); go_simp; try (with_reducible rfl))
          (try simp only [Act.put, List.setIfInBounds_toArray, List.set_cons_zero, List.set_cons_succ])
          refine take_d (i := 16) (v := ?va2_17) rfl (by rfl) (by kernel_rfl) (by kernel_rfl) (by kernel_rfl) (fun _ _ _ h => h) (Or.inl ⟨by rfl, ?ha2_17⟩) (by assumption) ?ra2_17
          case ha2_17 => (intro wS hSw; (try dsimp only at hSw); go_simp; try (with_reducible rfl))
          (try simp only [Act.put, List.setIfInBounds_toArray, List.set_cons_zero, List.set_cons_succ])
          refine take_d (i := 17) (v := ?va2_18) rfl (by rfl) (by kernel_rfl) (by kernel_rfl) (by kernel_rfl) (fun _ _ _ h => h) (Or.inl ⟨by rfl, ?ha2_18⟩) (by assumption) ?ra2_18
          case ha2_18 => (intro wS hSw; (try dsimp only at hSw); go_simp; try (with_reducible rfl))
          (try simp only [Act.put, List.setIfInBounds_toArray, List.set_cons_zero, List.set_cons_succ])
          refine take_d (i := 18) (v := ?va2_19) rfl (by rfl) (by kernel_rfl) (by kernel_rfl) (by kernel_rfl) (fun _ _ _ h => h) (Or.inl ⟨by rfl, ?ha2_19⟩) (by assumption) ?ra2_19
          case ha2_19 => (intro wS hSw; (try dsimp only at hSw); have hcq0 := cn hSw j0; go_simp; try (with_reducible rfl))
          (try simp only [Act.put, List.setIfInBounds_toArray, List.set_cons_zero, List.set_cons_succ])
          refine take_d (i := 19) (v := ?va2_20) rfl (by rfl) (by kernel_rfl) (by kernel_rfl) (by kernel_rfl) (fun _ _ _ h => h) (Or.inl ⟨by rfl, ?ha2_20⟩) (by assumption) ?ra2_20
          case ha2_20 => (intro wS hSw; (try dsimp only at hSw); go_simp; try (with_reducible rfl))
          (try simp only [Act.put, List.setIfInBounds_toArray, List.set_cons_zero, List.set_cons_succ])
          refine take_d (i := 20) (v := ?va2_21) rfl (by rfl) (by kernel_rfl) (by kernel_rfl) (by kernel_rfl) (fun _ _ _ h => h) (Or.inl ⟨by rfl, ?ha2_21⟩) (by assumption) ?ra2_21
          case ha2_21 => (intro wS hSw; (try dsimp only at hSw); go_simp; try (with_reducible rfl))
          (try simp only [Act.put, List.setIfInBounds_toArray, List.set_cons_zero, List.set_cons_succ])
          refine take_d (i := 21) (v := ?va2_22) rfl (by rfl) (by kernel_rfl) (by kernel_rfl) (by kernel_rfl) (fun _ _ _ h => h) (Or.inl ⟨by rfl, ?ha2_22⟩) (by assumption) ?ra2_22
          case ha2_22 => (intro wS hSw; (try dsimp only at hSw); go_simp; try (with_reducible rfl))
          (try simp only [Act.put, List.setIfInBounds_toArray, List.set_cons_zero, List.set_cons_succ])
          refine take_d (i := 22) (v := ?va2_23) rfl (by rfl) (by kernel_rfl) (by kernel_rfl) (by kernel_rfl) (fun _ _ _ h => h) (Or.inl ⟨by rfl, ?ha2_23⟩) (by assumption) ?ra2_23
          case ha2_23 => (intro wS hSw; (try dsimp only at hSw); go_simp; try (with_reducible rfl))
          (try simp only [Act.put, List.setIfInBounds_toArray, List.set_cons_zero, List.set_cons_succ])
          refine take_d (i := 23) (v := ?va2_24) rfl (by rfl) (by kernel_rfl) (by kernel_rfl) (by kernel_rfl) (fun _ _ _ h => h) (Or.inl ⟨by rfl, ?ha2_24⟩) (by assumption) ?ra2_24
          case ha2_24 => (intro wS hSw; (try dsimp only at hSw); have hcq0 := cn hSw j1; go_simp; try (with_reducible rfl))
          (try simp only [Act.put, List.setIfInBounds_toArray, List.set_cons_zero, List.set_cons_succ])
          refine take_d (i := 24) (v := ?va2_25) rfl (by rfl) (by kernel_rfl) (by kernel_rfl) (by kernel_rfl) (fun _ _ _ h => h) (Or.inl ⟨by rfl, ?ha2_25⟩) (by assumption) ?ra2_25
          case ha2_25 => (intro wS hSw; (try dsimp only at hSw); go_simp; try (with_reducible rfl))
          (try simp only [Act.put, List.setIfInBounds_toArray, List.set_cons_zero, List.set_cons_succ])
          refine take_d (i := 25) (v := ?va2_26) rfl (by rfl) (by kernel_rfl) (by kernel_rfl) (by kernel_rfl) (fun _ _ _ h => h) (Or.inl ⟨by rfl, ?ha2_26⟩) (by assumption) ?ra2_26
          case ha2_26 => (intro wS hSw; (try dsimp only at hSw); go_simp; try (with_reducible rfl))
          (try simp only [Act.put, List.setIfInBounds_toArray, List.set_cons_zero, List.set_cons_succ])
          refine take_d (i := 26) (v := ?va2_27) rfl (by rfl) (by kernel_rfl) (by kernel_rfl) (by kernel_rfl) (fun _ _ _ h => h) (Or.inl ⟨by rfl, ?ha2_27⟩) (by assumption) ?ra2_27
          case ha2_27 => (intro wS hSw; (try dsimp only at hSw); go_simp; try (with_reducible rfl))
          (try simp only [Act.put, List.setIfInBounds_toArray, List.set_cons_zero, List.set_cons_succ])
          refine take_d (i := 27) (v := ?va2_28) rfl (by rfl) (by kernel_rfl) (by kernel_rfl) (by kernel_rfl) (fun _ _ _ h => h) (Or.inl ⟨by rfl, ?ha2_28⟩) (by assumption) ?ra2_28
          case ha2_28 => (intro wS hSw; (try dsimp only at hSw); go_simp; try (with_reducible rfl))
          (try simp only [Act.put, List.setIfInBounds_toArray, List.set_cons_zero, List.set_cons_succ])
          refine take_d (i := 28) (v := ?va2_29) rfl (by rfl) (by kernel_rfl) (by kernel_rfl) (by kernel_rfl) (fun _ _ _ h => h) (Or.inl ⟨by rfl, ?ha2_29⟩) (by assumption) ?ra2_29
          case ha2_29 => (intro wS hSw; (try dsimp only at hSw); have hcq0 := cn hSw j1; go_simp; try (with_reducible rfl))
          (try simp only [Act.put, List.setIfInBounds_toArray, List.set_cons_zero, List.set_cons_succ])
          refine take_d (i := 29) (v := ?va2_30) rfl (by rfl) (by kernel_rfl) (by kernel_rfl) (by kernel_rfl) (fun _ _ _ h => h) (Or.inl ⟨by rfl, ?ha2_30⟩) (by assumption) ?ra2_30
          case ha2_30 => (intro wS hSw; (try dsimp only at hSw); go_simp; try (with_reducible rfl))
          (try simp only [Act.put, List.setIfInBounds_toArray, List.set_cons_zero, List.set_cons_succ])
          refine take_d (i := 30) (v := ?va2_31) rfl (by rfl) (by kernel_rfl) (by kernel_rfl) (by kernel_rfl) (fun _ _ _ h => h) (Or.inl ⟨by rfl, ?ha2_31⟩) (by assumption) ?ra2_31
          case ha2_31 => (intro wS hSw; (try dsimp only at hSw); go_simp; try (with_reducible rfl))
          (try simp only [Act.put, List.setIfInBounds_toArray, List.set_cons_zero, List.set_cons_succ])
          refine take_d (i := 31) (v := ?va2_32) rfl (by rfl) (by kernel_rfl) (by kernel_rfl) (by kernel_rfl) (fun _ _ _ h => h) (Or.inl ⟨by rfl, ?ha2_32⟩) (by assumption) ?ra2_32
          case ha2_32 => (intro wS hSw; (try dsimp only at hSw); go_simp; try (with_reducible rfl))
          (try simp only [Act.put, List.setIfInBounds_toArray, List.set_cons_zero, List.set_cons_succ])
          refine take_d (i := 32) (v := ?va2_33) rfl (by rfl) (by kernel_rfl) (by kernel_rfl) (by kernel_rfl) (fun _ _ _ h => h) (Or.inl ⟨by rfl, ?ha2_33⟩) (by assumption) ?ra2_33
          case ha2_33 => (intro wS hSw; (try dsimp only at hSw); go_simp; try (with_reducible rfl))
          (try simp only [Act.put, List.setIfInBounds_toArray, List.set_cons_zero, List.set_cons_succ])
          refine take_d (i := 33) (v := ?va2_34) rfl (by rfl) (by kernel_rfl) (by kernel_rfl) (by kernel_rfl) (fun _ _ _ h => h) (Or.inl ⟨by rfl, ?ha2_34⟩) (by assumption) ?ra2_34
          case ha2_34 => (intro wS hSw; (try dsimp only at hSw); go_simp; try (with_reducible rfl))
          (try simp only [Act.put, List.setIfInBounds_toArray, List.set_cons_zero, List.set_cons_succ])
          refine wpAnyH_done (by kernel_rfl) ?_ _
          exact ⟨_, _, _, _, _, _, _, _, _, _, _, _, _, _, _, _, _, _, _, _, _, _, _, _, _, _, _, _, _, _, _, _, _, ⟨HI.out.next hBk, HJ.out.below hBk⟩, rfl⟩
        · replace r2 := r2 rfl
          clear r3 r4
          have e0 := HI.out.g0
          refine wp_region_held_drew (S := (fun w' : World => Below W6.heap.size W6 w')) (by kernel_rfl) ?_ (fun hHeld => ?_)
          · (try dsimp only); first | (with_reducible exact below_dr _) | (with_reducible exact Below.refl _ _) | exact below_dr _
          have hBk := below_dr W6
          refine take_d (i := 0) (v := ?va3_1) rfl (by rfl) (by kernel_rfl) (by kernel_rfl) (by kernel_rfl) (fun _ _ _ h => h) (Or.inl ⟨by rfl, ?ha3_1⟩) (by assumption) ?ra3_1
          case ha3_1 => (intro wS hSw; (try dsimp only at hSw); go_simp; try (with_reducible rfl))
          (try simp only [Act.put, List.setIfInBounds_toArray, List.set_cons_zero, List.set_cons_succ])
          refine take_d (i := 1) (v := ?va3_2) rfl (by rfl) (by kernel_rfl) (by kernel_rfl) (by kernel_rfl) (fun _ _ _ h => h) (Or.inl ⟨by rfl, ?ha3_2⟩) (by assumption) ?ra3_2
          case ha3_2 => (intro wS hSw; (try dsimp only at hSw); go_simp; try (with_reducible rfl))
          (try simp only [Act.put, List.setIfInBounds_toArray, List.set_cons_zero, List.set_cons_succ])
          refine take_d (i := 2) (v := ?va3_3) rfl (by rfl) (by kernel_rfl) (by kernel_rfl) (by kernel_rfl) (fun _ _ _ h => h) (Or.inl ⟨by rfl, ?ha3_3⟩) (by assumption) ?ra3_3
          case ha3_3 => (intro wS hSw; (try dsimp only at hSw); go_simp; try (with_reducible rfl))
          (try simp only [Act.put, List.setIfInBounds_toArray, List.set_cons_zero, List.set_cons_succ])
          refine take_d (i := 3) (v := ?va3_4) rfl (by rfl) (by kernel_rfl) (by kernel_rfl) (by kernel_rfl) (fun _ _ _ h => h) (Or.inl ⟨by rfl, ?ha3_4⟩) (by assumption) ?ra3_4
          case ha3_4 => (intro wS hSw; (try dsimp only at hSw); have hcq0 := cn hSw j0; have hcq1 := cn hSw j1; go_simp; try (with_reducible rfl))
          (try simp only [Act.put, List.setIfInBounds_toArray, List.set_cons_zero, List.set_cons_succ])
          refine take_d (i := 4) (v := ?va3_5) rfl (by rfl) (by kernel_rfl) (by kernel_rfl) (by kernel_rfl) (fun _ _ _ h => h) (Or.inl ⟨by rfl, ?ha3_5⟩) (by assumption) ?ra3_5
          case ha3_5 => (intro wS hSw; (try dsimp only at hSw); go_simp; try (with_reducible rfl))
          (try simp only [Act.put, List.setIfInBounds_toArray, List.set_cons_zero, List.set_cons_succ])
          refine wpAnyH_ready (rs := [5]) (by kernel_rfl) (by simp) ?_
          refine AllReadyH.cons rfl (fun K hK => ?_) AllReadyH.nil
          go_simp
          go_at_call 36
          refine (HOn.out _).mono ?_
          rintro e wa3_6 ⟨rfl, bka3_6⟩
          have hBn := below_next hBk bka3_6
          clear hBk bka3_6
          have hBk := hBn
          clear hBn
          try go_simp
          refine hK.out _ _ ?_ (fun hHeld => ?_)
          · (try dsimp only); exact hBk
          clear hK K
          (try simp only [Act.put, List.setIfInBounds_toArray, List.set_cons_zero, List.set_cons_succ])
          refine take_d (i := 6) (v := ?va3_7) rfl (by rfl) (by kernel_rfl) (by kernel_rfl) (by kernel_rfl) (fun _ _ _ h => h) (Or.inl ⟨by rfl, ?ha3_7⟩) (by assumption) ?ra3_7
          case ha3_7 => (intro wS hSw; (try dsimp only at hSw); go_simp; try (with_reducible rfl))
          (try simp only [Act.put, List.setIfInBounds_toArray, List.set_cons_zero, List.set_cons_succ])
          refine take_d (i := 7) (v := ?va3_8) rfl (by rfl) (by kernel_rfl) (by kernel_rfl) (by kernel_rfl) (fun _ _ _ h => h) (Or.inl ⟨by rfl, ?ha3_8⟩) (by assumption) ?ra3_8
          case ha3_8 => (intro wS hSw; (try dsimp only at hSw); go_simp; try (with_reducible rfl))
          (try simp only [Act.put, List.setIfInBounds_toArray, List.set_cons_zero, List.set_cons_succ])
          refine take_d (i := 8) (v := ?va3_9) rfl (by rfl) (by kernel_rfl) (by kernel_rfl) (by kernel_rfl) (fun _ _ _ h => h) (Or.inl ⟨by rfl, ?ha3_9⟩) (by assumption) ?ra3_9
          case ha3_9 => (intro wS hSw; (try dsimp only at hSw); go_simp; try (with_reducible rfl))
          (try simp only [Act.put, List.setIfInBounds_toArray, List.set_cons_zero, List.set_cons_succ])
          refine take_d (i := 9) (v := ?va3_10) rfl (by rfl) (by kernel_rfl) (by kernel_rfl) (by kernel_rfl) (fun _ _ _ h => h) (Or.inl ⟨by rfl, ?ha3_10⟩) (by assumption) ?ra3_10
          case ha3_10 => (intro wS hSw; (try dsimp only at hSw); have hcq0 := cn hSw e0; go_simp; try (with_reducible rfl))
          (try simp only [Act.put, List.setIfInBounds_toArray, List.set_cons_zero, List.set_cons_succ])
          refine take_d (i := 10) (v := ?va3_11) rfl (by rfl) (by kernel_rfl) (by kernel_rfl) (by kernel_rfl) (fun _ _ _ h => h) (Or.inl ⟨by rfl, ?ha3_11⟩) (by assumption) ?ra3_11
          case ha3_11 => (intro wS hSw; (try dsimp only at hSw); go_simp; try (with_reducible rfl))
          (try simp only [Act.put, List.setIfInBounds_toArray, List.set_cons_zero, List.set_cons_succ])
          refine take_d (i := 11) (v := ?va3_12) rfl (by rfl) (by kernel_rfl) (by kernel_rfl) (by kernel_rfl) (fun _ _ _ h => h) (Or.inl ⟨by rfl, ?ha3_12⟩) (by assumption) ?ra3_12
          case ha3_12 => (intro wS hSw; (try dsimp only at hSw); go_simp; try (with_reducible rfl))
          (try simp only [Act.put, List.setIfInBounds_toArray, List.set_cons_zero, List.set_cons_succ])
          refine take_d (i := 12) (v := undef) rfl (by rfl) (by kernel_rfl) (by kernel_rfl) (by kernel_rfl) (fun _ _ _ h => h) (Or.inr ⟨by rfl, rfl⟩) (by assumption) ?ra3_13
          (try simp only [Act.put, List.setIfInBounds_toArray, List.set_cons_zero, List.set_cons_succ])
          refine take_d (i := 13) (v := undef) rfl (by rfl) (by kernel_rfl) (by kernel_rfl) (by kernel_rfl) (fun _ _ _ h => h) (Or.inr ⟨by rfl, rfl⟩) (by assumption) ?ra3_14
          (try simp only [Act.put, List.setIfInBounds_toArray, List.set_cons_zero, List.set_cons_succ])
          refine take_d (i := 14) (v := undef) rfl (by rfl) (by kernel_rfl) (by kernel_rfl) (by kernel_rfl) (fun _ _ _ h => h) (Or.inr ⟨by rfl, rfl⟩) (by assumption) ?ra3_15
          (try simp only [Act.put, List.setIfInBounds_toArray, List.set_cons_zero, List.set_cons_succ])
          refine take_d (i := 15) (v := ?va3_16) rfl (by rfl) (by kernel_rfl) (by kernel_rfl) (by kernel_rfl) (fun _ _ _ h => h) (Or.inl ⟨by rfl, ?ha3_16⟩) (by assumption) ?ra3_16
          case ha3_16 => (intro wS hSw; (try dsimp only at hSw); go_simp; try (with_reducible rfl))
          (try simp only [Act.put, List.setIfInBounds_toArray, List.set_cons_zero, List.set_cons_succ])
          refine take_d (i := 16) (v := ?va3_17) rfl (by rfl) (by kernel_rfl) (by kernel_rfl) (by kernel_rfl) (fun _ _ _ h => h) (Or.inl ⟨by rfl, ?ha3_17⟩) (by assumption) ?ra3_17
          case ha3_17 => (intro wS hSw; (try dsimp only at hSw); go_simp; try (with_reducible rfl))
          (try simp only [Act.put, List.setIfInBounds_toArray, List.set_cons_zero, List.set_cons_succ])
          refine take_d (i := 17) (v := ?va3_18) rfl (by rfl) (by kernel_rfl) (by kernel_rfl) (by kernel_rfl) (fun _ _ _ h => h) (Or.inl ⟨by rfl, ?ha3_18⟩) (by assumption) ?ra3_18
          case ha3_18 => (intro wS hSw; (try dsimp only at hSw); go_simp; try (with_reducible rfl))
          (try simp only [Act.put, List.setIfInBounds_toArray, List.set_cons_zero, List.set_cons_succ])
          refine take_d (i := 18) (v := ?va3_19) rfl (by rfl) (by kernel_rfl) (by kernel_rfl) (by kernel_rfl) (fun _ _ _ h => h) (Or.inl ⟨by rfl, ?ha3_19⟩) (by assumption) ?ra3_19
          case ha3_19 => (intro wS hSw; (try dsimp only at hSw); have hcq0 := cn hSw j0; go_simp; try (with_reducible rfl))
          (try simp only [Act.put, List.setIfInBounds_toArray, List.set_cons_zero, List.set_cons_succ])
          refine take_d (i := 19) (v := ?va3_20) rfl (by rfl) (by kernel_rfl) (by kernel_rfl) (by kernel_rfl) (fun _ _ _ h => h) (Or.inl ⟨by rfl, ?ha3_20⟩) (by assumption) ?ra3_20
          case ha3_20 => (intro wS hSw; (try dsimp only at hSw); go_simp; try (with_reducible rfl))
          (try simp only [Act.put, List.setIfInBounds_toArray, List.set_cons_zero, List.set_cons_succ])
          refine take_d (i := 20) (v := ?va3_21) rfl (by rfl) (by kernel_rfl) (by kernel_rfl) (by kernel_rfl) (fun _ _ _ h => h) (Or.inl ⟨by rfl, ?ha3_21⟩) (by assumption) ?ra3_21
          case ha3_21 => (intro wS hSw; (try dsimp only at hSw); go_simp; try (with_reducible rfl))
          (try simp only [Act.put, List.setIfInBounds_toArray, List.set_cons_zero, List.set_cons_succ])
          refine take_d (i := 21) (v := ?va3_22) rfl (by rfl) (by kernel_rfl) (by kernel_rfl) (by kernel_rfl) (fun _ _ _ h => h) (Or.inl ⟨by rfl, ?ha3_22⟩) (by assumption) ?ra3_22
          case ha3_22 => (intro wS hSw; (try dsimp only at hSw); go_simp; try (with_reducible rfl))
          (try simp only [Act.put, List.setIfInBounds_toArray, List.set_cons_zero, List.set_cons_succ])
          refine take_d (i := 22) (v := ?va3_23) rfl (by rfl) (by kernel_rfl) (by kernel_rfl) (by kernel_rfl) (fun _ _ _ h => h) (Or.inl ⟨by rfl, ?ha3_23⟩) (by assumption) ?ra3_23
          case ha3_23 => (intro wS hSw; (try dsimp only at hSw); go_simp; try (with_reducible rfl))
          (try simp only [Act.put, List.setIfInBounds_toArray, List.set_cons_zero, List.set_cons_succ])
          refine take_d (i := 23) (v := ?va3_24) rfl (by rfl) (by kernel_rfl) (by kernel_rfl) (by kernel_rfl) (fun _ _ _ h => h) (Or.inl ⟨by rfl, ?ha3_24⟩) (by assumption) ?ra3_24
          case ha3_24 => (intro wS hSw; (try dsimp only at hSw); have hcq0 := cn hSw j1; go_simp; try (with_reducible rfl))
          (try simp only [Act.put, List.setIfInBounds_toArray, List.set_cons_zero, List.set_cons_succ])
          refine take_d (i := 24) (v := ?va3_25) rfl (by rfl) (by kernel_rfl) (by kernel_rfl) (by kernel_rfl) (fun _ _ _ h => h) (Or.inl ⟨by rfl, ?ha3_25⟩) (by assumption) ?ra3_25
          case ha3_25 => (intro wS hSw; (try dsimp only at hSw); go_simp; try (with_reducible rfl))
          (try simp only [Act.put, List.setIfInBounds_toArray, List.set_cons_zero, List.set_cons_succ])
          refine take_d (i := 25) (v := ?va3_26) rfl (by rfl) (by kernel_rfl) (by kernel_rfl) (by kernel_rfl) (fun _ _ _ h => h) (Or.inl ⟨by rfl, ?ha3_26⟩) (by assumption) ?ra3_26
          case ha3_26 => (intro wS hSw; (try dsimp only at hSw); go_simp; try (with_reducible rfl))
          (try simp only [Act.put, List.setIfInBounds_toArray, List.set_cons_zero, List.set_cons_succ])
          refine take_d (i := 26) (v := ?va3_27) rfl (by rfl) (by kernel_rfl) (by kernel_rfl) (by kernel_rfl) (fun _ _ _ h => h) (Or.inl ⟨by rfl, ?ha3_27⟩) (by assumption) ?ra3_27
          case ha3_27 => (intro wS hSw; (try dsimp only at hSw); go_simp; try (with_reducible rfl))
          (try simp only [Act.put, List.setIfInBounds_toArray, List.set_cons_zero, List.set_cons_succ])
          refine take_d (i := 27) (v := undef) rfl (by rfl) (by kernel_rfl) (by kernel_rfl) (by kernel_rfl) (fun _ _ _ h => h) (Or.inr ⟨by rfl, rfl⟩) (by assumption) ?ra3_28
          (try simp only [Act.put, List.setIfInBounds_toArray, List.set_cons_zero, List.set_cons_succ])
          refine take_d (i := 28) (v := undef) rfl (by rfl) (by kernel_rfl) (by kernel_rfl) (by kernel_rfl) (fun _ _ _ h => h) (Or.inr ⟨by rfl, rfl⟩) (by assumption) ?ra3_29
          (try simp only [Act.put, List.setIfInBounds_toArray, List.set_cons_zero, List.set_cons_succ])
          refine take_d (i := 29) (v := undef) rfl (by rfl) (by kernel_rfl) (by kernel_rfl) (by kernel_rfl) (fun _ _ _ h => h) (Or.inr ⟨by rfl, rfl⟩) (by assumption) ?ra3_30
          (try simp only [Act.put, List.setIfInBounds_toArray, List.set_cons_zero, List.set_cons_succ])
          refine take_d (i := 30) (v := ?va3_31) rfl (by rfl) (by kernel_rfl) (by kernel_rfl) (by kernel_rfl) (fun _ _ _ h => h) (Or.inl ⟨by rfl, ?ha3_31⟩) (by assumption) ?ra3_31
          case ha3_31 => (intro wS hSw; (try dsimp only at hSw); go_simp; try (with_reducible rfl))
          (try simp only [Act.put, List.setIfInBounds_toArray, List.set_cons_zero, List.set_cons_succ])
          refine take_d (i := 31) (v := ?va3_32) rfl (by rfl) (by kernel_rfl) (by kernel_rfl) (by kernel_rfl) (fun _ _ _ h => h) (Or.inl ⟨by rfl, ?ha3_32⟩) (by assumption) ?ra3_32
          case ha3_32 => (intro wS hSw; (try dsimp only at hSw); go_simp; try (with_reducible rfl))
          (try simp only [Act.put, List.setIfInBounds_toArray, List.set_cons_zero, List.set_cons_succ])
          refine take_d (i := 32) (v := ?va3_33) rfl (by rfl) (by kernel_rfl) (by kernel_rfl) (by kernel_rfl) (fun _ _ _ h => h) (Or.inl ⟨by rfl, ?ha3_33⟩) (by assumption) ?ra3_33
          case ha3_33 => (intro wS hSw; (try dsimp only at hSw); go_simp; try (with_reducible rfl))
          (try simp only [Act.put, List.setIfInBounds_toArray, List.set_cons_zero, List.set_cons_succ])
          refine take_d (i := 33) (v := ?va3_34) rfl (by rfl) (by kernel_rfl) (by kernel_rfl) (by kernel_rfl) (fun _ _ _ h => h) (Or.inl ⟨by rfl, ?ha3_34⟩) (by assumption) ?ra3_34
          case ha3_34 => (intro wS hSw; (try dsimp only at hSw); go_simp; try (with_reducible rfl))
          (try simp only [Act.put, List.setIfInBounds_toArray, List.set_cons_zero, List.set_cons_succ])
          refine wpAnyH_done (by kernel_rfl) ?_ _
          exact ⟨_, _, _, _, _, _, _, _, _, _, _, _, _, _, _, _, _, _, _, _, _, _, _, _, _, _, _, _, _, _, _, _, _, ⟨HI.out.next hBk, HJ.out.below hBk⟩, rfl⟩
      · cases c
        · replace r3 := r3 rfl
          replace r4 := r4 rfl
          clear r2
          have e0 := HI.out.g0
          refine wp_region_held_drew (S := (fun w' : World => Below W6.heap.size W6 w')) (by kernel_rfl) ?_ (fun hHeld => ?_)
          · (try dsimp only); first | (with_reducible exact below_dr _) | (with_reducible exact Below.refl _ _) | exact below_dr _
          have hBk := below_dr W6
          refine take_d (i := 0) (v := ?va4_1) rfl (by rfl) (by kernel_rfl) (by kernel_rfl) (by kernel_rfl) (fun _ _ _ h => h) (Or.inl ⟨by rfl, ?ha4_1⟩) (by assumption) ?ra4_1
          case ha4_1 => (intro wS hSw; (try dsimp only at hSw); go_simp; try (with_reducible rfl))
          (try simp only [Act.put, List.setIfInBounds_toArray, List.set_cons_zero, List.set_cons_succ])
          refine take_d (i := 1) (v := ?va4_2) rfl (by rfl) (by kernel_rfl) (by kernel_rfl) (by kernel_rfl) (fun _ _ _ h => h) (Or.inl ⟨by rfl, ?ha4_2⟩) (by assumption) ?ra4_2
          case ha4_2 => (intro wS hSw; (try dsimp only at hSw); go_simp; try (with_reducible rfl))
          (try simp only [Act.put, List.setIfInBounds_toArray, List.set_cons_zero, List.set_cons_succ])
          refine take_d (i := 2) (v := ?va4_3) rfl (by rfl) (by kernel_rfl) (by kernel_rfl) (by kernel_rfl) (fun _ _ _ h => h) (Or.inl ⟨by rfl, ?ha4_3⟩) (by assumption) ?ra4_3
          case ha4_3 => (intro wS hSw; (try dsimp only at hSw); go_simp; try (with_reducible rfl))
          (try simp only [Act.put, List.setIfInBounds_toArray, List.set_cons_zero, List.set_cons_succ])
          refine take_d (i := 3) (v := ?va4_4) rfl (by rfl) (by kernel_rfl) (by kernel_rfl) (by kernel_rfl) (fun _ _ _ h => h) (Or.inl ⟨by rfl, ?ha4_4⟩) (by assumption) ?ra4_4
          case ha4_4 => (intro wS hSw; (try dsimp only at hSw); have hcq0 := cn hSw j0; have hcq1 := cn hSw j1; go_simp; try (with_reducible rfl))
          (try simp only [Act.put, List.setIfInBounds_toArray, List.set_cons_zero, List.set_cons_succ])
          refine take_d (i := 4) (v := ?va4_5) rfl (by rfl) (by kernel_rfl) (by kernel_rfl) (by kernel_rfl) (fun _ _ _ h => h) (Or.inl ⟨by rfl, ?ha4_5⟩) (by assumption) ?ra4_5
          case ha4_5 => (intro wS hSw; (try dsimp only at hSw); go_simp; try (with_reducible rfl))
          (try simp only [Act.put, List.setIfInBounds_toArray, List.set_cons_zero, List.set_cons_succ])
          refine wpAnyH_ready (rs := [5]) (by kernel_rfl) (by simp) ?_
          refine AllReadyH.cons rfl (fun K hK => ?_) AllReadyH.nil
          go_simp
          go_at_call 36
          refine (HOn.out _).mono ?_
          rintro e wa4_6 ⟨rfl, bka4_6⟩
          have hBn := below_next hBk bka4_6
          clear hBk bka4_6
          have hBk := hBn
          clear hBn
          try go_simp
          refine hK.out _ _ ?_ (fun hHeld => ?_)
          · (try dsimp only); exact hBk
          clear hK K
          (try simp only [Act.put, List.setIfInBounds_toArray, List.set_cons_zero, List.set_cons_succ])
          refine take_d (i := 6) (v := ?va4_7) rfl (by rfl) (by kernel_rfl) (by kernel_rfl) (by kernel_rfl) (fun _ _ _ h => h) (Or.inl ⟨by rfl, ?ha4_7⟩) (by assumption) ?ra4_7
          case ha4_7 => (intro wS hSw; (try dsimp only at hSw); go_simp; try (with_reducible rfl))
          (try simp only [Act.put, List.setIfInBounds_toArray, List.set_cons_zero, List.set_cons_succ])
          refine take_d (i := 7) (v := ?va4_8) rfl (by rfl) (by kernel_rfl) (by kernel_rfl) (by kernel_rfl) (fun _ _ _ h => h) (Or.inl ⟨by rfl, ?ha4_8⟩) (by assumption) ?ra4_8
          case ha4_8 => (intro wS hSw; (try dsimp only at hSw); go_simp; try (with_reducible rfl))
          (try simp only [Act.put, List.setIfInBounds_toArray, List.set_cons_zero, List.set_cons_succ])
          refine take_d (i := 8) (v := ?va4_9) rfl (by rfl) (by kernel_rfl) (by kernel_rfl) (by kernel_rfl) (fun _ _ _ h => h) (Or.inl ⟨by rfl, ?ha4_9⟩) (by assumption) ?ra4_9
          case ha4_9 => (intro wS hSw; (try dsimp only at hSw); go_simp; try (with_reducible rfl))
          (try simp only [Act.put, List.setIfInBounds_toArray, List.set_cons_zero, List.set_cons_succ])
          refine take_d (i := 9) (v := ?va4_10) rfl (by rfl) (by kernel_rfl) (by kernel_rfl) (by kernel_rfl) (fun _ _ _ h => h) (Or.inl ⟨by rfl, ?ha4_10⟩) (by assumption) ?ra4_10
          case ha4_10 => (intro wS hSw; (try dsimp only at hSw); have hcq0 := cn hSw e0; go_simp; try (with_reducible rfl))
          (try simp only [Act.put, List.setIfInBounds_toArray, List.set_cons_zero, List.set_cons_succ])
          refine take_d (i := 10) (v := ?va4_11) rfl (by rfl) (by kernel_rfl) (by kernel_rfl) (by kernel_rfl) (fun _ _ _ h => h) (Or.inl ⟨by rfl, ?ha4_11⟩) (by assumption) ?ra4_11
          case ha4_11 => (intro wS hSw; (try dsimp only at hSw); go_simp; try (with_reducible rfl))
          (try simp only [Act.put, List.setIfInBounds_toArray, List.set_cons_zero, List.set_cons_succ])
          refine take_d (i := 11) (v := ?va4_12) rfl (by rfl) (by kernel_rfl) (by kernel_rfl) (by kernel_rfl) (fun _ _ _ h => h) (Or.inl ⟨by rfl, ?ha4_12⟩) (by assumption) ?ra4_12
          case ha4_12 => (intro wS hSw; (try dsimp only at hSw); go_simp; try (with_reducible rfl))
          (try simp only [Act.put, List.setIfInBounds_toArray, List.set_cons_zero, List.set_cons_succ])
          refine take_d (i := 12) (v := ?va4_13) rfl (by rfl) (by kernel_rfl) (by kernel_rfl) (by kernel_rfl) (fun _ _ _ h => h) (Or.inl ⟨by rfl, ?ha4_13⟩) (by assumption) ?ra4_13
          case ha4_13 => (intro wS hSw; (try dsimp only at hSw); go_simp; try (with_reducible rfl))
          (try simp only [Act.put, List.setIfInBounds_toArray, List.set_cons_zero, List.set_cons_succ])
          refine take_d (i := 13) (v := ?va4_14) rfl (by rfl) (by kernel_rfl) (by kernel_rfl) (by kernel_rfl) (fun _ _ _ h => h) (Or.inl ⟨by rfl, ?ha4_14⟩) (by assumption) ?ra4_14
          case ha4_14 => (intro wS hSw; (try dsimp only at hSw); have hcq0 := cn hSw e0; go_simp; try (with_reducible rfl))
          (try simp only [Act.put, List.setIfInBounds_toArray, List.set_cons_zero, List.set_cons_succ])
          refine take_d (i := 14) (v := ?va4_15) rfl (by rfl) (by kernel_rfl) (by kernel_rfl) (by kernel_rfl) (fun _ _ _ h => h) (Or.inl ⟨by rfl, ?ha4_15⟩) (by assumption) ?ra4_15
          case ha4_15 => (intro wS hSw; (try dsimp only at hSw); go_simp; try (with_reducible rfl))
          (try simp only [Act.put, List.setIfInBounds_toArray, List.set_cons_zero, List.set_cons_succ])
          refine take_d (i := 15) (v := ?va4_16) rfl (by rfl) (by kernel_rfl) (by kernel_rfl) (by kernel_rfl) (fun _ _ _ h => h) (Or.inl ⟨by rfl, ?ha4_16⟩) (by assumption) ?ra4_16
          case ha4_16 => (intro wS hSw; (try dsimp only at hSw); go_simp; try (with_reducible rfl))
          (try simp only [Act.put, List.setIfInBounds_toArray, List.set_cons_zero, List.set_cons_succ])
          refine take_d (i := 16) (v := ?va4_17) rfl (by rfl) (by kernel_rfl) (by kernel_rfl) (by kernel_rfl) (fun _ _ _ h => h) (Or.inl ⟨by rfl, ?ha4_17⟩) (by assumption) ?ra4_17
          case ha4_17 => (intro wS hSw; (try dsimp only at hSw); go_simp; try (with_reducible rfl))
          (try simp only [Act.put, List.setIfInBounds_toArray, List.set_cons_zero, List.set_cons_succ])
          refine take_d (i := 17) (v := ?va4_18) rfl (by rfl) (by kernel_rfl) (by kernel_rfl) (by kernel_rfl) (fun _ _ _ h => h) (Or.inl ⟨by rfl, ?ha4_18⟩) (by assumption) ?ra4_18
          case ha4_18 => (intro wS hSw; (try dsimp only at hSw); go_simp; try (with_reducible rfl))
          (try simp only [Act.put, List.setIfInBounds_toArray, List.set_cons_zero, List.set_cons_succ])
          refine take_d (i := 18) (v := ?va4_19) rfl (by rfl) (by kernel_rfl) (by kernel_rfl) (by kernel_rfl) (fun _ _ _ h => h) (Or.inl ⟨by rfl, ?ha4_19⟩) (by assumption) ?ra4_19
          case ha4_19 => (intro wS hSw; (try dsimp only at hSw); have hcq0 := cn hSw j0; go_simp; try (with_reducible rfl))
          (try simp only [Act.put, List.setIfInBounds_toArray, List.set_cons_zero, List.set_cons_succ])
          refine take_d (i := 19) (v := ?va4_20) rfl (by rfl) (by kernel_rfl) (by kernel_rfl) (by kernel_rfl) (fun _ _ _ h => h) (Or.inl ⟨by rfl, ?ha4_20⟩) (by assumption) ?ra4_20
          case ha4_20 => (intro wS hSw; (try dsimp only at hSw); go_simp; try (with_reducible rfl))
          (try simp only [Act.put, List.setIfInBounds_toArray, List.set_cons_zero, List.set_cons_succ])
          refine take_d (i := 20) (v := ?va4_21) rfl (by rfl) (by kernel_rfl) (by kernel_rfl) (by kernel_rfl) (fun _ _ _ h => h) (Or.inl ⟨by rfl, ?ha4_21⟩) (by assumption) ?ra4_21
          case ha4_21 => (intro wS hSw; (try dsimp only at hSw); go_simp; try (with_reducible rfl))
          (try simp only [Act.put, List.setIfInBounds_toArray, List.set_cons_zero, List.set_cons_succ])
          refine take_d (i := 21) (v := ?va4_22) rfl (by rfl) (by kernel_rfl) (by kernel_rfl) (by kernel_rfl) (fun _ _ _ h => h) (Or.inl ⟨by rfl, ?ha4_22⟩) (by assumption) ?ra4_22
          case ha4_22 => (intro wS hSw; (try dsimp only at hSw); go_simp; try (with_reducible rfl))
          (try simp only [Act.put, List.setIfInBounds_toArray, List.set_cons_zero, List.set_cons_succ])
          refine take_d (i := 22) (v := ?va4_23) rfl (by rfl) (by kernel_rfl) (by kernel_rfl) (by kernel_rfl) (fun _ _ _ h => h) (Or.inl ⟨by rfl, ?ha4_23⟩) (by assumption) ?ra4_23
          case ha4_23 => (intro wS hSw; (try dsimp only at hSw); go_simp; try (with_reducible rfl))
          (try simp only [Act.put, List.setIfInBounds_toArray, List.set_cons_zero, List.set_cons_succ])
          refine take_d (i := 23) (v := ?va4_24) rfl (by rfl) (by kernel_rfl) (by kernel_rfl) (by kernel_rfl) (fun _ _ _ h => h) (Or.inl ⟨by rfl, ?ha4_24⟩) (by assumption) ?ra4_24
          case ha4_24 => (intro wS hSw; (try dsimp only at hSw); have hcq0 := cn hSw j1; go_simp; try (with_reducible rfl))
          (try simp only [Act.put, List.setIfInBounds_toArray, List.set_cons_zero, List.set_cons_succ])
          refine take_d (i := 24) (v := ?va4_25) rfl (by rfl) (by kernel_rfl) (by kernel_rfl) (by kernel_rfl) (fun _ _ _ h => h) (Or.inl ⟨by rfl, ?ha4_25⟩) (by assumption) ?ra4_25
          case ha4_25 => (intro wS hSw; (try dsimp only at hSw); go_simp; try (with_reducible rfl))
          (try simp only [Act.put, List.setIfInBounds_toArray, List.set_cons_zero, List.set_cons_succ])
          refine take_d (i := 25) (v := ?va4_26) rfl (by rfl) (by kernel_rfl) (by kernel_rfl) (by kernel_rfl) (fun _ _ _ h => h) (Or.inl ⟨by rfl, ?ha4_26⟩) (by assumption) ?ra4_26
          case ha4_26 => (intro wS hSw; (try dsimp only at hSw); go_simp; try (with_reducible rfl))
          (try simp only [Act.put, List.setIfInBounds_toArray, List.set_cons_zero, List.set_cons_succ])
          refine take_d (i := 26) (v := ?va4_27) rfl (by rfl) (by kernel_rfl) (by kernel_rfl) (by kernel_rfl) (fun _ _ _ h => h) (Or.inl ⟨by rfl, ?ha4_27⟩) (by assumption) ?ra4_27
          case ha4_27 => (intro wS hSw; (try dsimp only at hSw); go_simp; try (with_reducible rfl))
          (try simp only [Act.put, List.setIfInBounds_toArray, List.set_cons_zero, List.set_cons_succ])
          refine take_d (i := 27) (v := ?va4_28) rfl (by rfl) (by kernel_rfl) (by kernel_rfl) (by kernel_rfl) (fun _ _ _ h => h) (Or.inl ⟨by rfl, ?ha4_28⟩) (by assumption) ?ra4_28
          case ha4_28 => (intro wS hSw; (try dsimp only at hSw); go_simp; try (with_reducible rfl))
          (try simp only [Act.put, List.setIfInBounds_toArray, List.set_cons_zero, List.set_cons_succ])
          refine take_d (i := 28) (v := ?va4_29) rfl (by rfl) (by kernel_rfl) (by kernel_rfl) (by kernel_rfl) (fun _ _ _ h => h) (Or.inl ⟨by rfl, ?ha4_29⟩) (by assumption) ?ra4_29
          case ha4_29 => (intro wS hSw; (try dsimp only at hSw); have hcq0 := cn hSw j1; go_simp; try (with_reducible rfl))
          (try simp only [Act.put, List.setIfInBounds_toArray, List.set_cons_zero, List.set_cons_succ])
          refine take_d (i := 29) (v := ?va4_30) rfl (by rfl) (by kernel_rfl) (by kernel_rfl) (by kernel_rfl) (fun _ _ _ h => h) (Or.inl ⟨by rfl, ?ha4_30⟩) (by assumption) ?ra4_30
          case ha4_30 => (intro wS hSw; (try dsimp only at hSw); go_simp; try (with_reducible rfl))
          (try simp only [Act.put, List.setIfInBounds_toArray, List.set_cons_zero, List.set_cons_succ])
          refine take_d (i := 30) (v := ?va4_31) rfl (by rfl) (by kernel_rfl) (by kernel_rfl) (by kernel_rfl) (fun _ _ _ h => h) (Or.inl ⟨by rfl, ?ha4_31⟩) (by assumption) ?ra4_31
          case ha4_31 => (intro wS hSw; (try dsimp only at hSw); go_simp; try (with_reducible rfl))
          (try simp only [Act.put, List.setIfInBounds_toArray, List.set_cons_zero, List.set_cons_succ])
          refine take_d (i := 31) (v := ?va4_32) rfl (by rfl) (by kernel_rfl) (by kernel_rfl) (by kernel_rfl) (fun _ _ _ h => h) (Or.inl ⟨by rfl, ?ha4_32⟩) (by assumption) ?ra4_32
          case ha4_32 => (intro wS hSw; (try dsimp only at hSw); go_simp; try (with_reducible rfl))
          (try simp only [Act.put, List.setIfInBounds_toArray, List.set_cons_zero, List.set_cons_succ])
          refine take_d (i := 32) (v := ?va4_33) rfl (by rfl) (by kernel_rfl) (by kernel_rfl) (by kernel_rfl) (fun _ _ _ h => h) (Or.inl ⟨by rfl, ?ha4_33⟩) (by assumption) ?ra4_33
          case ha4_33 => (intro wS hSw; (try dsimp only at hSw); go_simp; try (with_reducible rfl))
          (try simp only [Act.put, List.setIfInBounds_toArray, List.set_cons_zero, List.set_cons_succ])
          refine take_d (i := 33) (v := ?va4_34) rfl (by rfl) (by kernel_rfl) (by kernel_rfl) (by kernel_rfl) (fun _ _ _ h => h) (Or.inl ⟨by rfl, ?ha4_34⟩) (by assumption) ?ra4_34
          case ha4_34 => (intro wS hSw; (try dsimp only at hSw); go_simp; try (with_reducible rfl))
          (try simp only [Act.put, List.setIfInBounds_toArray, List.set_cons_zero, List.set_cons_succ])
          refine wpAnyH_done (by kernel_rfl) ?_ _
          exact ⟨_, _, _, _, _, _, _, _, _, _, _, _, _, _, _, _, _, _, _, _, _, _, _, _, _, _, _, _, _, _, _, _, _, ⟨HI.out.next hBk, HJ.out.below hBk⟩, rfl⟩
        · replace r2 := r2 rfl
          clear r3 r4
          have e0 := HI.out.g0
          refine wp_region_held_drew (S := (fun w' : World => Below W6.heap.size W6 w')) (by kernel_rfl) ?_ (fun hHeld => ?_)
          · (try dsimp only); first | (with_reducible exact below_dr _) | (with_reducible exact Below.refl _ _) | exact below_dr _
          have hBk := below_dr W6
          refine take_d (i := 0) (v := ?va5_1) rfl (by rfl) (by kernel_rfl) (by kernel_rfl) (by kernel_rfl) (fun _ _ _ h => h) (Or.inl ⟨by rfl, ?ha5_1⟩) (by assumption) ?ra5_1
          case ha5_1 => (intro wS hSw; (try dsimp only at hSw); go_simp; try (with_reducible rfl))
          (try simp only [Act.put, List.setIfInBounds_toArray, List.set_cons_zero, List.set_cons_succ])
          refine take_d (i := 1) (v := ?va5_2) rfl (by rfl) (by kernel_rfl) (by kernel_rfl) (by kernel_rfl) (fun _ _ _ h => h) (Or.inl ⟨by rfl, ?ha5_2⟩) (by assumption) ?ra5_2
          case ha5_2 => (intro wS hSw; (try dsimp only at hSw); go_simp; try (with_reducible rfl))
          (try simp only [Act.put, List.setIfInBounds_toArray, List.set_cons_zero, List.set_cons_succ])
          refine take_d (i := 2) (v := ?va5_3) rfl (by rfl) (by kernel_rfl) (by kernel_rfl) (by kernel_rfl) (fun _ _ _ h => h) (Or.inl ⟨by rfl, ?ha5_3⟩) (by assumption) ?ra5_3
          case ha5_3 => (intro wS hSw; (try dsimp only at hSw); go_simp; try (with_reducible rfl))
          (try simp only [Act.put, List.setIfInBounds_toArray, List.set_cons_zero, List.set_cons_succ])
          refine take_d (i := 3) (v := ?va5_4) rfl (by rfl) (by kernel_rfl) (by kernel_rfl) (by kernel_rfl) (fun _ _ _ h => h) (Or.inl ⟨by rfl, ?ha5_4⟩) (by assumption) ?ra5_4
          case ha5_4 => (intro wS hSw; (try dsimp only at hSw); have hcq0 := cn hSw j0; have hcq1 := cn hSw j1; go_simp; try (with_reducible rfl))
          (try simp only [Act.put, List.setIfInBounds_toArray, List.set_cons_zero, List.set_cons_succ])
          refine take_d (i := 4) (v := ?va5_5) rfl (by rfl) (by kernel_rfl) (by kernel_rfl) (by kernel_rfl) (fun _ _ _ h => h) (Or.inl ⟨by rfl, ?ha5_5⟩) (by assumption) ?ra5_5
          case ha5_5 => (intro wS hSw; (try dsimp only at hSw); go_simp; try (with_reducible rfl))
          (try simp only [Act.put, List.setIfInBounds_toArray, List.set_cons_zero, List.set_cons_succ])
          refine wpAnyH_ready (rs := [5]) (by kernel_rfl) (by simp) ?_
          refine AllReadyH.cons rfl (fun K hK => ?_) AllReadyH.nil
          go_simp
          go_at_call 36
          refine (HOn.out _).mono ?_
          rintro e wa5_6 ⟨rfl, bka5_6⟩
          have hBn := below_next hBk bka5_6
          clear hBk bka5_6
          have hBk := hBn
          clear hBn
          try go_simp
          refine hK.out _ _ ?_ (fun hHeld => ?_)
          · (try dsimp only); exact hBk
          clear hK K
          (try simp only [Act.put, List.setIfInBounds_toArray, List.set_cons_zero, List.set_cons_succ])
          refine take_d (i := 6) (v := ?va5_7) rfl (by rfl) (by kernel_rfl) (by kernel_rfl) (by kernel_rfl) (fun _ _ _ h => h) (Or.inl ⟨by rfl, ?ha5_7⟩) (by assumption) ?ra5_7
          case ha5_7 => (intro wS hSw; (try dsimp only at hSw); go_simp; try (with_reducible rfl))
          (try simp only [Act.put, List.setIfInBounds_toArray, List.set_cons_zero, List.set_cons_succ])
          refine take_d (i := 7) (v := ?va5_8) rfl (by rfl) (by kernel_rfl) (by kernel_rfl) (by kernel_rfl) (fun _ _ _ h => h) (Or.inl ⟨by rfl, ?ha5_8⟩) (by assumption) ?ra5_8
          case ha5_8 => (intro wS hSw; (try dsimp only at hSw); go_simp; try (with_reducible rfl))
          (try simp only [Act.put, List.setIfInBounds_toArray, List.set_cons_zero, List.set_cons_succ])
          refine take_d (i := 8) (v := ?va5_9) rfl (by rfl) (by kernel_rfl) (by kernel_rfl) (by kernel_rfl) (fun _ _ _ h => h) (Or.inl ⟨by rfl, ?ha5_9⟩) (by assumption) ?ra5_9
          case ha5_9 => (intro wS hSw; (try dsimp only at hSw); go_simp; try (with_reducible rfl))
          (try simp only [Act.put, List.setIfInBounds_toArray, List.set_cons_zero, List.set_cons_succ])
          refine take_d (i := 9) (v := ?va5_10) rfl (by rfl) (by kernel_rfl) (by kernel_rfl) (by kernel_rfl) (fun _ _ _ h => h) (Or.inl ⟨by rfl, ?ha5_10⟩) (by assumption) ?ra5_10
          case ha5_10 => (intro wS hSw; (try dsimp only at hSw); have hcq0 := cn hSw e0; go_simp; try (with_reducible rfl))
          (try simp only [Act.put, List.setIfInBounds_toArray, List.set_cons_zero, List.set_cons_succ])
          refine take_d (i := 10) (v := ?va5_11) rfl (by rfl) (by kernel_rfl) (by kernel_rfl) (by kernel_rfl) (fun _ _ _ h => h) (Or.inl ⟨by rfl, ?ha5_11⟩) (by assumption) ?ra5_11
          case ha5_11 => (intro wS hSw; (try dsimp only at hSw); go_simp; try (with_reducible rfl))
          (try simp only [Act.put, List.setIfInBounds_toArray, List.set_cons_zero, List.set_cons_succ])
          refine take_d (i := 11) (v := ?va5_12) rfl (by rfl) (by kernel_rfl) (by kernel_rfl) (by kernel_rfl) (fun _ _ _ h => h) (Or.inl ⟨by rfl, ?ha5_12⟩) (by assumption) ?ra5_12
          case ha5_12 => (intro wS hSw; (try dsimp only at hSw); go_simp; try (with_reducible rfl))
          (try simp only [Act.put, List.setIfInBounds_toArray, List.set_cons_zero, List.set_cons_succ])
          refine take_d (i := 12) (v := ?va5_13) rfl (by rfl) (by kernel_rfl) (by kernel_rfl) (by kernel_rfl) (fun _ _ _ h => h) (Or.inl ⟨by rfl, ?ha5_13⟩) (by assumption) ?ra5_13
          case ha5_13 => (intro wS hSw; (try dsimp only at hSw); go_simp; try (with_reducible rfl))
          (try simp only [Act.put, List.setIfInBounds_toArray, List.set_cons_zero, List.set_cons_succ])
          refine take_d (i := 13) (v := ?va5_14) rfl (by rfl) (by kernel_rfl) (by kernel_rfl) (by kernel_rfl) (fun _ _ _ h => h) (Or.inl ⟨by rfl, ?ha5_14⟩) (by assumption) ?ra5_14
          case ha5_14 => (intro wS hSw; (try dsimp only at hSw); have hcq0 := cn hSw e0; go_simp; try (with_reducible rfl))
          (try simp only [Act.put, List.setIfInBounds_toArray, List.set_cons_zero, List.set_cons_succ])
          refine take_d (i := 14) (v := ?va5_15) rfl (by rfl) (by kernel_rfl) (by kernel_rfl) (by kernel_rfl) (fun _ _ _ h => h) (Or.inl ⟨by rfl, ?ha5_15⟩) (by assumption) ?ra5_15
          case ha5_15 => (intro wS hSw; (try dsimp only at hSw); go_simp; try (with_reducible rfl))
          (try simp only [Act.put, List.setIfInBounds_toArray, List.set_cons_zero, List.set_cons_succ])
          refine take_d (i := 15) (v := ?va5_16) rfl (by rfl) (by kernel_rfl) (by kernel_rfl) (by kernel_rfl) (fun _ _ _ h => h) (Or.inl ⟨by rfl, ?ha5_16⟩) (by assumption) ?ra5_16
          case ha5_16 => (intro wS hSw; (try dsimp only at hSw); go_simp; try (with_reducible rfl))
          (try simp only [Act.put, List.setIfInBounds_toArray, List.set_cons_zero, List.set_cons_succ])
          refine take_d (i := 16) (v := ?va5_17) rfl (by rfl) (by kernel_rfl) (by kernel_rfl) (by kernel_rfl) (fun _ _ _ h => h) (Or.inl ⟨by rfl, ?ha5_17⟩) (by assumption) ?ra5_17
          case ha5_17 => (intro wS hSw; (try dsimp only at hSw); go_simp; try (with_reducible rfl))
          (try simp only [Act.put, List.setIfInBounds_toArray, List.set_cons_zero, List.set_cons_succ])
          refine take_d (i := 17) (v := ?va5_18) rfl (by rfl) (by kernel_rfl) (by kernel_rfl) (by kernel_rfl) (fun _ _ _ h => h) (Or.inl ⟨by rfl, ?ha5_18⟩) (by assumption) ?ra5_18
          case ha5_18 => (intro wS hSw; (try dsimp only at hSw); go_simp; try (with_reducible rfl))
          (try simp only [Act.put, List.setIfInBounds_toArray, List.set_cons_zero, List.set_cons_succ])
          refine take_d (i := 18) (v := ?va5_19) rfl (by rfl) (by kernel_rfl) (by kernel_rfl) (by kernel_rfl) (fun _ _ _ h => h) (Or.inl ⟨by rfl, ?ha5_19⟩) (by assumption) ?ra5_19
          case ha5_19 => (intro wS hSw; (try dsimp only at hSw); have hcq0 := cn hSw j0; go_simp; try (with_reducible rfl))
          (try simp only [Act.put, List.setIfInBounds_toArray, List.set_cons_zero, List.set_cons_succ])
          refine take_d (i := 19) (v := ?va5_20) rfl (by rfl) (by kernel_rfl) (by kernel_rfl) (by kernel_rfl) (fun _ _ _ h => h) (Or.inl ⟨by rfl, ?ha5_20⟩) (by assumption) ?ra5_20
          case ha5_20 => (intro wS hSw; (try dsimp only at hSw); go_simp; try (with_reducible rfl))
          (try simp only [Act.put, List.setIfInBounds_toArray, List.set_cons_zero, List.set_cons_succ])
          refine take_d (i := 20) (v := ?va5_21) rfl (by rfl) (by kernel_rfl) (by kernel_rfl) (by kernel_rfl) (fun _ _ _ h => h) (Or.inl ⟨by rfl, ?ha5_21⟩) (by assumption) ?ra5_21
          case ha5_21 => (intro wS hSw; (try dsimp only at hSw); go_simp; try (with_reducible rfl))
          (try simp only [Act.put, List.setIfInBounds_toArray, List.set_cons_zero, List.set_cons_succ])
          refine take_d (i := 21) (v := ?va5_22) rfl (by rfl) (by kernel_rfl) (by kernel_rfl) (by kernel_rfl) (fun _ _ _ h => h) (Or.inl ⟨by rfl, ?ha5_22⟩) (by assumption) ?ra5_22
          case ha5_22 => (intro wS hSw; (try dsimp only at hSw); go_simp; try (with_reducible rfl))
          (try simp only [Act.put, List.setIfInBounds_toArray, List.set_cons_zero, List.set_cons_succ])
          refine take_d (i := 22) (v := ?va5_23) rfl (by rfl) (by kernel_rfl) (by kernel_rfl) (by kernel_rfl) (fun _ _ _ h => h) (Or.inl ⟨by rfl, ?ha5_23⟩) (by assumption) ?ra5_23
          case ha5_23 => (intro wS hSw; (try dsimp only at hSw); go_simp; try (with_reducible rfl))
          (try simp only [Act.put, List.setIfInBounds_toArray, List.set_cons_zero, List.set_cons_succ])
          refine take_d (i := 23) (v := ?va5_24) rfl (by rfl) (by kernel_rfl) (by kernel_rfl) (by kernel_rfl) (fun _ _ _ h => h) (Or.inl ⟨by rfl, ?ha5_24⟩) (by assumption) ?ra5_24
          case ha5_24 => (intro wS hSw; (try dsimp only at hSw); have hcq0 := cn hSw j1; go_simp; try (with_reducible rfl))
          (try simp only [Act.put, List.setIfInBounds_toArray, List.set_cons_zero, List.set_cons_succ])
          refine take_d (i := 24) (v := ?va5_25) rfl (by rfl) (by kernel_rfl) (by kernel_rfl) (by kernel_rfl) (fun _ _ _ h => h) (Or.inl ⟨by rfl, ?ha5_25⟩) (by assumption) ?ra5_25
          case ha5_25 => (intro wS hSw; (try dsimp only at hSw); go_simp; try (with_reducible rfl))
          (try simp only [Act.put, List.setIfInBounds_toArray, List.set_cons_zero, List.set_cons_succ])
          refine take_d (i := 25) (v := ?va5_26) rfl (by rfl) (by kernel_rfl) (by kernel_rfl) (by kernel_rfl) (fun _ _ _ h => h) (Or.inl ⟨by rfl, ?ha5_26⟩) (by assumption) ?ra5_26
          case ha5_26 => (intro wS hSw; (try dsimp only at hSw); go_simp; try (with_reducible rfl))
          (try simp only [Act.put, List.setIfInBounds_toArray, List.set_cons_zero, List.set_cons_succ])
          refine take_d (i := 26) (v := ?va5_27) rfl (by rfl) (by kernel_rfl) (by kernel_rfl) (by kernel_rfl) (fun _ _ _ h => h) (Or.inl ⟨by rfl, ?ha5_27⟩) (by assumption) ?ra5_27
          case ha5_27 => (intro wS hSw; (try dsimp only at hSw); go_simp; try (with_reducible rfl))
          (try simp only [Act.put, List.setIfInBounds_toArray, List.set_cons_zero, List.set_cons_succ])
          refine take_d (i := 27) (v := undef) rfl (by rfl) (by kernel_rfl) (by kernel_rfl) (by kernel_rfl) (fun _ _ _ h => h) (Or.inr ⟨by rfl, rfl⟩) (by assumption) ?ra5_28
          (try simp only [Act.put, List.setIfInBounds_toArray, List.set_cons_zero, List.set_cons_succ])
          refine take_d (i := 28) (v := undef) rfl (by rfl) (by kernel_rfl) (by kernel_rfl) (by kernel_rfl) (fun _ _ _ h => h) (Or.inr ⟨by rfl, rfl⟩) (by assumption) ?ra5_29
          (try simp only [Act.put, List.setIfInBounds_toArray, List.set_cons_zero, List.set_cons_succ])
          refine take_d (i := 29) (v := undef) rfl (by rfl) (by kernel_rfl) (by kernel_rfl) (by kernel_rfl) (fun _ _ _ h => h) (Or.inr ⟨by rfl, rfl⟩) (by assumption) ?ra5_30
          (try simp only [Act.put, List.setIfInBounds_toArray, List.set_cons_zero, List.set_cons_succ])
          refine take_d (i := 30) (v := ?va5_31) rfl (by rfl) (by kernel_rfl) (by kernel_rfl) (by kernel_rfl) (fun _ _ _ h => h) (Or.inl ⟨by rfl, ?ha5_31⟩) (by assumption) ?ra5_31
          case ha5_31 => (intro wS hSw; (try dsimp only at hSw); go_simp; try (with_reducible rfl))
          (try simp only [Act.put, List.setIfInBounds_toArray, List.set_cons_zero, List.set_cons_succ])
          refine take_d (i := 31) (v := ?va5_32) rfl (by rfl) (by kernel_rfl) (by kernel_rfl) (by kernel_rfl) (fun _ _ _ h => h) (Or.inl ⟨by rfl, ?ha5_32⟩) (by assumption) ?ra5_32
          case ha5_32 => (intro wS hSw; (try dsimp only at hSw); go_simp; try (with_reducible rfl))
          (try simp only [Act.put, List.setIfInBounds_toArray, List.set_cons_zero, List.set_cons_succ])
          refine take_d (i := 32) (v := ?va5_33) rfl (by rfl) (by kernel_rfl) (by kernel_rfl) (by kernel_rfl) (fun _ _ _ h => h) (Or.inl ⟨by rfl, ?ha5_33⟩) (by assumption) ?ra5_33
          case ha5_33 => (intro wS hSw; (try dsimp only at hSw); go_simp; try (with_reducible rfl))
          (try simp only [Act.put, List.setIfInBounds_toArray, List.set_cons_zero, List.set_cons_succ])
          refine take_d (i := 33) (v := ?va5_34) rfl (by rfl) (by kernel_rfl) (by kernel_rfl) (by kernel_rfl) (fun _ _ _ h => h) (Or.inl ⟨by rfl, ?ha5_34⟩) (by assumption) ?ra5_34
          case ha5_34 => (intro wS hSw; (try dsimp only at hSw); go_simp; try (with_reducible rfl))
          (try simp only [Act.put, List.setIfInBounds_toArray, List.set_cons_zero, List.set_cons_succ])
          refine wpAnyH_done (by kernel_rfl) ?_ _
          exact ⟨_, _, _, _, _, _, _, _, _, _, _, _, _, _, _, _, _, _, _, _, _, _, _, _, _, _, _, _, _, _, _, _, _, ⟨HI.out.next hBk, HJ.out.below hBk⟩, rfl⟩
  clear HI HJ j0 j1 d0 d1 d2 PR HN HOn I J
  rintro a' W7 ⟨u46, u47, u48, u49, u50, u51, u52, u53, u54, u55, u56, u57, u58, u59, u60, u61, u62, u63, u64, u65, u66, u67, u68, u69, u70, u71, u72, u73, u74, u75, u76, u77, u78, ⟨I, J⟩, rfl⟩
  have HhA := fun W => sHas_any A X W
  have HhB := fun W => sHas_any B X W
  have HhM := fun W => sHas_any (meetS A B) X W
  have HJn := fun W => sJoin_any A B W
  have HhJ := fun W => sHas_any (joinSp A B) X W
  have pl := has_facts A B X
  change Hid _ at HW
  unfold hasS at pl
  generalize meetS A B = M at *
  generalize mayS (meetP A B) = ok at *
  generalize joinSp A B = Jn at *
  generalize (decide (A.1.toNat ≤ X.toNat) && decide (X.toNat ≤ A.2.toNat)) = hA at *
  generalize (decide (B.1.toNat ≤ X.toNat) && decide (X.toNat ≤ B.2.toNat)) = hB at *
  generalize (decide (M.1.toNat ≤ X.toNat) && decide (X.toNat ≤ M.2.toNat)) = hM at *
  generalize (decide (Jn.1.toNat ≤ X.toNat) && decide (X.toNat ≤ Jn.2.toNat)) = hJ at *
  unfold tv at HM HhA HhB HhM HJn HhJ
  replace HM := hid HM
  replace HhA := hid HhA
  replace HhB := hid HhB
  replace HhM := hid HhM
  replace HJn := hid HJn
  replace HhJ := hid HhJ
  obtain ⟨p1, p2⟩ := pl
  rcases (show hA = true ∨ hA = false by cases hA <;> simp) with rfl | rfl
  ·
    rcases (show hB = true ∨ hB = false by cases hB <;> simp) with rfl | rfl
    ·
      obtain rfl : hJ = true := p2 rfl
      rcases (show ok = true ∨ ok = false by cases ok <;> simp) with rfl | rfl
      ·
        obtain rfl : hM = true := p1
        have i2 := I.g2
        have i3 := I.g3
        have i4 := I.g4
        have i5 := I.g5
        have i6 := I.g6
        have il := I.lt
        go_wp2_with fail
        refine (HM.out _).mono ?_
        rintro e W8 ⟨rfl, z⟩
        clear i2 i3 i4 i5 i6 il
        replace I := I.next z
        replace J := J.below z
        clear z
        have i2 := I.g2
        have i3 := I.g3
        have i4 := I.g4
        have i5 := I.g5
        have i6 := I.g6
        have il := I.lt
        go_wp2_with fail
        refine (HhA.out _).mono ?_
        rintro e W9 ⟨rfl, z⟩
        clear i2 i3 i4 i5 i6 il
        have JM : BC W9 W8.heap.size M := (BC.new rfl).below z
        replace I := (I.next ((Below.refl _ _).alloc (Nat.le_refl _) (.cells #[.int .u64 (ub M.1), .int .u64 (ub M.2)] 26))).next z
        clear z J
        have i2 := I.g2
        have i3 := I.g3
        have i4 := I.g4
        have i5 := I.g5
        have i6 := I.g6
        have il := I.lt
        have m0 := JM.c0
        have m1 := JM.c1
        have ml := JM.lt
        go_wp2_with fail
        refine (HhB.out _).mono ?_
        rintro e W10 ⟨rfl, z⟩
        clear i2 i3 i4 i5 i6 il m0 m1 ml
        replace I := I.next z
        replace JM := JM.below z
        clear z
        have i2 := I.g2
        have i3 := I.g3
        have i4 := I.g4
        have i5 := I.g5
        have i6 := I.g6
        have il := I.lt
        have m0 := JM.c0
        have m1 := JM.c1
        have ml := JM.lt
        go_wp2_with fail
        refine (HhA.out _).mono ?_
        rintro e W11 ⟨rfl, z⟩
        clear i2 i3 i4 i5 i6 il m0 m1 ml
        replace I := I.next z
        replace JM := JM.below z
        clear z
        have i2 := I.g2
        have i3 := I.g3
        have i4 := I.g4
        have i5 := I.g5
        have i6 := I.g6
        have il := I.lt
        have m0 := JM.c0
        have m1 := JM.c1
        have ml := JM.lt
        have HB0 := I.bel
        go_wp2_with fail
        refine wp_region_held_drew (S := (fun w' : World => Below W11.heap.size W11 w')) (by kernel_rfl) ?_ (fun hHeld => ?_)
        · (try dsimp only); first | (with_reducible exact below_dr _) | (with_reducible exact Below.refl _ _) | exact below_dr _
        have hBk := below_dr W11
        refine take_d (i := 0) (v := ?vb1_1) rfl (by rfl) (by kernel_rfl) (by kernel_rfl) (by kernel_rfl) (fun _ _ _ h => h) (Or.inl ⟨by rfl, ?hb1_1⟩) (by assumption) ?rb1_1
        case hb1_1 => (intro wS hSw; (try dsimp only at hSw); go_simp; try (with_reducible rfl))
        (try simp only [Act.put, List.setIfInBounds_toArray, List.set_cons_zero, List.set_cons_succ])
        refine take_d (i := 1) (v := ?vb1_2) rfl (by rfl) (by kernel_rfl) (by kernel_rfl) (by kernel_rfl) (fun _ _ _ h => h) (Or.inl ⟨by rfl, ?hb1_2⟩) (by assumption) ?rb1_2
        case hb1_2 => (intro wS hSw; (try dsimp only at hSw); go_simp; try (with_reducible rfl))
        (try simp only [Act.put, List.setIfInBounds_toArray, List.set_cons_zero, List.set_cons_succ])
        refine take_d (i := 2) (v := ?vb1_3) rfl (by rfl) (by kernel_rfl) (by kernel_rfl) (by kernel_rfl) (fun _ _ _ h => h) (Or.inl ⟨by rfl, ?hb1_3⟩) (by assumption) ?rb1_3
        case hb1_3 => (intro wS hSw; (try dsimp only at hSw); go_simp; try (with_reducible rfl))
        (try simp only [Act.put, List.setIfInBounds_toArray, List.set_cons_zero, List.set_cons_succ])
        refine take_d (i := 3) (v := ?vb1_4) rfl (by rfl) (by kernel_rfl) (by kernel_rfl) (by kernel_rfl) (fun _ _ _ h => h) (Or.inl ⟨by rfl, ?hb1_4⟩) (by assumption) ?rb1_4
        case hb1_4 => (intro wS hSw; (try dsimp only at hSw); have hcq0 := cn hSw m0; have hcq1 := cn hSw m1; go_simp; try (with_reducible rfl))
        (try simp only [Act.put, List.setIfInBounds_toArray, List.set_cons_zero, List.set_cons_succ])
        refine take_d (i := 4) (v := ?vb1_5) rfl (by rfl) (by kernel_rfl) (by kernel_rfl) (by kernel_rfl) (fun _ _ _ h => h) (Or.inl ⟨by rfl, ?hb1_5⟩) (by assumption) ?rb1_5
        case hb1_5 => (intro wS hSw; (try dsimp only at hSw); go_simp; try (with_reducible rfl))
        (try simp only [Act.put, List.setIfInBounds_toArray, List.set_cons_zero, List.set_cons_succ])
        refine take_d (i := 5) (v := ?vb1_6) rfl (by rfl) (by kernel_rfl) (by kernel_rfl) (by kernel_rfl) (fun _ _ _ h => h) (Or.inl ⟨by rfl, ?hb1_6⟩) (by assumption) ?rb1_6
        case hb1_6 => (intro wS hSw; (try dsimp only at hSw); have hcq0 := cn hSw i6; go_simp; try (with_reducible rfl))
        (try simp only [Act.put, List.setIfInBounds_toArray, List.set_cons_zero, List.set_cons_succ])
        refine wpAnyH_ready (rs := [6]) (by kernel_rfl) (by simp) ?_
        refine AllReadyH.cons rfl (fun K hK => ?_) AllReadyH.nil
        go_simp
        go_at_call 40
        refine (HhM.out _).mono ?_
        rintro e wb1_7 ⟨rfl, bkb1_7⟩
        have hBn := below_next hBk bkb1_7
        clear hBk bkb1_7
        have hBk := hBn
        clear hBn
        try go_simp
        refine hK.out _ _ ?_ (fun hHeld => ?_)
        · (try dsimp only); exact hBk
        clear hK K
        (try simp only [Act.put, List.setIfInBounds_toArray, List.set_cons_zero, List.set_cons_succ])
        refine take_d (i := 7) (v := ?vb1_8) rfl (by rfl) (by kernel_rfl) (by kernel_rfl) (by kernel_rfl) (fun _ _ _ h => h) (Or.inl ⟨by rfl, ?hb1_8⟩) (by assumption) ?rb1_8
        case hb1_8 => (intro wS hSw; (try dsimp only at hSw); go_simp; try (with_reducible rfl))
        (try simp only [Act.put, List.setIfInBounds_toArray, List.set_cons_zero, List.set_cons_succ])
        refine take_d (i := 8) (v := ?vb1_9) rfl (by rfl) (by kernel_rfl) (by kernel_rfl) (by kernel_rfl) (fun _ _ _ h => h) (Or.inl ⟨by rfl, ?hb1_9⟩) (by assumption) ?rb1_9
        case hb1_9 => (intro wS hSw; (try dsimp only at hSw); go_simp; try (with_reducible rfl))
        (try simp only [Act.put, List.setIfInBounds_toArray, List.set_cons_zero, List.set_cons_succ])
        refine take_d (i := 9) (v := ?vb1_10) rfl (by rfl) (by kernel_rfl) (by kernel_rfl) (by kernel_rfl) (fun _ _ _ h => h) (Or.inl ⟨by rfl, ?hb1_10⟩) (by assumption) ?rb1_10
        case hb1_10 => (intro wS hSw; (try dsimp only at hSw); go_simp; try (with_reducible rfl))
        (try simp only [Act.put, List.setIfInBounds_toArray, List.set_cons_zero, List.set_cons_succ])
        refine take_d (i := 10) (v := ?vb1_11) rfl (by rfl) (by kernel_rfl) (by kernel_rfl) (by kernel_rfl) (fun _ _ _ h => h) (Or.inl ⟨by rfl, ?hb1_11⟩) (by assumption) ?rb1_11
        case hb1_11 => (intro wS hSw; (try dsimp only at hSw); go_simp; try (with_reducible rfl))
        (try simp only [Act.put, List.setIfInBounds_toArray, List.set_cons_zero, List.set_cons_succ])
        refine take_d (i := 11) (v := ?vb1_12) rfl (by rfl) (by kernel_rfl) (by kernel_rfl) (by kernel_rfl) (fun _ _ _ h => h) (Or.inl ⟨by rfl, ?hb1_12⟩) (by assumption) ?rb1_12
        case hb1_12 => (intro wS hSw; (try dsimp only at hSw); go_simp; try (with_reducible rfl))
        (try simp only [Act.put, List.setIfInBounds_toArray, List.set_cons_zero, List.set_cons_succ])
        refine take_d (i := 12) (v := ?vb1_13) rfl (by rfl) (by kernel_rfl) (by kernel_rfl) (by kernel_rfl) (fun _ _ _ h => h) (Or.inl ⟨by rfl, ?hb1_13⟩) (by assumption) ?rb1_13
        case hb1_13 => (intro wS hSw; (try dsimp only at hSw); go_simp; try (with_reducible rfl))
        (try simp only [Act.put, List.setIfInBounds_toArray, List.set_cons_zero, List.set_cons_succ])
        refine take_d (i := 13) (v := ?vb1_14) rfl (by rfl) (by kernel_rfl) (by kernel_rfl) (by kernel_rfl) (fun _ _ _ h => h) (Or.inl ⟨by rfl, ?hb1_14⟩) (by assumption) ?rb1_14
        case hb1_14 => (intro wS hSw; (try dsimp only at hSw); go_simp; try (with_reducible rfl))
        (try simp only [Act.put, List.setIfInBounds_toArray, List.set_cons_zero, List.set_cons_succ])
        refine take_d (i := 14) (v := ?vb1_15) rfl (by rfl) (by kernel_rfl) (by kernel_rfl) (by kernel_rfl) (fun _ _ _ h => h) (Or.inl ⟨by rfl, ?hb1_15⟩) (by assumption) ?rb1_15
        case hb1_15 => (intro wS hSw; (try dsimp only at hSw); have hcq0 := cn hSw i2; have hcq1 := cn hSw i3; go_simp; try (with_reducible rfl))
        (try simp only [Act.put, List.setIfInBounds_toArray, List.set_cons_zero, List.set_cons_succ])
        refine take_d (i := 15) (v := ?vb1_16) rfl (by rfl) (by kernel_rfl) (by kernel_rfl) (by kernel_rfl) (fun _ _ _ h => h) (Or.inl ⟨by rfl, ?hb1_16⟩) (by assumption) ?rb1_16
        case hb1_16 => (intro wS hSw; (try dsimp only at hSw); go_simp; try (with_reducible rfl))
        (try simp only [Act.put, List.setIfInBounds_toArray, List.set_cons_zero, List.set_cons_succ])
        refine take_d (i := 16) (v := ?vb1_17) rfl (by rfl) (by kernel_rfl) (by kernel_rfl) (by kernel_rfl) (fun _ _ _ h => h) (Or.inl ⟨by rfl, ?hb1_17⟩) (by assumption) ?rb1_17
        case hb1_17 => (intro wS hSw; (try dsimp only at hSw); have hcq0 := cn hSw i4; have hcq1 := cn hSw i5; go_simp; try (with_reducible rfl))
        (try simp only [Act.put, List.setIfInBounds_toArray, List.set_cons_zero, List.set_cons_succ])
        refine take_d (i := 18) (v := ?vb1_18) rfl (by rfl) (by kernel_rfl) (by kernel_rfl) (by kernel_rfl) (fun _ _ _ h => h) (Or.inl ⟨by rfl, ?hb1_18⟩) (by assumption) ?rb1_18
        case hb1_18 => (intro wS hSw; (try dsimp only at hSw); go_simp; try (with_reducible rfl))
        (try simp only [Act.put, List.setIfInBounds_toArray, List.set_cons_zero, List.set_cons_succ])
        refine take_d (i := 19) (v := ?vb1_19) rfl (by rfl) (by kernel_rfl) (by kernel_rfl) (by kernel_rfl) (fun _ _ _ h => h) (Or.inl ⟨by rfl, ?hb1_19⟩) (by assumption) ?rb1_19
        case hb1_19 => (intro wS hSw; (try dsimp only at hSw); have hcq0 := cn hSw i6; go_simp; try (with_reducible rfl))
        (try simp only [Act.put, List.setIfInBounds_toArray, List.set_cons_zero, List.set_cons_succ])
        refine wpAnyH_ready (rs := [17]) (by kernel_rfl) (by simp) ?_
        refine AllReadyH.cons rfl (fun K hK => ?_) AllReadyH.nil
        go_simp
        go_at_call 41
        refine (HJn.out _).mono ?_
        rintro e wb1_20 ⟨rfl, bkb1_20⟩
        have hBn := below_next hBk bkb1_20
        clear hBk bkb1_20
        have hBk := hBn
        clear hBn
        try go_simp
        refine hK.out _ _ ?_ (fun hHeld => ?_)
        · (try dsimp only); exact hBk
        clear hK K
        (try simp only [Act.put, List.setIfInBounds_toArray, List.set_cons_zero, List.set_cons_succ])
        refine wpAnyH_ready (rs := [20]) (by kernel_rfl) (by simp) ?_
        refine AllReadyH.cons rfl (fun K hK => ?_) AllReadyH.nil
        go_simp
        go_at_call 40
        refine (HhJ.out _).mono ?_
        rintro e wb1_21 ⟨rfl, bkb1_21⟩
        have hBn := below_next hBk bkb1_21
        clear hBk bkb1_21
        have hBk := hBn
        clear hBn
        try go_simp
        refine hK.out _ _ ?_ (fun hHeld => ?_)
        · (try dsimp only); exact hBk
        clear hK K
        (try simp only [Act.put, List.setIfInBounds_toArray, List.set_cons_zero, List.set_cons_succ])
        refine take_d (i := 21) (v := ?vb1_22) rfl (by rfl) (by kernel_rfl) (by kernel_rfl) (by kernel_rfl) (fun _ _ _ h => h) (Or.inl ⟨by rfl, ?hb1_22⟩) (by assumption) ?rb1_22
        case hb1_22 => (intro wS hSw; (try dsimp only at hSw); go_simp; try (with_reducible rfl))
        (try simp only [Act.put, List.setIfInBounds_toArray, List.set_cons_zero, List.set_cons_succ])
        refine take_d (i := 22) (v := ?vb1_23) rfl (by rfl) (by kernel_rfl) (by kernel_rfl) (by kernel_rfl) (fun _ _ _ h => h) (Or.inl ⟨by rfl, ?hb1_23⟩) (by assumption) ?rb1_23
        case hb1_23 => (intro wS hSw; (try dsimp only at hSw); go_simp; try (with_reducible rfl))
        (try simp only [Act.put, List.setIfInBounds_toArray, List.set_cons_zero, List.set_cons_succ])
        refine take_d (i := 23) (v := ?vb1_24) rfl (by rfl) (by kernel_rfl) (by kernel_rfl) (by kernel_rfl) (fun _ _ _ h => h) (Or.inl ⟨by rfl, ?hb1_24⟩) (by assumption) ?rb1_24
        case hb1_24 => (intro wS hSw; (try dsimp only at hSw); go_simp; try (with_reducible rfl))
        (try simp only [Act.put, List.setIfInBounds_toArray, List.set_cons_zero, List.set_cons_succ])
        refine wpAnyH_ready (rs := [24]) (by kernel_rfl) (by simp) ?_
        refine AllReadyH.cons rfl (fun K hK => ?_) AllReadyH.nil
        go_simp
        go_at_call 37
        refine (HW.out _).mono ?_
        rintro e wb1_25 ⟨rfl, bkb1_25⟩
        have hBn := below_next hBk bkb1_25
        clear hBk bkb1_25
        have hBk := hBn
        clear hBn
        try go_simp
        refine hK.out _ _ ?_ (fun hHeld => ?_)
        · (try dsimp only); exact hBk
        clear hK K
        (try simp only [Act.put, List.setIfInBounds_toArray, List.set_cons_zero, List.set_cons_succ])
        refine take_d (i := 25) (v := ?vb1_26) rfl (by rfl) (by kernel_rfl) (by kernel_rfl) (by kernel_rfl) (fun _ _ _ h => h) (Or.inl ⟨by rfl, ?hb1_26⟩) (by assumption) ?rb1_26
        case hb1_26 => (intro wS hSw; (try dsimp only at hSw); go_simp; try (with_reducible rfl))
        (try simp only [Act.put, List.setIfInBounds_toArray, List.set_cons_zero, List.set_cons_succ])
        refine take_d (i := 26) (v := ?vb1_27) rfl (by rfl) (by kernel_rfl) (by kernel_rfl) (by kernel_rfl) (fun _ _ _ h => h) (Or.inl ⟨by rfl, ?hb1_27⟩) (by assumption) ?rb1_27
        case hb1_27 => (intro wS hSw; (try dsimp only at hSw); go_simp; try (with_reducible rfl))
        (try simp only [Act.put, List.setIfInBounds_toArray, List.set_cons_zero, List.set_cons_succ])
        refine wpAnyH_done (by kernel_rfl) ?_ _
        have HBB := hid (below_next HB0 hBk)
        clear HB0 hBk
        go_wp2
        go_ret
        exact ⟨rfl, HBB.out⟩
      ·
        cases p1
    ·
      obtain rfl : hJ = true := p2 rfl
      rcases (show ok = true ∨ ok = false by cases ok <;> simp) with rfl | rfl
      ·
        obtain rfl : hM = false := p1
        have i2 := I.g2
        have i3 := I.g3
        have i4 := I.g4
        have i5 := I.g5
        have i6 := I.g6
        have il := I.lt
        go_wp2_with fail
        refine (HM.out _).mono ?_
        rintro e W8 ⟨rfl, z⟩
        clear i2 i3 i4 i5 i6 il
        replace I := I.next z
        replace J := J.below z
        clear z
        have i2 := I.g2
        have i3 := I.g3
        have i4 := I.g4
        have i5 := I.g5
        have i6 := I.g6
        have il := I.lt
        go_wp2_with fail
        refine (HhA.out _).mono ?_
        rintro e W9 ⟨rfl, z⟩
        clear i2 i3 i4 i5 i6 il
        have JM : BC W9 W8.heap.size M := (BC.new rfl).below z
        replace I := (I.next ((Below.refl _ _).alloc (Nat.le_refl _) (.cells #[.int .u64 (ub M.1), .int .u64 (ub M.2)] 26))).next z
        clear z J
        have i2 := I.g2
        have i3 := I.g3
        have i4 := I.g4
        have i5 := I.g5
        have i6 := I.g6
        have il := I.lt
        have m0 := JM.c0
        have m1 := JM.c1
        have ml := JM.lt
        go_wp2_with fail
        refine (HhB.out _).mono ?_
        rintro e W10 ⟨rfl, z⟩
        clear i2 i3 i4 i5 i6 il m0 m1 ml
        replace I := I.next z
        replace JM := JM.below z
        clear z
        have i2 := I.g2
        have i3 := I.g3
        have i4 := I.g4
        have i5 := I.g5
        have i6 := I.g6
        have il := I.lt
        have m0 := JM.c0
        have m1 := JM.c1
        have ml := JM.lt
        go_wp2_with fail
        refine (HhA.out _).mono ?_
        rintro e W11 ⟨rfl, z⟩
        clear i2 i3 i4 i5 i6 il m0 m1 ml
        replace I := I.next z
        replace JM := JM.below z
        clear z
        have i2 := I.g2
        have i3 := I.g3
        have i4 := I.g4
        have i5 := I.g5
        have i6 := I.g6
        have il := I.lt
        have m0 := JM.c0
        have m1 := JM.c1
        have ml := JM.lt
        have HB0 := I.bel
        go_wp2_with fail
        refine wp_region_held_drew (S := (fun w' : World => Below W11.heap.size W11 w')) (by kernel_rfl) ?_ (fun hHeld => ?_)
        · (try dsimp only); first | (with_reducible exact below_dr _) | (with_reducible exact Below.refl _ _) | exact below_dr _
        have hBk := below_dr W11
        refine take_d (i := 0) (v := ?vb2_1) rfl (by rfl) (by kernel_rfl) (by kernel_rfl) (by kernel_rfl) (fun _ _ _ h => h) (Or.inl ⟨by rfl, ?hb2_1⟩) (by assumption) ?rb2_1
        case hb2_1 => (intro wS hSw; (try dsimp only at hSw); go_simp; try (with_reducible rfl))
        (try simp only [Act.put, List.setIfInBounds_toArray, List.set_cons_zero, List.set_cons_succ])
        refine take_d (i := 1) (v := ?vb2_2) rfl (by rfl) (by kernel_rfl) (by kernel_rfl) (by kernel_rfl) (fun _ _ _ h => h) (Or.inl ⟨by rfl, ?hb2_2⟩) (by assumption) ?rb2_2
        case hb2_2 => (intro wS hSw; (try dsimp only at hSw); go_simp; try (with_reducible rfl))
        (try simp only [Act.put, List.setIfInBounds_toArray, List.set_cons_zero, List.set_cons_succ])
        refine take_d (i := 2) (v := ?vb2_3) rfl (by rfl) (by kernel_rfl) (by kernel_rfl) (by kernel_rfl) (fun _ _ _ h => h) (Or.inl ⟨by rfl, ?hb2_3⟩) (by assumption) ?rb2_3
        case hb2_3 => (intro wS hSw; (try dsimp only at hSw); go_simp; try (with_reducible rfl))
        (try simp only [Act.put, List.setIfInBounds_toArray, List.set_cons_zero, List.set_cons_succ])
        refine take_d (i := 3) (v := ?vb2_4) rfl (by rfl) (by kernel_rfl) (by kernel_rfl) (by kernel_rfl) (fun _ _ _ h => h) (Or.inl ⟨by rfl, ?hb2_4⟩) (by assumption) ?rb2_4
        case hb2_4 => (intro wS hSw; (try dsimp only at hSw); have hcq0 := cn hSw m0; have hcq1 := cn hSw m1; go_simp; try (with_reducible rfl))
        (try simp only [Act.put, List.setIfInBounds_toArray, List.set_cons_zero, List.set_cons_succ])
        refine take_d (i := 4) (v := ?vb2_5) rfl (by rfl) (by kernel_rfl) (by kernel_rfl) (by kernel_rfl) (fun _ _ _ h => h) (Or.inl ⟨by rfl, ?hb2_5⟩) (by assumption) ?rb2_5
        case hb2_5 => (intro wS hSw; (try dsimp only at hSw); go_simp; try (with_reducible rfl))
        (try simp only [Act.put, List.setIfInBounds_toArray, List.set_cons_zero, List.set_cons_succ])
        refine take_d (i := 5) (v := ?vb2_6) rfl (by rfl) (by kernel_rfl) (by kernel_rfl) (by kernel_rfl) (fun _ _ _ h => h) (Or.inl ⟨by rfl, ?hb2_6⟩) (by assumption) ?rb2_6
        case hb2_6 => (intro wS hSw; (try dsimp only at hSw); have hcq0 := cn hSw i6; go_simp; try (with_reducible rfl))
        (try simp only [Act.put, List.setIfInBounds_toArray, List.set_cons_zero, List.set_cons_succ])
        refine wpAnyH_ready (rs := [6]) (by kernel_rfl) (by simp) ?_
        refine AllReadyH.cons rfl (fun K hK => ?_) AllReadyH.nil
        go_simp
        go_at_call 40
        refine (HhM.out _).mono ?_
        rintro e wb2_7 ⟨rfl, bkb2_7⟩
        have hBn := below_next hBk bkb2_7
        clear hBk bkb2_7
        have hBk := hBn
        clear hBn
        try go_simp
        refine hK.out _ _ ?_ (fun hHeld => ?_)
        · (try dsimp only); exact hBk
        clear hK K
        (try simp only [Act.put, List.setIfInBounds_toArray, List.set_cons_zero, List.set_cons_succ])
        refine take_d (i := 7) (v := ?vb2_8) rfl (by rfl) (by kernel_rfl) (by kernel_rfl) (by kernel_rfl) (fun _ _ _ h => h) (Or.inl ⟨by rfl, ?hb2_8⟩) (by assumption) ?rb2_8
        case hb2_8 => (intro wS hSw; (try dsimp only at hSw); go_simp; try (with_reducible rfl))
        (try simp only [Act.put, List.setIfInBounds_toArray, List.set_cons_zero, List.set_cons_succ])
        refine take_d (i := 8) (v := ?vb2_9) rfl (by rfl) (by kernel_rfl) (by kernel_rfl) (by kernel_rfl) (fun _ _ _ h => h) (Or.inl ⟨by rfl, ?hb2_9⟩) (by assumption) ?rb2_9
        case hb2_9 => (intro wS hSw; (try dsimp only at hSw); go_simp; try (with_reducible rfl))
        (try simp only [Act.put, List.setIfInBounds_toArray, List.set_cons_zero, List.set_cons_succ])
        refine take_d (i := 9) (v := ?vb2_10) rfl (by rfl) (by kernel_rfl) (by kernel_rfl) (by kernel_rfl) (fun _ _ _ h => h) (Or.inl ⟨by rfl, ?hb2_10⟩) (by assumption) ?rb2_10
        case hb2_10 => (intro wS hSw; (try dsimp only at hSw); go_simp; try (with_reducible rfl))
        (try simp only [Act.put, List.setIfInBounds_toArray, List.set_cons_zero, List.set_cons_succ])
        refine take_d (i := 10) (v := ?vb2_11) rfl (by rfl) (by kernel_rfl) (by kernel_rfl) (by kernel_rfl) (fun _ _ _ h => h) (Or.inl ⟨by rfl, ?hb2_11⟩) (by assumption) ?rb2_11
        case hb2_11 => (intro wS hSw; (try dsimp only at hSw); go_simp; try (with_reducible rfl))
        (try simp only [Act.put, List.setIfInBounds_toArray, List.set_cons_zero, List.set_cons_succ])
        refine take_d (i := 11) (v := ?vb2_12) rfl (by rfl) (by kernel_rfl) (by kernel_rfl) (by kernel_rfl) (fun _ _ _ h => h) (Or.inl ⟨by rfl, ?hb2_12⟩) (by assumption) ?rb2_12
        case hb2_12 => (intro wS hSw; (try dsimp only at hSw); go_simp; try (with_reducible rfl))
        (try simp only [Act.put, List.setIfInBounds_toArray, List.set_cons_zero, List.set_cons_succ])
        refine take_d (i := 12) (v := ?vb2_13) rfl (by rfl) (by kernel_rfl) (by kernel_rfl) (by kernel_rfl) (fun _ _ _ h => h) (Or.inl ⟨by rfl, ?hb2_13⟩) (by assumption) ?rb2_13
        case hb2_13 => (intro wS hSw; (try dsimp only at hSw); go_simp; try (with_reducible rfl))
        (try simp only [Act.put, List.setIfInBounds_toArray, List.set_cons_zero, List.set_cons_succ])
        refine take_d (i := 13) (v := ?vb2_14) rfl (by rfl) (by kernel_rfl) (by kernel_rfl) (by kernel_rfl) (fun _ _ _ h => h) (Or.inl ⟨by rfl, ?hb2_14⟩) (by assumption) ?rb2_14
        case hb2_14 => (intro wS hSw; (try dsimp only at hSw); go_simp; try (with_reducible rfl))
        (try simp only [Act.put, List.setIfInBounds_toArray, List.set_cons_zero, List.set_cons_succ])
        refine take_d (i := 14) (v := ?vb2_15) rfl (by rfl) (by kernel_rfl) (by kernel_rfl) (by kernel_rfl) (fun _ _ _ h => h) (Or.inl ⟨by rfl, ?hb2_15⟩) (by assumption) ?rb2_15
        case hb2_15 => (intro wS hSw; (try dsimp only at hSw); have hcq0 := cn hSw i2; have hcq1 := cn hSw i3; go_simp; try (with_reducible rfl))
        (try simp only [Act.put, List.setIfInBounds_toArray, List.set_cons_zero, List.set_cons_succ])
        refine take_d (i := 15) (v := ?vb2_16) rfl (by rfl) (by kernel_rfl) (by kernel_rfl) (by kernel_rfl) (fun _ _ _ h => h) (Or.inl ⟨by rfl, ?hb2_16⟩) (by assumption) ?rb2_16
        case hb2_16 => (intro wS hSw; (try dsimp only at hSw); go_simp; try (with_reducible rfl))
        (try simp only [Act.put, List.setIfInBounds_toArray, List.set_cons_zero, List.set_cons_succ])
        refine take_d (i := 16) (v := ?vb2_17) rfl (by rfl) (by kernel_rfl) (by kernel_rfl) (by kernel_rfl) (fun _ _ _ h => h) (Or.inl ⟨by rfl, ?hb2_17⟩) (by assumption) ?rb2_17
        case hb2_17 => (intro wS hSw; (try dsimp only at hSw); have hcq0 := cn hSw i4; have hcq1 := cn hSw i5; go_simp; try (with_reducible rfl))
        (try simp only [Act.put, List.setIfInBounds_toArray, List.set_cons_zero, List.set_cons_succ])
        refine take_d (i := 18) (v := ?vb2_18) rfl (by rfl) (by kernel_rfl) (by kernel_rfl) (by kernel_rfl) (fun _ _ _ h => h) (Or.inl ⟨by rfl, ?hb2_18⟩) (by assumption) ?rb2_18
        case hb2_18 => (intro wS hSw; (try dsimp only at hSw); go_simp; try (with_reducible rfl))
        (try simp only [Act.put, List.setIfInBounds_toArray, List.set_cons_zero, List.set_cons_succ])
        refine take_d (i := 19) (v := ?vb2_19) rfl (by rfl) (by kernel_rfl) (by kernel_rfl) (by kernel_rfl) (fun _ _ _ h => h) (Or.inl ⟨by rfl, ?hb2_19⟩) (by assumption) ?rb2_19
        case hb2_19 => (intro wS hSw; (try dsimp only at hSw); have hcq0 := cn hSw i6; go_simp; try (with_reducible rfl))
        (try simp only [Act.put, List.setIfInBounds_toArray, List.set_cons_zero, List.set_cons_succ])
        refine wpAnyH_ready (rs := [17]) (by kernel_rfl) (by simp) ?_
        refine AllReadyH.cons rfl (fun K hK => ?_) AllReadyH.nil
        go_simp
        go_at_call 41
        refine (HJn.out _).mono ?_
        rintro e wb2_20 ⟨rfl, bkb2_20⟩
        have hBn := below_next hBk bkb2_20
        clear hBk bkb2_20
        have hBk := hBn
        clear hBn
        try go_simp
        refine hK.out _ _ ?_ (fun hHeld => ?_)
        · (try dsimp only); exact hBk
        clear hK K
        (try simp only [Act.put, List.setIfInBounds_toArray, List.set_cons_zero, List.set_cons_succ])
        refine wpAnyH_ready (rs := [20]) (by kernel_rfl) (by simp) ?_
        refine AllReadyH.cons rfl (fun K hK => ?_) AllReadyH.nil
        go_simp
        go_at_call 40
        refine (HhJ.out _).mono ?_
        rintro e wb2_21 ⟨rfl, bkb2_21⟩
        have hBn := below_next hBk bkb2_21
        clear hBk bkb2_21
        have hBk := hBn
        clear hBn
        try go_simp
        refine hK.out _ _ ?_ (fun hHeld => ?_)
        · (try dsimp only); exact hBk
        clear hK K
        (try simp only [Act.put, List.setIfInBounds_toArray, List.set_cons_zero, List.set_cons_succ])
        refine take_d (i := 21) (v := ?vb2_22) rfl (by rfl) (by kernel_rfl) (by kernel_rfl) (by kernel_rfl) (fun _ _ _ h => h) (Or.inl ⟨by rfl, ?hb2_22⟩) (by assumption) ?rb2_22
        case hb2_22 => (intro wS hSw; (try dsimp only at hSw); go_simp; try (with_reducible rfl))
        (try simp only [Act.put, List.setIfInBounds_toArray, List.set_cons_zero, List.set_cons_succ])
        refine take_d (i := 22) (v := ?vb2_23) rfl (by rfl) (by kernel_rfl) (by kernel_rfl) (by kernel_rfl) (fun _ _ _ h => h) (Or.inl ⟨by rfl, ?hb2_23⟩) (by assumption) ?rb2_23
        case hb2_23 => (intro wS hSw; (try dsimp only at hSw); go_simp; try (with_reducible rfl))
        (try simp only [Act.put, List.setIfInBounds_toArray, List.set_cons_zero, List.set_cons_succ])
        refine take_d (i := 23) (v := ?vb2_24) rfl (by rfl) (by kernel_rfl) (by kernel_rfl) (by kernel_rfl) (fun _ _ _ h => h) (Or.inl ⟨by rfl, ?hb2_24⟩) (by assumption) ?rb2_24
        case hb2_24 => (intro wS hSw; (try dsimp only at hSw); go_simp; try (with_reducible rfl))
        (try simp only [Act.put, List.setIfInBounds_toArray, List.set_cons_zero, List.set_cons_succ])
        refine wpAnyH_ready (rs := [24]) (by kernel_rfl) (by simp) ?_
        refine AllReadyH.cons rfl (fun K hK => ?_) AllReadyH.nil
        go_simp
        go_at_call 37
        refine (HW.out _).mono ?_
        rintro e wb2_25 ⟨rfl, bkb2_25⟩
        have hBn := below_next hBk bkb2_25
        clear hBk bkb2_25
        have hBk := hBn
        clear hBn
        try go_simp
        refine hK.out _ _ ?_ (fun hHeld => ?_)
        · (try dsimp only); exact hBk
        clear hK K
        (try simp only [Act.put, List.setIfInBounds_toArray, List.set_cons_zero, List.set_cons_succ])
        refine take_d (i := 25) (v := ?vb2_26) rfl (by rfl) (by kernel_rfl) (by kernel_rfl) (by kernel_rfl) (fun _ _ _ h => h) (Or.inl ⟨by rfl, ?hb2_26⟩) (by assumption) ?rb2_26
        case hb2_26 => (intro wS hSw; (try dsimp only at hSw); go_simp; try (with_reducible rfl))
        (try simp only [Act.put, List.setIfInBounds_toArray, List.set_cons_zero, List.set_cons_succ])
        refine take_d (i := 26) (v := ?vb2_27) rfl (by rfl) (by kernel_rfl) (by kernel_rfl) (by kernel_rfl) (fun _ _ _ h => h) (Or.inl ⟨by rfl, ?hb2_27⟩) (by assumption) ?rb2_27
        case hb2_27 => (intro wS hSw; (try dsimp only at hSw); go_simp; try (with_reducible rfl))
        (try simp only [Act.put, List.setIfInBounds_toArray, List.set_cons_zero, List.set_cons_succ])
        refine wpAnyH_done (by kernel_rfl) ?_ _
        have HBB := hid (below_next HB0 hBk)
        clear HB0 hBk
        go_wp2
        go_ret
        exact ⟨rfl, HBB.out⟩
      ·
        have i2 := I.g2
        have i3 := I.g3
        have i4 := I.g4
        have i5 := I.g5
        have i6 := I.g6
        have il := I.lt
        go_wp2_with fail
        refine (HM.out _).mono ?_
        rintro e W8 ⟨rfl, z⟩
        clear i2 i3 i4 i5 i6 il
        replace I := I.next z
        replace J := J.below z
        clear z
        have i2 := I.g2
        have i3 := I.g3
        have i4 := I.g4
        have i5 := I.g5
        have i6 := I.g6
        have il := I.lt
        go_wp2_with fail
        refine (HhA.out _).mono ?_
        rintro e W9 ⟨rfl, z⟩
        clear i2 i3 i4 i5 i6 il
        have JM : BC W9 W8.heap.size M := (BC.new rfl).below z
        replace I := (I.next ((Below.refl _ _).alloc (Nat.le_refl _) (.cells #[.int .u64 (ub M.1), .int .u64 (ub M.2)] 26))).next z
        clear z J
        have i2 := I.g2
        have i3 := I.g3
        have i4 := I.g4
        have i5 := I.g5
        have i6 := I.g6
        have il := I.lt
        have m0 := JM.c0
        have m1 := JM.c1
        have ml := JM.lt
        go_wp2_with fail
        refine (HhB.out _).mono ?_
        rintro e W10 ⟨rfl, z⟩
        clear i2 i3 i4 i5 i6 il m0 m1 ml
        replace I := I.next z
        replace JM := JM.below z
        clear z
        have i2 := I.g2
        have i3 := I.g3
        have i4 := I.g4
        have i5 := I.g5
        have i6 := I.g6
        have il := I.lt
        have m0 := JM.c0
        have m1 := JM.c1
        have ml := JM.lt
        go_wp2_with fail
        refine (HhA.out _).mono ?_
        rintro e W11 ⟨rfl, z⟩
        clear i2 i3 i4 i5 i6 il m0 m1 ml
        replace I := I.next z
        replace JM := JM.below z
        clear z
        have i2 := I.g2
        have i3 := I.g3
        have i4 := I.g4
        have i5 := I.g5
        have i6 := I.g6
        have il := I.lt
        have m0 := JM.c0
        have m1 := JM.c1
        have ml := JM.lt
        have HB0 := I.bel
        go_wp2_with fail
        refine wp_region_held_drew (S := (fun w' : World => Below W11.heap.size W11 w')) (by kernel_rfl) ?_ (fun hHeld => ?_)
        · (try dsimp only); first | (with_reducible exact below_dr _) | (with_reducible exact Below.refl _ _) | exact below_dr _
        have hBk := below_dr W11
        refine take_d (i := 0) (v := ?vb3_1) rfl (by rfl) (by kernel_rfl) (by kernel_rfl) (by kernel_rfl) (fun _ _ _ h => h) (Or.inl ⟨by rfl, ?hb3_1⟩) (by assumption) ?rb3_1
        case hb3_1 => (intro wS hSw; (try dsimp only at hSw); go_simp; try (with_reducible rfl))
        (try simp only [Act.put, List.setIfInBounds_toArray, List.set_cons_zero, List.set_cons_succ])
        refine take_d (i := 1) (v := ?vb3_2) rfl (by rfl) (by kernel_rfl) (by kernel_rfl) (by kernel_rfl) (fun _ _ _ h => h) (Or.inl ⟨by rfl, ?hb3_2⟩) (by assumption) ?rb3_2
        case hb3_2 => (intro wS hSw; (try dsimp only at hSw); go_simp; try (with_reducible rfl))
        (try simp only [Act.put, List.setIfInBounds_toArray, List.set_cons_zero, List.set_cons_succ])
        refine take_d (i := 2) (v := ?vb3_3) rfl (by rfl) (by kernel_rfl) (by kernel_rfl) (by kernel_rfl) (fun _ _ _ h => h) (Or.inl ⟨by rfl, ?hb3_3⟩) (by assumption) ?rb3_3
        case hb3_3 => (intro wS hSw; (try dsimp only at hSw); go_simp; try (with_reducible rfl))
        (try simp only [Act.put, List.setIfInBounds_toArray, List.set_cons_zero, List.set_cons_succ])
        refine take_d (i := 3) (v := undef) rfl (by rfl) (by kernel_rfl) (by kernel_rfl) (by kernel_rfl) (fun _ _ _ h => h) (Or.inr ⟨by rfl, rfl⟩) (by assumption) ?rb3_4
        (try simp only [Act.put, List.setIfInBounds_toArray, List.set_cons_zero, List.set_cons_succ])
        refine take_d (i := 4) (v := undef) rfl (by rfl) (by kernel_rfl) (by kernel_rfl) (by kernel_rfl) (fun _ _ _ h => h) (Or.inr ⟨by rfl, rfl⟩) (by assumption) ?rb3_5
        (try simp only [Act.put, List.setIfInBounds_toArray, List.set_cons_zero, List.set_cons_succ])
        refine take_d (i := 5) (v := undef) rfl (by rfl) (by kernel_rfl) (by kernel_rfl) (by kernel_rfl) (fun _ _ _ h => h) (Or.inr ⟨by rfl, rfl⟩) (by assumption) ?rb3_6
        (try simp only [Act.put, List.setIfInBounds_toArray, List.set_cons_zero, List.set_cons_succ])
        refine take_d (i := 6) (v := undef) rfl (by rfl) (by kernel_rfl) (by kernel_rfl) (by kernel_rfl) (fun _ _ _ h => h) (Or.inr ⟨by rfl, rfl⟩) (by assumption) ?rb3_7
        (try simp only [Act.put, List.setIfInBounds_toArray, List.set_cons_zero, List.set_cons_succ])
        refine take_d (i := 7) (v := ?vb3_8) rfl (by rfl) (by kernel_rfl) (by kernel_rfl) (by kernel_rfl) (fun _ _ _ h => h) (Or.inl ⟨by rfl, ?hb3_8⟩) (by assumption) ?rb3_8
        case hb3_8 => (intro wS hSw; (try dsimp only at hSw); go_simp; try (with_reducible rfl))
        (try simp only [Act.put, List.setIfInBounds_toArray, List.set_cons_zero, List.set_cons_succ])
        refine take_d (i := 8) (v := ?vb3_9) rfl (by rfl) (by kernel_rfl) (by kernel_rfl) (by kernel_rfl) (fun _ _ _ h => h) (Or.inl ⟨by rfl, ?hb3_9⟩) (by assumption) ?rb3_9
        case hb3_9 => (intro wS hSw; (try dsimp only at hSw); go_simp; try (with_reducible rfl))
        (try simp only [Act.put, List.setIfInBounds_toArray, List.set_cons_zero, List.set_cons_succ])
        refine take_d (i := 9) (v := ?vb3_10) rfl (by rfl) (by kernel_rfl) (by kernel_rfl) (by kernel_rfl) (fun _ _ _ h => h) (Or.inl ⟨by rfl, ?hb3_10⟩) (by assumption) ?rb3_10
        case hb3_10 => (intro wS hSw; (try dsimp only at hSw); go_simp; try (with_reducible rfl))
        (try simp only [Act.put, List.setIfInBounds_toArray, List.set_cons_zero, List.set_cons_succ])
        refine take_d (i := 10) (v := ?vb3_11) rfl (by rfl) (by kernel_rfl) (by kernel_rfl) (by kernel_rfl) (fun _ _ _ h => h) (Or.inl ⟨by rfl, ?hb3_11⟩) (by assumption) ?rb3_11
        case hb3_11 => (intro wS hSw; (try dsimp only at hSw); go_simp; try (with_reducible rfl))
        (try simp only [Act.put, List.setIfInBounds_toArray, List.set_cons_zero, List.set_cons_succ])
        refine take_d (i := 11) (v := ?vb3_12) rfl (by rfl) (by kernel_rfl) (by kernel_rfl) (by kernel_rfl) (fun _ _ _ h => h) (Or.inl ⟨by rfl, ?hb3_12⟩) (by assumption) ?rb3_12
        case hb3_12 => (intro wS hSw; (try dsimp only at hSw); go_simp; try (with_reducible rfl))
        (try simp only [Act.put, List.setIfInBounds_toArray, List.set_cons_zero, List.set_cons_succ])
        refine take_d (i := 12) (v := ?vb3_13) rfl (by rfl) (by kernel_rfl) (by kernel_rfl) (by kernel_rfl) (fun _ _ _ h => h) (Or.inl ⟨by rfl, ?hb3_13⟩) (by assumption) ?rb3_13
        case hb3_13 => (intro wS hSw; (try dsimp only at hSw); go_simp; try (with_reducible rfl))
        (try simp only [Act.put, List.setIfInBounds_toArray, List.set_cons_zero, List.set_cons_succ])
        refine take_d (i := 13) (v := ?vb3_14) rfl (by rfl) (by kernel_rfl) (by kernel_rfl) (by kernel_rfl) (fun _ _ _ h => h) (Or.inl ⟨by rfl, ?hb3_14⟩) (by assumption) ?rb3_14
        case hb3_14 => (intro wS hSw; (try dsimp only at hSw); go_simp; try (with_reducible rfl))
        (try simp only [Act.put, List.setIfInBounds_toArray, List.set_cons_zero, List.set_cons_succ])
        refine take_d (i := 14) (v := ?vb3_15) rfl (by rfl) (by kernel_rfl) (by kernel_rfl) (by kernel_rfl) (fun _ _ _ h => h) (Or.inl ⟨by rfl, ?hb3_15⟩) (by assumption) ?rb3_15
        case hb3_15 => (intro wS hSw; (try dsimp only at hSw); have hcq0 := cn hSw i2; have hcq1 := cn hSw i3; go_simp; try (with_reducible rfl))
        (try simp only [Act.put, List.setIfInBounds_toArray, List.set_cons_zero, List.set_cons_succ])
        refine take_d (i := 15) (v := ?vb3_16) rfl (by rfl) (by kernel_rfl) (by kernel_rfl) (by kernel_rfl) (fun _ _ _ h => h) (Or.inl ⟨by rfl, ?hb3_16⟩) (by assumption) ?rb3_16
        case hb3_16 => (intro wS hSw; (try dsimp only at hSw); go_simp; try (with_reducible rfl))
        (try simp only [Act.put, List.setIfInBounds_toArray, List.set_cons_zero, List.set_cons_succ])
        refine take_d (i := 16) (v := ?vb3_17) rfl (by rfl) (by kernel_rfl) (by kernel_rfl) (by kernel_rfl) (fun _ _ _ h => h) (Or.inl ⟨by rfl, ?hb3_17⟩) (by assumption) ?rb3_17
        case hb3_17 => (intro wS hSw; (try dsimp only at hSw); have hcq0 := cn hSw i4; have hcq1 := cn hSw i5; go_simp; try (with_reducible rfl))
        (try simp only [Act.put, List.setIfInBounds_toArray, List.set_cons_zero, List.set_cons_succ])
        refine take_d (i := 18) (v := ?vb3_18) rfl (by rfl) (by kernel_rfl) (by kernel_rfl) (by kernel_rfl) (fun _ _ _ h => h) (Or.inl ⟨by rfl, ?hb3_18⟩) (by assumption) ?rb3_18
        case hb3_18 => (intro wS hSw; (try dsimp only at hSw); go_simp; try (with_reducible rfl))
        (try simp only [Act.put, List.setIfInBounds_toArray, List.set_cons_zero, List.set_cons_succ])
        refine take_d (i := 19) (v := ?vb3_19) rfl (by rfl) (by kernel_rfl) (by kernel_rfl) (by kernel_rfl) (fun _ _ _ h => h) (Or.inl ⟨by rfl, ?hb3_19⟩) (by assumption) ?rb3_19
        case hb3_19 => (intro wS hSw; (try dsimp only at hSw); have hcq0 := cn hSw i6; go_simp; try (with_reducible rfl))
        (try simp only [Act.put, List.setIfInBounds_toArray, List.set_cons_zero, List.set_cons_succ])
        refine wpAnyH_ready (rs := [17]) (by kernel_rfl) (by simp) ?_
        refine AllReadyH.cons rfl (fun K hK => ?_) AllReadyH.nil
        go_simp
        go_at_call 41
        refine (HJn.out _).mono ?_
        rintro e wb3_20 ⟨rfl, bkb3_20⟩
        have hBn := below_next hBk bkb3_20
        clear hBk bkb3_20
        have hBk := hBn
        clear hBn
        try go_simp
        refine hK.out _ _ ?_ (fun hHeld => ?_)
        · (try dsimp only); exact hBk
        clear hK K
        (try simp only [Act.put, List.setIfInBounds_toArray, List.set_cons_zero, List.set_cons_succ])
        refine wpAnyH_ready (rs := [20]) (by kernel_rfl) (by simp) ?_
        refine AllReadyH.cons rfl (fun K hK => ?_) AllReadyH.nil
        go_simp
        go_at_call 40
        refine (HhJ.out _).mono ?_
        rintro e wb3_21 ⟨rfl, bkb3_21⟩
        have hBn := below_next hBk bkb3_21
        clear hBk bkb3_21
        have hBk := hBn
        clear hBn
        try go_simp
        refine hK.out _ _ ?_ (fun hHeld => ?_)
        · (try dsimp only); exact hBk
        clear hK K
        (try simp only [Act.put, List.setIfInBounds_toArray, List.set_cons_zero, List.set_cons_succ])
        refine take_d (i := 21) (v := ?vb3_22) rfl (by rfl) (by kernel_rfl) (by kernel_rfl) (by kernel_rfl) (fun _ _ _ h => h) (Or.inl ⟨by rfl, ?hb3_22⟩) (by assumption) ?rb3_22
        case hb3_22 => (intro wS hSw; (try dsimp only at hSw); go_simp; try (with_reducible rfl))
        (try simp only [Act.put, List.setIfInBounds_toArray, List.set_cons_zero, List.set_cons_succ])
        refine take_d (i := 22) (v := ?vb3_23) rfl (by rfl) (by kernel_rfl) (by kernel_rfl) (by kernel_rfl) (fun _ _ _ h => h) (Or.inl ⟨by rfl, ?hb3_23⟩) (by assumption) ?rb3_23
        case hb3_23 => (intro wS hSw; (try dsimp only at hSw); go_simp; try (with_reducible rfl))
        (try simp only [Act.put, List.setIfInBounds_toArray, List.set_cons_zero, List.set_cons_succ])
        refine take_d (i := 23) (v := ?vb3_24) rfl (by rfl) (by kernel_rfl) (by kernel_rfl) (by kernel_rfl) (fun _ _ _ h => h) (Or.inl ⟨by rfl, ?hb3_24⟩) (by assumption) ?rb3_24
        case hb3_24 => (intro wS hSw; (try dsimp only at hSw); go_simp; try (with_reducible rfl))
        (try simp only [Act.put, List.setIfInBounds_toArray, List.set_cons_zero, List.set_cons_succ])
        refine wpAnyH_ready (rs := [24]) (by kernel_rfl) (by simp) ?_
        refine AllReadyH.cons rfl (fun K hK => ?_) AllReadyH.nil
        go_simp
        go_at_call 37
        refine (HW.out _).mono ?_
        rintro e wb3_25 ⟨rfl, bkb3_25⟩
        have hBn := below_next hBk bkb3_25
        clear hBk bkb3_25
        have hBk := hBn
        clear hBn
        try go_simp
        refine hK.out _ _ ?_ (fun hHeld => ?_)
        · (try dsimp only); exact hBk
        clear hK K
        (try simp only [Act.put, List.setIfInBounds_toArray, List.set_cons_zero, List.set_cons_succ])
        refine take_d (i := 25) (v := ?vb3_26) rfl (by rfl) (by kernel_rfl) (by kernel_rfl) (by kernel_rfl) (fun _ _ _ h => h) (Or.inl ⟨by rfl, ?hb3_26⟩) (by assumption) ?rb3_26
        case hb3_26 => (intro wS hSw; (try dsimp only at hSw); go_simp; try (with_reducible rfl))
        (try simp only [Act.put, List.setIfInBounds_toArray, List.set_cons_zero, List.set_cons_succ])
        refine take_d (i := 26) (v := ?vb3_27) rfl (by rfl) (by kernel_rfl) (by kernel_rfl) (by kernel_rfl) (fun _ _ _ h => h) (Or.inl ⟨by rfl, ?hb3_27⟩) (by assumption) ?rb3_27
        case hb3_27 => (intro wS hSw; (try dsimp only at hSw); go_simp; try (with_reducible rfl))
        (try simp only [Act.put, List.setIfInBounds_toArray, List.set_cons_zero, List.set_cons_succ])
        refine wpAnyH_done (by kernel_rfl) ?_ _
        have HBB := hid (below_next HB0 hBk)
        clear HB0 hBk
        go_wp2
        go_ret
        exact ⟨rfl, HBB.out⟩
  ·
    rcases (show hB = true ∨ hB = false by cases hB <;> simp) with rfl | rfl
    ·
      obtain rfl : hJ = true := p2 rfl
      rcases (show ok = true ∨ ok = false by cases ok <;> simp) with rfl | rfl
      ·
        obtain rfl : hM = false := p1
        have i2 := I.g2
        have i3 := I.g3
        have i4 := I.g4
        have i5 := I.g5
        have i6 := I.g6
        have il := I.lt
        go_wp2_with fail
        refine (HM.out _).mono ?_
        rintro e W8 ⟨rfl, z⟩
        clear i2 i3 i4 i5 i6 il
        replace I := I.next z
        replace J := J.below z
        clear z
        have i2 := I.g2
        have i3 := I.g3
        have i4 := I.g4
        have i5 := I.g5
        have i6 := I.g6
        have il := I.lt
        go_wp2_with fail
        refine (HhA.out _).mono ?_
        rintro e W9 ⟨rfl, z⟩
        clear i2 i3 i4 i5 i6 il
        have JM : BC W9 W8.heap.size M := (BC.new rfl).below z
        replace I := (I.next ((Below.refl _ _).alloc (Nat.le_refl _) (.cells #[.int .u64 (ub M.1), .int .u64 (ub M.2)] 26))).next z
        clear z J
        have i2 := I.g2
        have i3 := I.g3
        have i4 := I.g4
        have i5 := I.g5
        have i6 := I.g6
        have il := I.lt
        have m0 := JM.c0
        have m1 := JM.c1
        have ml := JM.lt
        go_wp2_with fail
        refine (HhA.out _).mono ?_
        rintro e W10 ⟨rfl, z⟩
        clear i2 i3 i4 i5 i6 il m0 m1 ml
        replace I := I.next z
        replace JM := JM.below z
        clear z
        have i2 := I.g2
        have i3 := I.g3
        have i4 := I.g4
        have i5 := I.g5
        have i6 := I.g6
        have il := I.lt
        have m0 := JM.c0
        have m1 := JM.c1
        have ml := JM.lt
        go_wp2_with fail
        refine (HhB.out _).mono ?_
        rintro e W11 ⟨rfl, z⟩
        clear i2 i3 i4 i5 i6 il m0 m1 ml
        replace I := I.next z
        replace JM := JM.below z
        clear z
        have i2 := I.g2
        have i3 := I.g3
        have i4 := I.g4
        have i5 := I.g5
        have i6 := I.g6
        have il := I.lt
        have m0 := JM.c0
        have m1 := JM.c1
        have ml := JM.lt
        have HB0 := I.bel
        go_wp2_with fail
        refine wp_region_held_drew (S := (fun w' : World => Below W11.heap.size W11 w')) (by kernel_rfl) ?_ (fun hHeld => ?_)
        · (try dsimp only); first | (with_reducible exact below_dr _) | (with_reducible exact Below.refl _ _) | exact below_dr _
        have hBk := below_dr W11
        refine take_d (i := 0) (v := ?vb4_1) rfl (by rfl) (by kernel_rfl) (by kernel_rfl) (by kernel_rfl) (fun _ _ _ h => h) (Or.inl ⟨by rfl, ?hb4_1⟩) (by assumption) ?rb4_1
        case hb4_1 => (intro wS hSw; (try dsimp only at hSw); go_simp; try (with_reducible rfl))
        (try simp only [Act.put, List.setIfInBounds_toArray, List.set_cons_zero, List.set_cons_succ])
        refine take_d (i := 1) (v := ?vb4_2) rfl (by rfl) (by kernel_rfl) (by kernel_rfl) (by kernel_rfl) (fun _ _ _ h => h) (Or.inl ⟨by rfl, ?hb4_2⟩) (by assumption) ?rb4_2
        case hb4_2 => (intro wS hSw; (try dsimp only at hSw); go_simp; try (with_reducible rfl))
        (try simp only [Act.put, List.setIfInBounds_toArray, List.set_cons_zero, List.set_cons_succ])
        refine take_d (i := 2) (v := ?vb4_3) rfl (by rfl) (by kernel_rfl) (by kernel_rfl) (by kernel_rfl) (fun _ _ _ h => h) (Or.inl ⟨by rfl, ?hb4_3⟩) (by assumption) ?rb4_3
        case hb4_3 => (intro wS hSw; (try dsimp only at hSw); go_simp; try (with_reducible rfl))
        (try simp only [Act.put, List.setIfInBounds_toArray, List.set_cons_zero, List.set_cons_succ])
        refine take_d (i := 3) (v := ?vb4_4) rfl (by rfl) (by kernel_rfl) (by kernel_rfl) (by kernel_rfl) (fun _ _ _ h => h) (Or.inl ⟨by rfl, ?hb4_4⟩) (by assumption) ?rb4_4
        case hb4_4 => (intro wS hSw; (try dsimp only at hSw); have hcq0 := cn hSw m0; have hcq1 := cn hSw m1; go_simp; try (with_reducible rfl))
        (try simp only [Act.put, List.setIfInBounds_toArray, List.set_cons_zero, List.set_cons_succ])
        refine take_d (i := 4) (v := ?vb4_5) rfl (by rfl) (by kernel_rfl) (by kernel_rfl) (by kernel_rfl) (fun _ _ _ h => h) (Or.inl ⟨by rfl, ?hb4_5⟩) (by assumption) ?rb4_5
        case hb4_5 => (intro wS hSw; (try dsimp only at hSw); go_simp; try (with_reducible rfl))
        (try simp only [Act.put, List.setIfInBounds_toArray, List.set_cons_zero, List.set_cons_succ])
        refine take_d (i := 5) (v := ?vb4_6) rfl (by rfl) (by kernel_rfl) (by kernel_rfl) (by kernel_rfl) (fun _ _ _ h => h) (Or.inl ⟨by rfl, ?hb4_6⟩) (by assumption) ?rb4_6
        case hb4_6 => (intro wS hSw; (try dsimp only at hSw); have hcq0 := cn hSw i6; go_simp; try (with_reducible rfl))
        (try simp only [Act.put, List.setIfInBounds_toArray, List.set_cons_zero, List.set_cons_succ])
        refine wpAnyH_ready (rs := [6]) (by kernel_rfl) (by simp) ?_
        refine AllReadyH.cons rfl (fun K hK => ?_) AllReadyH.nil
        go_simp
        go_at_call 40
        refine (HhM.out _).mono ?_
        rintro e wb4_7 ⟨rfl, bkb4_7⟩
        have hBn := below_next hBk bkb4_7
        clear hBk bkb4_7
        have hBk := hBn
        clear hBn
        try go_simp
        refine hK.out _ _ ?_ (fun hHeld => ?_)
        · (try dsimp only); exact hBk
        clear hK K
        (try simp only [Act.put, List.setIfInBounds_toArray, List.set_cons_zero, List.set_cons_succ])
        refine take_d (i := 7) (v := ?vb4_8) rfl (by rfl) (by kernel_rfl) (by kernel_rfl) (by kernel_rfl) (fun _ _ _ h => h) (Or.inl ⟨by rfl, ?hb4_8⟩) (by assumption) ?rb4_8
        case hb4_8 => (intro wS hSw; (try dsimp only at hSw); go_simp; try (with_reducible rfl))
        (try simp only [Act.put, List.setIfInBounds_toArray, List.set_cons_zero, List.set_cons_succ])
        refine take_d (i := 8) (v := ?vb4_9) rfl (by rfl) (by kernel_rfl) (by kernel_rfl) (by kernel_rfl) (fun _ _ _ h => h) (Or.inl ⟨by rfl, ?hb4_9⟩) (by assumption) ?rb4_9
        case hb4_9 => (intro wS hSw; (try dsimp only at hSw); go_simp; try (with_reducible rfl))
        (try simp only [Act.put, List.setIfInBounds_toArray, List.set_cons_zero, List.set_cons_succ])
        refine take_d (i := 9) (v := ?vb4_10) rfl (by rfl) (by kernel_rfl) (by kernel_rfl) (by kernel_rfl) (fun _ _ _ h => h) (Or.inl ⟨by rfl, ?hb4_10⟩) (by assumption) ?rb4_10
        case hb4_10 => (intro wS hSw; (try dsimp only at hSw); go_simp; try (with_reducible rfl))
        (try simp only [Act.put, List.setIfInBounds_toArray, List.set_cons_zero, List.set_cons_succ])
        refine take_d (i := 10) (v := ?vb4_11) rfl (by rfl) (by kernel_rfl) (by kernel_rfl) (by kernel_rfl) (fun _ _ _ h => h) (Or.inl ⟨by rfl, ?hb4_11⟩) (by assumption) ?rb4_11
        case hb4_11 => (intro wS hSw; (try dsimp only at hSw); go_simp; try (with_reducible rfl))
        (try simp only [Act.put, List.setIfInBounds_toArray, List.set_cons_zero, List.set_cons_succ])
        refine take_d (i := 11) (v := ?vb4_12) rfl (by rfl) (by kernel_rfl) (by kernel_rfl) (by kernel_rfl) (fun _ _ _ h => h) (Or.inl ⟨by rfl, ?hb4_12⟩) (by assumption) ?rb4_12
        case hb4_12 => (intro wS hSw; (try dsimp only at hSw); go_simp; try (with_reducible rfl))
        (try simp only [Act.put, List.setIfInBounds_toArray, List.set_cons_zero, List.set_cons_succ])
        refine take_d (i := 12) (v := ?vb4_13) rfl (by rfl) (by kernel_rfl) (by kernel_rfl) (by kernel_rfl) (fun _ _ _ h => h) (Or.inl ⟨by rfl, ?hb4_13⟩) (by assumption) ?rb4_13
        case hb4_13 => (intro wS hSw; (try dsimp only at hSw); go_simp; try (with_reducible rfl))
        (try simp only [Act.put, List.setIfInBounds_toArray, List.set_cons_zero, List.set_cons_succ])
        refine take_d (i := 13) (v := ?vb4_14) rfl (by rfl) (by kernel_rfl) (by kernel_rfl) (by kernel_rfl) (fun _ _ _ h => h) (Or.inl ⟨by rfl, ?hb4_14⟩) (by assumption) ?rb4_14
        case hb4_14 => (intro wS hSw; (try dsimp only at hSw); go_simp; try (with_reducible rfl))
        (try simp only [Act.put, List.setIfInBounds_toArray, List.set_cons_zero, List.set_cons_succ])
        refine take_d (i := 14) (v := ?vb4_15) rfl (by rfl) (by kernel_rfl) (by kernel_rfl) (by kernel_rfl) (fun _ _ _ h => h) (Or.inl ⟨by rfl, ?hb4_15⟩) (by assumption) ?rb4_15
        case hb4_15 => (intro wS hSw; (try dsimp only at hSw); have hcq0 := cn hSw i2; have hcq1 := cn hSw i3; go_simp; try (with_reducible rfl))
        (try simp only [Act.put, List.setIfInBounds_toArray, List.set_cons_zero, List.set_cons_succ])
        refine take_d (i := 15) (v := ?vb4_16) rfl (by rfl) (by kernel_rfl) (by kernel_rfl) (by kernel_rfl) (fun _ _ _ h => h) (Or.inl ⟨by rfl, ?hb4_16⟩) (by assumption) ?rb4_16
        case hb4_16 => (intro wS hSw; (try dsimp only at hSw); go_simp; try (with_reducible rfl))
        (try simp only [Act.put, List.setIfInBounds_toArray, List.set_cons_zero, List.set_cons_succ])
        refine take_d (i := 16) (v := ?vb4_17) rfl (by rfl) (by kernel_rfl) (by kernel_rfl) (by kernel_rfl) (fun _ _ _ h => h) (Or.inl ⟨by rfl, ?hb4_17⟩) (by assumption) ?rb4_17
        case hb4_17 => (intro wS hSw; (try dsimp only at hSw); have hcq0 := cn hSw i4; have hcq1 := cn hSw i5; go_simp; try (with_reducible rfl))
        (try simp only [Act.put, List.setIfInBounds_toArray, List.set_cons_zero, List.set_cons_succ])
        refine take_d (i := 18) (v := ?vb4_18) rfl (by rfl) (by kernel_rfl) (by kernel_rfl) (by kernel_rfl) (fun _ _ _ h => h) (Or.inl ⟨by rfl, ?hb4_18⟩) (by assumption) ?rb4_18
        case hb4_18 => (intro wS hSw; (try dsimp only at hSw); go_simp; try (with_reducible rfl))
        (try simp only [Act.put, List.setIfInBounds_toArray, List.set_cons_zero, List.set_cons_succ])
        refine take_d (i := 19) (v := ?vb4_19) rfl (by rfl) (by kernel_rfl) (by kernel_rfl) (by kernel_rfl) (fun _ _ _ h => h) (Or.inl ⟨by rfl, ?hb4_19⟩) (by assumption) ?rb4_19
        case hb4_19 => (intro wS hSw; (try dsimp only at hSw); have hcq0 := cn hSw i6; go_simp; try (with_reducible rfl))
        (try simp only [Act.put, List.setIfInBounds_toArray, List.set_cons_zero, List.set_cons_succ])
        refine wpAnyH_ready (rs := [17]) (by kernel_rfl) (by simp) ?_
        refine AllReadyH.cons rfl (fun K hK => ?_) AllReadyH.nil
        go_simp
        go_at_call 41
        refine (HJn.out _).mono ?_
        rintro e wb4_20 ⟨rfl, bkb4_20⟩
        have hBn := below_next hBk bkb4_20
        clear hBk bkb4_20
        have hBk := hBn
        clear hBn
        try go_simp
        refine hK.out _ _ ?_ (fun hHeld => ?_)
        · (try dsimp only); exact hBk
        clear hK K
        (try simp only [Act.put, List.setIfInBounds_toArray, List.set_cons_zero, List.set_cons_succ])
        refine wpAnyH_ready (rs := [20]) (by kernel_rfl) (by simp) ?_
        refine AllReadyH.cons rfl (fun K hK => ?_) AllReadyH.nil
        go_simp
        go_at_call 40
        refine (HhJ.out _).mono ?_
        rintro e wb4_21 ⟨rfl, bkb4_21⟩
        have hBn := below_next hBk bkb4_21
        clear hBk bkb4_21
        have hBk := hBn
        clear hBn
        try go_simp
        refine hK.out _ _ ?_ (fun hHeld => ?_)
        · (try dsimp only); exact hBk
        clear hK K
        (try simp only [Act.put, List.setIfInBounds_toArray, List.set_cons_zero, List.set_cons_succ])
        refine take_d (i := 21) (v := ?vb4_22) rfl (by rfl) (by kernel_rfl) (by kernel_rfl) (by kernel_rfl) (fun _ _ _ h => h) (Or.inl ⟨by rfl, ?hb4_22⟩) (by assumption) ?rb4_22
        case hb4_22 => (intro wS hSw; (try dsimp only at hSw); go_simp; try (with_reducible rfl))
        (try simp only [Act.put, List.setIfInBounds_toArray, List.set_cons_zero, List.set_cons_succ])
        refine take_d (i := 22) (v := ?vb4_23) rfl (by rfl) (by kernel_rfl) (by kernel_rfl) (by kernel_rfl) (fun _ _ _ h => h) (Or.inl ⟨by rfl, ?hb4_23⟩) (by assumption) ?rb4_23
        case hb4_23 => (intro wS hSw; (try dsimp only at hSw); go_simp; try (with_reducible rfl))
        (try simp only [Act.put, List.setIfInBounds_toArray, List.set_cons_zero, List.set_cons_succ])
        refine take_d (i := 23) (v := ?vb4_24) rfl (by rfl) (by kernel_rfl) (by kernel_rfl) (by kernel_rfl) (fun _ _ _ h => h) (Or.inl ⟨by rfl, ?hb4_24⟩) (by assumption) ?rb4_24
        case hb4_24 => (intro wS hSw; (try dsimp only at hSw); go_simp; try (with_reducible rfl))
        (try simp only [Act.put, List.setIfInBounds_toArray, List.set_cons_zero, List.set_cons_succ])
        refine wpAnyH_ready (rs := [24]) (by kernel_rfl) (by simp) ?_
        refine AllReadyH.cons rfl (fun K hK => ?_) AllReadyH.nil
        go_simp
        go_at_call 37
        refine (HW.out _).mono ?_
        rintro e wb4_25 ⟨rfl, bkb4_25⟩
        have hBn := below_next hBk bkb4_25
        clear hBk bkb4_25
        have hBk := hBn
        clear hBn
        try go_simp
        refine hK.out _ _ ?_ (fun hHeld => ?_)
        · (try dsimp only); exact hBk
        clear hK K
        (try simp only [Act.put, List.setIfInBounds_toArray, List.set_cons_zero, List.set_cons_succ])
        refine take_d (i := 25) (v := ?vb4_26) rfl (by rfl) (by kernel_rfl) (by kernel_rfl) (by kernel_rfl) (fun _ _ _ h => h) (Or.inl ⟨by rfl, ?hb4_26⟩) (by assumption) ?rb4_26
        case hb4_26 => (intro wS hSw; (try dsimp only at hSw); go_simp; try (with_reducible rfl))
        (try simp only [Act.put, List.setIfInBounds_toArray, List.set_cons_zero, List.set_cons_succ])
        refine take_d (i := 26) (v := ?vb4_27) rfl (by rfl) (by kernel_rfl) (by kernel_rfl) (by kernel_rfl) (fun _ _ _ h => h) (Or.inl ⟨by rfl, ?hb4_27⟩) (by assumption) ?rb4_27
        case hb4_27 => (intro wS hSw; (try dsimp only at hSw); go_simp; try (with_reducible rfl))
        (try simp only [Act.put, List.setIfInBounds_toArray, List.set_cons_zero, List.set_cons_succ])
        refine wpAnyH_done (by kernel_rfl) ?_ _
        have HBB := hid (below_next HB0 hBk)
        clear HB0 hBk
        go_wp2
        go_ret
        exact ⟨rfl, HBB.out⟩
      ·
        have i2 := I.g2
        have i3 := I.g3
        have i4 := I.g4
        have i5 := I.g5
        have i6 := I.g6
        have il := I.lt
        go_wp2_with fail
        refine (HM.out _).mono ?_
        rintro e W8 ⟨rfl, z⟩
        clear i2 i3 i4 i5 i6 il
        replace I := I.next z
        replace J := J.below z
        clear z
        have i2 := I.g2
        have i3 := I.g3
        have i4 := I.g4
        have i5 := I.g5
        have i6 := I.g6
        have il := I.lt
        go_wp2_with fail
        refine (HhA.out _).mono ?_
        rintro e W9 ⟨rfl, z⟩
        clear i2 i3 i4 i5 i6 il
        have JM : BC W9 W8.heap.size M := (BC.new rfl).below z
        replace I := (I.next ((Below.refl _ _).alloc (Nat.le_refl _) (.cells #[.int .u64 (ub M.1), .int .u64 (ub M.2)] 26))).next z
        clear z J
        have i2 := I.g2
        have i3 := I.g3
        have i4 := I.g4
        have i5 := I.g5
        have i6 := I.g6
        have il := I.lt
        have m0 := JM.c0
        have m1 := JM.c1
        have ml := JM.lt
        go_wp2_with fail
        refine (HhA.out _).mono ?_
        rintro e W10 ⟨rfl, z⟩
        clear i2 i3 i4 i5 i6 il m0 m1 ml
        replace I := I.next z
        replace JM := JM.below z
        clear z
        have i2 := I.g2
        have i3 := I.g3
        have i4 := I.g4
        have i5 := I.g5
        have i6 := I.g6
        have il := I.lt
        have m0 := JM.c0
        have m1 := JM.c1
        have ml := JM.lt
        go_wp2_with fail
        refine (HhB.out _).mono ?_
        rintro e W11 ⟨rfl, z⟩
        clear i2 i3 i4 i5 i6 il m0 m1 ml
        replace I := I.next z
        replace JM := JM.below z
        clear z
        have i2 := I.g2
        have i3 := I.g3
        have i4 := I.g4
        have i5 := I.g5
        have i6 := I.g6
        have il := I.lt
        have m0 := JM.c0
        have m1 := JM.c1
        have ml := JM.lt
        have HB0 := I.bel
        go_wp2_with fail
        refine wp_region_held_drew (S := (fun w' : World => Below W11.heap.size W11 w')) (by kernel_rfl) ?_ (fun hHeld => ?_)
        · (try dsimp only); first | (with_reducible exact below_dr _) | (with_reducible exact Below.refl _ _) | exact below_dr _
        have hBk := below_dr W11
        refine take_d (i := 0) (v := ?vb5_1) rfl (by rfl) (by kernel_rfl) (by kernel_rfl) (by kernel_rfl) (fun _ _ _ h => h) (Or.inl ⟨by rfl, ?hb5_1⟩) (by assumption) ?rb5_1
        case hb5_1 => (intro wS hSw; (try dsimp only at hSw); go_simp; try (with_reducible rfl))
        (try simp only [Act.put, List.setIfInBounds_toArray, List.set_cons_zero, List.set_cons_succ])
        refine take_d (i := 1) (v := ?vb5_2) rfl (by rfl) (by kernel_rfl) (by kernel_rfl) (by kernel_rfl) (fun _ _ _ h => h) (Or.inl ⟨by rfl, ?hb5_2⟩) (by assumption) ?rb5_2
        case hb5_2 => (intro wS hSw; (try dsimp only at hSw); go_simp; try (with_reducible rfl))
        (try simp only [Act.put, List.setIfInBounds_toArray, List.set_cons_zero, List.set_cons_succ])
        refine take_d (i := 2) (v := ?vb5_3) rfl (by rfl) (by kernel_rfl) (by kernel_rfl) (by kernel_rfl) (fun _ _ _ h => h) (Or.inl ⟨by rfl, ?hb5_3⟩) (by assumption) ?rb5_3
        case hb5_3 => (intro wS hSw; (try dsimp only at hSw); go_simp; try (with_reducible rfl))
        (try simp only [Act.put, List.setIfInBounds_toArray, List.set_cons_zero, List.set_cons_succ])
        refine take_d (i := 3) (v := undef) rfl (by rfl) (by kernel_rfl) (by kernel_rfl) (by kernel_rfl) (fun _ _ _ h => h) (Or.inr ⟨by rfl, rfl⟩) (by assumption) ?rb5_4
        (try simp only [Act.put, List.setIfInBounds_toArray, List.set_cons_zero, List.set_cons_succ])
        refine take_d (i := 4) (v := undef) rfl (by rfl) (by kernel_rfl) (by kernel_rfl) (by kernel_rfl) (fun _ _ _ h => h) (Or.inr ⟨by rfl, rfl⟩) (by assumption) ?rb5_5
        (try simp only [Act.put, List.setIfInBounds_toArray, List.set_cons_zero, List.set_cons_succ])
        refine take_d (i := 5) (v := undef) rfl (by rfl) (by kernel_rfl) (by kernel_rfl) (by kernel_rfl) (fun _ _ _ h => h) (Or.inr ⟨by rfl, rfl⟩) (by assumption) ?rb5_6
        (try simp only [Act.put, List.setIfInBounds_toArray, List.set_cons_zero, List.set_cons_succ])
        refine take_d (i := 6) (v := undef) rfl (by rfl) (by kernel_rfl) (by kernel_rfl) (by kernel_rfl) (fun _ _ _ h => h) (Or.inr ⟨by rfl, rfl⟩) (by assumption) ?rb5_7
        (try simp only [Act.put, List.setIfInBounds_toArray, List.set_cons_zero, List.set_cons_succ])
        refine take_d (i := 7) (v := ?vb5_8) rfl (by rfl) (by kernel_rfl) (by kernel_rfl) (by kernel_rfl) (fun _ _ _ h => h) (Or.inl ⟨by rfl, ?hb5_8⟩) (by assumption) ?rb5_8
        case hb5_8 => (intro wS hSw; (try dsimp only at hSw); go_simp; try (with_reducible rfl))
        (try simp only [Act.put, List.setIfInBounds_toArray, List.set_cons_zero, List.set_cons_succ])
        refine take_d (i := 8) (v := ?vb5_9) rfl (by rfl) (by kernel_rfl) (by kernel_rfl) (by kernel_rfl) (fun _ _ _ h => h) (Or.inl ⟨by rfl, ?hb5_9⟩) (by assumption) ?rb5_9
        case hb5_9 => (intro wS hSw; (try dsimp only at hSw); go_simp; try (with_reducible rfl))
        (try simp only [Act.put, List.setIfInBounds_toArray, List.set_cons_zero, List.set_cons_succ])
        refine take_d (i := 9) (v := ?vb5_10) rfl (by rfl) (by kernel_rfl) (by kernel_rfl) (by kernel_rfl) (fun _ _ _ h => h) (Or.inl ⟨by rfl, ?hb5_10⟩) (by assumption) ?rb5_10
        case hb5_10 => (intro wS hSw; (try dsimp only at hSw); go_simp; try (with_reducible rfl))
        (try simp only [Act.put, List.setIfInBounds_toArray, List.set_cons_zero, List.set_cons_succ])
        refine take_d (i := 10) (v := ?vb5_11) rfl (by rfl) (by kernel_rfl) (by kernel_rfl) (by kernel_rfl) (fun _ _ _ h => h) (Or.inl ⟨by rfl, ?hb5_11⟩) (by assumption) ?rb5_11
        case hb5_11 => (intro wS hSw; (try dsimp only at hSw); go_simp; try (with_reducible rfl))
        (try simp only [Act.put, List.setIfInBounds_toArray, List.set_cons_zero, List.set_cons_succ])
        refine take_d (i := 11) (v := ?vb5_12) rfl (by rfl) (by kernel_rfl) (by kernel_rfl) (by kernel_rfl) (fun _ _ _ h => h) (Or.inl ⟨by rfl, ?hb5_12⟩) (by assumption) ?rb5_12
        case hb5_12 => (intro wS hSw; (try dsimp only at hSw); go_simp; try (with_reducible rfl))
        (try simp only [Act.put, List.setIfInBounds_toArray, List.set_cons_zero, List.set_cons_succ])
        refine take_d (i := 12) (v := ?vb5_13) rfl (by rfl) (by kernel_rfl) (by kernel_rfl) (by kernel_rfl) (fun _ _ _ h => h) (Or.inl ⟨by rfl, ?hb5_13⟩) (by assumption) ?rb5_13
        case hb5_13 => (intro wS hSw; (try dsimp only at hSw); go_simp; try (with_reducible rfl))
        (try simp only [Act.put, List.setIfInBounds_toArray, List.set_cons_zero, List.set_cons_succ])
        refine take_d (i := 13) (v := ?vb5_14) rfl (by rfl) (by kernel_rfl) (by kernel_rfl) (by kernel_rfl) (fun _ _ _ h => h) (Or.inl ⟨by rfl, ?hb5_14⟩) (by assumption) ?rb5_14
        case hb5_14 => (intro wS hSw; (try dsimp only at hSw); go_simp; try (with_reducible rfl))
        (try simp only [Act.put, List.setIfInBounds_toArray, List.set_cons_zero, List.set_cons_succ])
        refine take_d (i := 14) (v := ?vb5_15) rfl (by rfl) (by kernel_rfl) (by kernel_rfl) (by kernel_rfl) (fun _ _ _ h => h) (Or.inl ⟨by rfl, ?hb5_15⟩) (by assumption) ?rb5_15
        case hb5_15 => (intro wS hSw; (try dsimp only at hSw); have hcq0 := cn hSw i2; have hcq1 := cn hSw i3; go_simp; try (with_reducible rfl))
        (try simp only [Act.put, List.setIfInBounds_toArray, List.set_cons_zero, List.set_cons_succ])
        refine take_d (i := 15) (v := ?vb5_16) rfl (by rfl) (by kernel_rfl) (by kernel_rfl) (by kernel_rfl) (fun _ _ _ h => h) (Or.inl ⟨by rfl, ?hb5_16⟩) (by assumption) ?rb5_16
        case hb5_16 => (intro wS hSw; (try dsimp only at hSw); go_simp; try (with_reducible rfl))
        (try simp only [Act.put, List.setIfInBounds_toArray, List.set_cons_zero, List.set_cons_succ])
        refine take_d (i := 16) (v := ?vb5_17) rfl (by rfl) (by kernel_rfl) (by kernel_rfl) (by kernel_rfl) (fun _ _ _ h => h) (Or.inl ⟨by rfl, ?hb5_17⟩) (by assumption) ?rb5_17
        case hb5_17 => (intro wS hSw; (try dsimp only at hSw); have hcq0 := cn hSw i4; have hcq1 := cn hSw i5; go_simp; try (with_reducible rfl))
        (try simp only [Act.put, List.setIfInBounds_toArray, List.set_cons_zero, List.set_cons_succ])
        refine take_d (i := 18) (v := ?vb5_18) rfl (by rfl) (by kernel_rfl) (by kernel_rfl) (by kernel_rfl) (fun _ _ _ h => h) (Or.inl ⟨by rfl, ?hb5_18⟩) (by assumption) ?rb5_18
        case hb5_18 => (intro wS hSw; (try dsimp only at hSw); go_simp; try (with_reducible rfl))
        (try simp only [Act.put, List.setIfInBounds_toArray, List.set_cons_zero, List.set_cons_succ])
        refine take_d (i := 19) (v := ?vb5_19) rfl (by rfl) (by kernel_rfl) (by kernel_rfl) (by kernel_rfl) (fun _ _ _ h => h) (Or.inl ⟨by rfl, ?hb5_19⟩) (by assumption) ?rb5_19
        case hb5_19 => (intro wS hSw; (try dsimp only at hSw); have hcq0 := cn hSw i6; go_simp; try (with_reducible rfl))
        (try simp only [Act.put, List.setIfInBounds_toArray, List.set_cons_zero, List.set_cons_succ])
        refine wpAnyH_ready (rs := [17]) (by kernel_rfl) (by simp) ?_
        refine AllReadyH.cons rfl (fun K hK => ?_) AllReadyH.nil
        go_simp
        go_at_call 41
        refine (HJn.out _).mono ?_
        rintro e wb5_20 ⟨rfl, bkb5_20⟩
        have hBn := below_next hBk bkb5_20
        clear hBk bkb5_20
        have hBk := hBn
        clear hBn
        try go_simp
        refine hK.out _ _ ?_ (fun hHeld => ?_)
        · (try dsimp only); exact hBk
        clear hK K
        (try simp only [Act.put, List.setIfInBounds_toArray, List.set_cons_zero, List.set_cons_succ])
        refine wpAnyH_ready (rs := [20]) (by kernel_rfl) (by simp) ?_
        refine AllReadyH.cons rfl (fun K hK => ?_) AllReadyH.nil
        go_simp
        go_at_call 40
        refine (HhJ.out _).mono ?_
        rintro e wb5_21 ⟨rfl, bkb5_21⟩
        have hBn := below_next hBk bkb5_21
        clear hBk bkb5_21
        have hBk := hBn
        clear hBn
        try go_simp
        refine hK.out _ _ ?_ (fun hHeld => ?_)
        · (try dsimp only); exact hBk
        clear hK K
        (try simp only [Act.put, List.setIfInBounds_toArray, List.set_cons_zero, List.set_cons_succ])
        refine take_d (i := 21) (v := ?vb5_22) rfl (by rfl) (by kernel_rfl) (by kernel_rfl) (by kernel_rfl) (fun _ _ _ h => h) (Or.inl ⟨by rfl, ?hb5_22⟩) (by assumption) ?rb5_22
        case hb5_22 => (intro wS hSw; (try dsimp only at hSw); go_simp; try (with_reducible rfl))
        (try simp only [Act.put, List.setIfInBounds_toArray, List.set_cons_zero, List.set_cons_succ])
        refine take_d (i := 22) (v := ?vb5_23) rfl (by rfl) (by kernel_rfl) (by kernel_rfl) (by kernel_rfl) (fun _ _ _ h => h) (Or.inl ⟨by rfl, ?hb5_23⟩) (by assumption) ?rb5_23
        case hb5_23 => (intro wS hSw; (try dsimp only at hSw); go_simp; try (with_reducible rfl))
        (try simp only [Act.put, List.setIfInBounds_toArray, List.set_cons_zero, List.set_cons_succ])
        refine take_d (i := 23) (v := ?vb5_24) rfl (by rfl) (by kernel_rfl) (by kernel_rfl) (by kernel_rfl) (fun _ _ _ h => h) (Or.inl ⟨by rfl, ?hb5_24⟩) (by assumption) ?rb5_24
        case hb5_24 => (intro wS hSw; (try dsimp only at hSw); go_simp; try (with_reducible rfl))
        (try simp only [Act.put, List.setIfInBounds_toArray, List.set_cons_zero, List.set_cons_succ])
        refine wpAnyH_ready (rs := [24]) (by kernel_rfl) (by simp) ?_
        refine AllReadyH.cons rfl (fun K hK => ?_) AllReadyH.nil
        go_simp
        go_at_call 37
        refine (HW.out _).mono ?_
        rintro e wb5_25 ⟨rfl, bkb5_25⟩
        have hBn := below_next hBk bkb5_25
        clear hBk bkb5_25
        have hBk := hBn
        clear hBn
        try go_simp
        refine hK.out _ _ ?_ (fun hHeld => ?_)
        · (try dsimp only); exact hBk
        clear hK K
        (try simp only [Act.put, List.setIfInBounds_toArray, List.set_cons_zero, List.set_cons_succ])
        refine take_d (i := 25) (v := ?vb5_26) rfl (by rfl) (by kernel_rfl) (by kernel_rfl) (by kernel_rfl) (fun _ _ _ h => h) (Or.inl ⟨by rfl, ?hb5_26⟩) (by assumption) ?rb5_26
        case hb5_26 => (intro wS hSw; (try dsimp only at hSw); go_simp; try (with_reducible rfl))
        (try simp only [Act.put, List.setIfInBounds_toArray, List.set_cons_zero, List.set_cons_succ])
        refine take_d (i := 26) (v := ?vb5_27) rfl (by rfl) (by kernel_rfl) (by kernel_rfl) (by kernel_rfl) (fun _ _ _ h => h) (Or.inl ⟨by rfl, ?hb5_27⟩) (by assumption) ?rb5_27
        case hb5_27 => (intro wS hSw; (try dsimp only at hSw); go_simp; try (with_reducible rfl))
        (try simp only [Act.put, List.setIfInBounds_toArray, List.set_cons_zero, List.set_cons_succ])
        refine wpAnyH_done (by kernel_rfl) ?_ _
        have HBB := hid (below_next HB0 hBk)
        clear HB0 hBk
        go_wp2
        go_ret
        exact ⟨rfl, HBB.out⟩
    ·
      rcases (show ok = true ∨ ok = false by cases ok <;> simp) with rfl | rfl
      ·
        obtain rfl : hM = false := p1
        have i2 := I.g2
        have i3 := I.g3
        have i4 := I.g4
        have i5 := I.g5
        have i6 := I.g6
        have il := I.lt
        go_wp2_with fail
        refine (HM.out _).mono ?_
        rintro e W8 ⟨rfl, z⟩
        clear i2 i3 i4 i5 i6 il
        replace I := I.next z
        replace J := J.below z
        clear z
        have i2 := I.g2
        have i3 := I.g3
        have i4 := I.g4
        have i5 := I.g5
        have i6 := I.g6
        have il := I.lt
        go_wp2_with fail
        refine (HhA.out _).mono ?_
        rintro e W9 ⟨rfl, z⟩
        clear i2 i3 i4 i5 i6 il
        have JM : BC W9 W8.heap.size M := (BC.new rfl).below z
        replace I := (I.next ((Below.refl _ _).alloc (Nat.le_refl _) (.cells #[.int .u64 (ub M.1), .int .u64 (ub M.2)] 26))).next z
        clear z J
        have i2 := I.g2
        have i3 := I.g3
        have i4 := I.g4
        have i5 := I.g5
        have i6 := I.g6
        have il := I.lt
        have m0 := JM.c0
        have m1 := JM.c1
        have ml := JM.lt
        go_wp2_with fail
        refine (HhA.out _).mono ?_
        rintro e W10 ⟨rfl, z⟩
        clear i2 i3 i4 i5 i6 il m0 m1 ml
        replace I := I.next z
        replace JM := JM.below z
        clear z
        have i2 := I.g2
        have i3 := I.g3
        have i4 := I.g4
        have i5 := I.g5
        have i6 := I.g6
        have il := I.lt
        have m0 := JM.c0
        have m1 := JM.c1
        have ml := JM.lt
        go_wp2_with fail
        refine (HhB.out _).mono ?_
        rintro e W11 ⟨rfl, z⟩
        clear i2 i3 i4 i5 i6 il m0 m1 ml
        replace I := I.next z
        replace JM := JM.below z
        clear z
        have i2 := I.g2
        have i3 := I.g3
        have i4 := I.g4
        have i5 := I.g5
        have i6 := I.g6
        have il := I.lt
        have m0 := JM.c0
        have m1 := JM.c1
        have ml := JM.lt
        have HB0 := I.bel
        go_wp2_with fail
        refine wp_region_held_drew (S := (fun w' : World => Below W11.heap.size W11 w')) (by kernel_rfl) ?_ (fun hHeld => ?_)
        · (try dsimp only); first | (with_reducible exact below_dr _) | (with_reducible exact Below.refl _ _) | exact below_dr _
        have hBk := below_dr W11
        refine take_d (i := 0) (v := ?vb6_1) rfl (by rfl) (by kernel_rfl) (by kernel_rfl) (by kernel_rfl) (fun _ _ _ h => h) (Or.inl ⟨by rfl, ?hb6_1⟩) (by assumption) ?rb6_1
        case hb6_1 => (intro wS hSw; (try dsimp only at hSw); go_simp; try (with_reducible rfl))
        (try simp only [Act.put, List.setIfInBounds_toArray, List.set_cons_zero, List.set_cons_succ])
        refine take_d (i := 1) (v := ?vb6_2) rfl (by rfl) (by kernel_rfl) (by kernel_rfl) (by kernel_rfl) (fun _ _ _ h => h) (Or.inl ⟨by rfl, ?hb6_2⟩) (by assumption) ?rb6_2
        case hb6_2 => (intro wS hSw; (try dsimp only at hSw); go_simp; try (with_reducible rfl))
        (try simp only [Act.put, List.setIfInBounds_toArray, List.set_cons_zero, List.set_cons_succ])
        refine take_d (i := 2) (v := ?vb6_3) rfl (by rfl) (by kernel_rfl) (by kernel_rfl) (by kernel_rfl) (fun _ _ _ h => h) (Or.inl ⟨by rfl, ?hb6_3⟩) (by assumption) ?rb6_3
        case hb6_3 => (intro wS hSw; (try dsimp only at hSw); go_simp; try (with_reducible rfl))
        (try simp only [Act.put, List.setIfInBounds_toArray, List.set_cons_zero, List.set_cons_succ])
        refine take_d (i := 3) (v := ?vb6_4) rfl (by rfl) (by kernel_rfl) (by kernel_rfl) (by kernel_rfl) (fun _ _ _ h => h) (Or.inl ⟨by rfl, ?hb6_4⟩) (by assumption) ?rb6_4
        case hb6_4 => (intro wS hSw; (try dsimp only at hSw); have hcq0 := cn hSw m0; have hcq1 := cn hSw m1; go_simp; try (with_reducible rfl))
        (try simp only [Act.put, List.setIfInBounds_toArray, List.set_cons_zero, List.set_cons_succ])
        refine take_d (i := 4) (v := ?vb6_5) rfl (by rfl) (by kernel_rfl) (by kernel_rfl) (by kernel_rfl) (fun _ _ _ h => h) (Or.inl ⟨by rfl, ?hb6_5⟩) (by assumption) ?rb6_5
        case hb6_5 => (intro wS hSw; (try dsimp only at hSw); go_simp; try (with_reducible rfl))
        (try simp only [Act.put, List.setIfInBounds_toArray, List.set_cons_zero, List.set_cons_succ])
        refine take_d (i := 5) (v := ?vb6_6) rfl (by rfl) (by kernel_rfl) (by kernel_rfl) (by kernel_rfl) (fun _ _ _ h => h) (Or.inl ⟨by rfl, ?hb6_6⟩) (by assumption) ?rb6_6
        case hb6_6 => (intro wS hSw; (try dsimp only at hSw); have hcq0 := cn hSw i6; go_simp; try (with_reducible rfl))
        (try simp only [Act.put, List.setIfInBounds_toArray, List.set_cons_zero, List.set_cons_succ])
        refine wpAnyH_ready (rs := [6]) (by kernel_rfl) (by simp) ?_
        refine AllReadyH.cons rfl (fun K hK => ?_) AllReadyH.nil
        go_simp
        go_at_call 40
        refine (HhM.out _).mono ?_
        rintro e wb6_7 ⟨rfl, bkb6_7⟩
        have hBn := below_next hBk bkb6_7
        clear hBk bkb6_7
        have hBk := hBn
        clear hBn
        try go_simp
        refine hK.out _ _ ?_ (fun hHeld => ?_)
        · (try dsimp only); exact hBk
        clear hK K
        (try simp only [Act.put, List.setIfInBounds_toArray, List.set_cons_zero, List.set_cons_succ])
        refine take_d (i := 7) (v := ?vb6_8) rfl (by rfl) (by kernel_rfl) (by kernel_rfl) (by kernel_rfl) (fun _ _ _ h => h) (Or.inl ⟨by rfl, ?hb6_8⟩) (by assumption) ?rb6_8
        case hb6_8 => (intro wS hSw; (try dsimp only at hSw); go_simp; try (with_reducible rfl))
        (try simp only [Act.put, List.setIfInBounds_toArray, List.set_cons_zero, List.set_cons_succ])
        refine take_d (i := 8) (v := ?vb6_9) rfl (by rfl) (by kernel_rfl) (by kernel_rfl) (by kernel_rfl) (fun _ _ _ h => h) (Or.inl ⟨by rfl, ?hb6_9⟩) (by assumption) ?rb6_9
        case hb6_9 => (intro wS hSw; (try dsimp only at hSw); go_simp; try (with_reducible rfl))
        (try simp only [Act.put, List.setIfInBounds_toArray, List.set_cons_zero, List.set_cons_succ])
        refine take_d (i := 9) (v := ?vb6_10) rfl (by rfl) (by kernel_rfl) (by kernel_rfl) (by kernel_rfl) (fun _ _ _ h => h) (Or.inl ⟨by rfl, ?hb6_10⟩) (by assumption) ?rb6_10
        case hb6_10 => (intro wS hSw; (try dsimp only at hSw); go_simp; try (with_reducible rfl))
        (try simp only [Act.put, List.setIfInBounds_toArray, List.set_cons_zero, List.set_cons_succ])
        refine take_d (i := 10) (v := ?vb6_11) rfl (by rfl) (by kernel_rfl) (by kernel_rfl) (by kernel_rfl) (fun _ _ _ h => h) (Or.inl ⟨by rfl, ?hb6_11⟩) (by assumption) ?rb6_11
        case hb6_11 => (intro wS hSw; (try dsimp only at hSw); go_simp; try (with_reducible rfl))
        (try simp only [Act.put, List.setIfInBounds_toArray, List.set_cons_zero, List.set_cons_succ])
        refine take_d (i := 11) (v := ?vb6_12) rfl (by rfl) (by kernel_rfl) (by kernel_rfl) (by kernel_rfl) (fun _ _ _ h => h) (Or.inl ⟨by rfl, ?hb6_12⟩) (by assumption) ?rb6_12
        case hb6_12 => (intro wS hSw; (try dsimp only at hSw); go_simp; try (with_reducible rfl))
        (try simp only [Act.put, List.setIfInBounds_toArray, List.set_cons_zero, List.set_cons_succ])
        refine take_d (i := 12) (v := ?vb6_13) rfl (by rfl) (by kernel_rfl) (by kernel_rfl) (by kernel_rfl) (fun _ _ _ h => h) (Or.inl ⟨by rfl, ?hb6_13⟩) (by assumption) ?rb6_13
        case hb6_13 => (intro wS hSw; (try dsimp only at hSw); go_simp; try (with_reducible rfl))
        (try simp only [Act.put, List.setIfInBounds_toArray, List.set_cons_zero, List.set_cons_succ])
        refine take_d (i := 13) (v := undef) rfl (by rfl) (by kernel_rfl) (by kernel_rfl) (by kernel_rfl) (fun _ _ _ h => h) (Or.inr ⟨by rfl, rfl⟩) (by assumption) ?rb6_14
        (try simp only [Act.put, List.setIfInBounds_toArray, List.set_cons_zero, List.set_cons_succ])
        refine take_d (i := 14) (v := undef) rfl (by rfl) (by kernel_rfl) (by kernel_rfl) (by kernel_rfl) (fun _ _ _ h => h) (Or.inr ⟨by rfl, rfl⟩) (by assumption) ?rb6_15
        (try simp only [Act.put, List.setIfInBounds_toArray, List.set_cons_zero, List.set_cons_succ])
        refine take_d (i := 15) (v := undef) rfl (by rfl) (by kernel_rfl) (by kernel_rfl) (by kernel_rfl) (fun _ _ _ h => h) (Or.inr ⟨by rfl, rfl⟩) (by assumption) ?rb6_16
        (try simp only [Act.put, List.setIfInBounds_toArray, List.set_cons_zero, List.set_cons_succ])
        refine take_d (i := 16) (v := undef) rfl (by rfl) (by kernel_rfl) (by kernel_rfl) (by kernel_rfl) (fun _ _ _ h => h) (Or.inr ⟨by rfl, rfl⟩) (by assumption) ?rb6_17
        (try simp only [Act.put, List.setIfInBounds_toArray, List.set_cons_zero, List.set_cons_succ])
        refine take_d (i := 17) (v := undef) rfl (by rfl) (by kernel_rfl) (by kernel_rfl) (by kernel_rfl) (fun _ _ _ h => h) (Or.inr ⟨by rfl, rfl⟩) (by assumption) ?rb6_18
        (try simp only [Act.put, List.setIfInBounds_toArray, List.set_cons_zero, List.set_cons_succ])
        refine take_d (i := 18) (v := undef) rfl (by rfl) (by kernel_rfl) (by kernel_rfl) (by kernel_rfl) (fun _ _ _ h => h) (Or.inr ⟨by rfl, rfl⟩) (by assumption) ?rb6_19
        (try simp only [Act.put, List.setIfInBounds_toArray, List.set_cons_zero, List.set_cons_succ])
        refine take_d (i := 19) (v := undef) rfl (by rfl) (by kernel_rfl) (by kernel_rfl) (by kernel_rfl) (fun _ _ _ h => h) (Or.inr ⟨by rfl, rfl⟩) (by assumption) ?rb6_20
        (try simp only [Act.put, List.setIfInBounds_toArray, List.set_cons_zero, List.set_cons_succ])
        refine take_d (i := 20) (v := undef) rfl (by rfl) (by kernel_rfl) (by kernel_rfl) (by kernel_rfl) (fun _ _ _ h => h) (Or.inr ⟨by rfl, rfl⟩) (by assumption) ?rb6_21
        (try simp only [Act.put, List.setIfInBounds_toArray, List.set_cons_zero, List.set_cons_succ])
        refine take_d (i := 21) (v := ?vb6_22) rfl (by rfl) (by kernel_rfl) (by kernel_rfl) (by kernel_rfl) (fun _ _ _ h => h) (Or.inl ⟨by rfl, ?hb6_22⟩) (by assumption) ?rb6_22
        case hb6_22 => (intro wS hSw; (try dsimp only at hSw); go_simp; try (with_reducible rfl))
        (try simp only [Act.put, List.setIfInBounds_toArray, List.set_cons_zero, List.set_cons_succ])
        refine take_d (i := 22) (v := ?vb6_23) rfl (by rfl) (by kernel_rfl) (by kernel_rfl) (by kernel_rfl) (fun _ _ _ h => h) (Or.inl ⟨by rfl, ?hb6_23⟩) (by assumption) ?rb6_23
        case hb6_23 => (intro wS hSw; (try dsimp only at hSw); go_simp; try (with_reducible rfl))
        (try simp only [Act.put, List.setIfInBounds_toArray, List.set_cons_zero, List.set_cons_succ])
        refine take_d (i := 23) (v := ?vb6_24) rfl (by rfl) (by kernel_rfl) (by kernel_rfl) (by kernel_rfl) (fun _ _ _ h => h) (Or.inl ⟨by rfl, ?hb6_24⟩) (by assumption) ?rb6_24
        case hb6_24 => (intro wS hSw; (try dsimp only at hSw); go_simp; try (with_reducible rfl))
        (try simp only [Act.put, List.setIfInBounds_toArray, List.set_cons_zero, List.set_cons_succ])
        refine wpAnyH_ready (rs := [24]) (by kernel_rfl) (by simp) ?_
        refine AllReadyH.cons rfl (fun K hK => ?_) AllReadyH.nil
        go_simp
        go_at_call 37
        refine (HW.out _).mono ?_
        rintro e wb6_25 ⟨rfl, bkb6_25⟩
        have hBn := below_next hBk bkb6_25
        clear hBk bkb6_25
        have hBk := hBn
        clear hBn
        try go_simp
        refine hK.out _ _ ?_ (fun hHeld => ?_)
        · (try dsimp only); exact hBk
        clear hK K
        (try simp only [Act.put, List.setIfInBounds_toArray, List.set_cons_zero, List.set_cons_succ])
        refine take_d (i := 25) (v := ?vb6_26) rfl (by rfl) (by kernel_rfl) (by kernel_rfl) (by kernel_rfl) (fun _ _ _ h => h) (Or.inl ⟨by rfl, ?hb6_26⟩) (by assumption) ?rb6_26
        case hb6_26 => (intro wS hSw; (try dsimp only at hSw); go_simp; try (with_reducible rfl))
        (try simp only [Act.put, List.setIfInBounds_toArray, List.set_cons_zero, List.set_cons_succ])
        refine take_d (i := 26) (v := ?vb6_27) rfl (by rfl) (by kernel_rfl) (by kernel_rfl) (by kernel_rfl) (fun _ _ _ h => h) (Or.inl ⟨by rfl, ?hb6_27⟩) (by assumption) ?rb6_27
        case hb6_27 => (intro wS hSw; (try dsimp only at hSw); go_simp; try (with_reducible rfl))
        (try simp only [Act.put, List.setIfInBounds_toArray, List.set_cons_zero, List.set_cons_succ])
        refine wpAnyH_done (by kernel_rfl) ?_ _
        have HBB := hid (below_next HB0 hBk)
        clear HB0 hBk
        go_wp2
        go_ret
        exact ⟨rfl, HBB.out⟩
      ·
        have i2 := I.g2
        have i3 := I.g3
        have i4 := I.g4
        have i5 := I.g5
        have i6 := I.g6
        have il := I.lt
        go_wp2_with fail
        refine (HM.out _).mono ?_
        rintro e W8 ⟨rfl, z⟩
        clear i2 i3 i4 i5 i6 il
        replace I := I.next z
        replace J := J.below z
        clear z
        have i2 := I.g2
        have i3 := I.g3
        have i4 := I.g4
        have i5 := I.g5
        have i6 := I.g6
        have il := I.lt
        go_wp2_with fail
        refine (HhA.out _).mono ?_
        rintro e W9 ⟨rfl, z⟩
        clear i2 i3 i4 i5 i6 il
        have JM : BC W9 W8.heap.size M := (BC.new rfl).below z
        replace I := (I.next ((Below.refl _ _).alloc (Nat.le_refl _) (.cells #[.int .u64 (ub M.1), .int .u64 (ub M.2)] 26))).next z
        clear z J
        have i2 := I.g2
        have i3 := I.g3
        have i4 := I.g4
        have i5 := I.g5
        have i6 := I.g6
        have il := I.lt
        have m0 := JM.c0
        have m1 := JM.c1
        have ml := JM.lt
        go_wp2_with fail
        refine (HhA.out _).mono ?_
        rintro e W10 ⟨rfl, z⟩
        clear i2 i3 i4 i5 i6 il m0 m1 ml
        replace I := I.next z
        replace JM := JM.below z
        clear z
        have i2 := I.g2
        have i3 := I.g3
        have i4 := I.g4
        have i5 := I.g5
        have i6 := I.g6
        have il := I.lt
        have m0 := JM.c0
        have m1 := JM.c1
        have ml := JM.lt
        go_wp2_with fail
        refine (HhB.out _).mono ?_
        rintro e W11 ⟨rfl, z⟩
        clear i2 i3 i4 i5 i6 il m0 m1 ml
        replace I := I.next z
        replace JM := JM.below z
        clear z
        have i2 := I.g2
        have i3 := I.g3
        have i4 := I.g4
        have i5 := I.g5
        have i6 := I.g6
        have il := I.lt
        have m0 := JM.c0
        have m1 := JM.c1
        have ml := JM.lt
        have HB0 := I.bel
        go_wp2_with fail
        refine wp_region_held_drew (S := (fun w' : World => Below W11.heap.size W11 w')) (by kernel_rfl) ?_ (fun hHeld => ?_)
        · (try dsimp only); first | (with_reducible exact below_dr _) | (with_reducible exact Below.refl _ _) | exact below_dr _
        have hBk := below_dr W11
        refine take_d (i := 0) (v := ?vb7_1) rfl (by rfl) (by kernel_rfl) (by kernel_rfl) (by kernel_rfl) (fun _ _ _ h => h) (Or.inl ⟨by rfl, ?hb7_1⟩) (by assumption) ?rb7_1
        case hb7_1 => (intro wS hSw; (try dsimp only at hSw); go_simp; try (with_reducible rfl))
        (try simp only [Act.put, List.setIfInBounds_toArray, List.set_cons_zero, List.set_cons_succ])
        refine take_d (i := 1) (v := ?vb7_2) rfl (by rfl) (by kernel_rfl) (by kernel_rfl) (by kernel_rfl) (fun _ _ _ h => h) (Or.inl ⟨by rfl, ?hb7_2⟩) (by assumption) ?rb7_2
        case hb7_2 => (intro wS hSw; (try dsimp only at hSw); go_simp; try (with_reducible rfl))
        (try simp only [Act.put, List.setIfInBounds_toArray, List.set_cons_zero, List.set_cons_succ])
        refine take_d (i := 2) (v := ?vb7_3) rfl (by rfl) (by kernel_rfl) (by kernel_rfl) (by kernel_rfl) (fun _ _ _ h => h) (Or.inl ⟨by rfl, ?hb7_3⟩) (by assumption) ?rb7_3
        case hb7_3 => (intro wS hSw; (try dsimp only at hSw); go_simp; try (with_reducible rfl))
        (try simp only [Act.put, List.setIfInBounds_toArray, List.set_cons_zero, List.set_cons_succ])
        refine take_d (i := 3) (v := undef) rfl (by rfl) (by kernel_rfl) (by kernel_rfl) (by kernel_rfl) (fun _ _ _ h => h) (Or.inr ⟨by rfl, rfl⟩) (by assumption) ?rb7_4
        (try simp only [Act.put, List.setIfInBounds_toArray, List.set_cons_zero, List.set_cons_succ])
        refine take_d (i := 4) (v := undef) rfl (by rfl) (by kernel_rfl) (by kernel_rfl) (by kernel_rfl) (fun _ _ _ h => h) (Or.inr ⟨by rfl, rfl⟩) (by assumption) ?rb7_5
        (try simp only [Act.put, List.setIfInBounds_toArray, List.set_cons_zero, List.set_cons_succ])
        refine take_d (i := 5) (v := undef) rfl (by rfl) (by kernel_rfl) (by kernel_rfl) (by kernel_rfl) (fun _ _ _ h => h) (Or.inr ⟨by rfl, rfl⟩) (by assumption) ?rb7_6
        (try simp only [Act.put, List.setIfInBounds_toArray, List.set_cons_zero, List.set_cons_succ])
        refine take_d (i := 6) (v := undef) rfl (by rfl) (by kernel_rfl) (by kernel_rfl) (by kernel_rfl) (fun _ _ _ h => h) (Or.inr ⟨by rfl, rfl⟩) (by assumption) ?rb7_7
        (try simp only [Act.put, List.setIfInBounds_toArray, List.set_cons_zero, List.set_cons_succ])
        refine take_d (i := 7) (v := ?vb7_8) rfl (by rfl) (by kernel_rfl) (by kernel_rfl) (by kernel_rfl) (fun _ _ _ h => h) (Or.inl ⟨by rfl, ?hb7_8⟩) (by assumption) ?rb7_8
        case hb7_8 => (intro wS hSw; (try dsimp only at hSw); go_simp; try (with_reducible rfl))
        (try simp only [Act.put, List.setIfInBounds_toArray, List.set_cons_zero, List.set_cons_succ])
        refine take_d (i := 8) (v := ?vb7_9) rfl (by rfl) (by kernel_rfl) (by kernel_rfl) (by kernel_rfl) (fun _ _ _ h => h) (Or.inl ⟨by rfl, ?hb7_9⟩) (by assumption) ?rb7_9
        case hb7_9 => (intro wS hSw; (try dsimp only at hSw); go_simp; try (with_reducible rfl))
        (try simp only [Act.put, List.setIfInBounds_toArray, List.set_cons_zero, List.set_cons_succ])
        refine take_d (i := 9) (v := ?vb7_10) rfl (by rfl) (by kernel_rfl) (by kernel_rfl) (by kernel_rfl) (fun _ _ _ h => h) (Or.inl ⟨by rfl, ?hb7_10⟩) (by assumption) ?rb7_10
        case hb7_10 => (intro wS hSw; (try dsimp only at hSw); go_simp; try (with_reducible rfl))
        (try simp only [Act.put, List.setIfInBounds_toArray, List.set_cons_zero, List.set_cons_succ])
        refine take_d (i := 10) (v := ?vb7_11) rfl (by rfl) (by kernel_rfl) (by kernel_rfl) (by kernel_rfl) (fun _ _ _ h => h) (Or.inl ⟨by rfl, ?hb7_11⟩) (by assumption) ?rb7_11
        case hb7_11 => (intro wS hSw; (try dsimp only at hSw); go_simp; try (with_reducible rfl))
        (try simp only [Act.put, List.setIfInBounds_toArray, List.set_cons_zero, List.set_cons_succ])
        refine take_d (i := 11) (v := ?vb7_12) rfl (by rfl) (by kernel_rfl) (by kernel_rfl) (by kernel_rfl) (fun _ _ _ h => h) (Or.inl ⟨by rfl, ?hb7_12⟩) (by assumption) ?rb7_12
        case hb7_12 => (intro wS hSw; (try dsimp only at hSw); go_simp; try (with_reducible rfl))
        (try simp only [Act.put, List.setIfInBounds_toArray, List.set_cons_zero, List.set_cons_succ])
        refine take_d (i := 12) (v := ?vb7_13) rfl (by rfl) (by kernel_rfl) (by kernel_rfl) (by kernel_rfl) (fun _ _ _ h => h) (Or.inl ⟨by rfl, ?hb7_13⟩) (by assumption) ?rb7_13
        case hb7_13 => (intro wS hSw; (try dsimp only at hSw); go_simp; try (with_reducible rfl))
        (try simp only [Act.put, List.setIfInBounds_toArray, List.set_cons_zero, List.set_cons_succ])
        refine take_d (i := 13) (v := undef) rfl (by rfl) (by kernel_rfl) (by kernel_rfl) (by kernel_rfl) (fun _ _ _ h => h) (Or.inr ⟨by rfl, rfl⟩) (by assumption) ?rb7_14
        (try simp only [Act.put, List.setIfInBounds_toArray, List.set_cons_zero, List.set_cons_succ])
        refine take_d (i := 14) (v := undef) rfl (by rfl) (by kernel_rfl) (by kernel_rfl) (by kernel_rfl) (fun _ _ _ h => h) (Or.inr ⟨by rfl, rfl⟩) (by assumption) ?rb7_15
        (try simp only [Act.put, List.setIfInBounds_toArray, List.set_cons_zero, List.set_cons_succ])
        refine take_d (i := 15) (v := undef) rfl (by rfl) (by kernel_rfl) (by kernel_rfl) (by kernel_rfl) (fun _ _ _ h => h) (Or.inr ⟨by rfl, rfl⟩) (by assumption) ?rb7_16
        (try simp only [Act.put, List.setIfInBounds_toArray, List.set_cons_zero, List.set_cons_succ])
        refine take_d (i := 16) (v := undef) rfl (by rfl) (by kernel_rfl) (by kernel_rfl) (by kernel_rfl) (fun _ _ _ h => h) (Or.inr ⟨by rfl, rfl⟩) (by assumption) ?rb7_17
        (try simp only [Act.put, List.setIfInBounds_toArray, List.set_cons_zero, List.set_cons_succ])
        refine take_d (i := 17) (v := undef) rfl (by rfl) (by kernel_rfl) (by kernel_rfl) (by kernel_rfl) (fun _ _ _ h => h) (Or.inr ⟨by rfl, rfl⟩) (by assumption) ?rb7_18
        (try simp only [Act.put, List.setIfInBounds_toArray, List.set_cons_zero, List.set_cons_succ])
        refine take_d (i := 18) (v := undef) rfl (by rfl) (by kernel_rfl) (by kernel_rfl) (by kernel_rfl) (fun _ _ _ h => h) (Or.inr ⟨by rfl, rfl⟩) (by assumption) ?rb7_19
        (try simp only [Act.put, List.setIfInBounds_toArray, List.set_cons_zero, List.set_cons_succ])
        refine take_d (i := 19) (v := undef) rfl (by rfl) (by kernel_rfl) (by kernel_rfl) (by kernel_rfl) (fun _ _ _ h => h) (Or.inr ⟨by rfl, rfl⟩) (by assumption) ?rb7_20
        (try simp only [Act.put, List.setIfInBounds_toArray, List.set_cons_zero, List.set_cons_succ])
        refine take_d (i := 20) (v := undef) rfl (by rfl) (by kernel_rfl) (by kernel_rfl) (by kernel_rfl) (fun _ _ _ h => h) (Or.inr ⟨by rfl, rfl⟩) (by assumption) ?rb7_21
        (try simp only [Act.put, List.setIfInBounds_toArray, List.set_cons_zero, List.set_cons_succ])
        refine take_d (i := 21) (v := ?vb7_22) rfl (by rfl) (by kernel_rfl) (by kernel_rfl) (by kernel_rfl) (fun _ _ _ h => h) (Or.inl ⟨by rfl, ?hb7_22⟩) (by assumption) ?rb7_22
        case hb7_22 => (intro wS hSw; (try dsimp only at hSw); go_simp; try (with_reducible rfl))
        (try simp only [Act.put, List.setIfInBounds_toArray, List.set_cons_zero, List.set_cons_succ])
        refine take_d (i := 22) (v := ?vb7_23) rfl (by rfl) (by kernel_rfl) (by kernel_rfl) (by kernel_rfl) (fun _ _ _ h => h) (Or.inl ⟨by rfl, ?hb7_23⟩) (by assumption) ?rb7_23
        case hb7_23 => (intro wS hSw; (try dsimp only at hSw); go_simp; try (with_reducible rfl))
        (try simp only [Act.put, List.setIfInBounds_toArray, List.set_cons_zero, List.set_cons_succ])
        refine take_d (i := 23) (v := ?vb7_24) rfl (by rfl) (by kernel_rfl) (by kernel_rfl) (by kernel_rfl) (fun _ _ _ h => h) (Or.inl ⟨by rfl, ?hb7_24⟩) (by assumption) ?rb7_24
        case hb7_24 => (intro wS hSw; (try dsimp only at hSw); go_simp; try (with_reducible rfl))
        (try simp only [Act.put, List.setIfInBounds_toArray, List.set_cons_zero, List.set_cons_succ])
        refine wpAnyH_ready (rs := [24]) (by kernel_rfl) (by simp) ?_
        refine AllReadyH.cons rfl (fun K hK => ?_) AllReadyH.nil
        go_simp
        go_at_call 37
        refine (HW.out _).mono ?_
        rintro e wb7_25 ⟨rfl, bkb7_25⟩
        have hBn := below_next hBk bkb7_25
        clear hBk bkb7_25
        have hBk := hBn
        clear hBn
        try go_simp
        refine hK.out _ _ ?_ (fun hHeld => ?_)
        · (try dsimp only); exact hBk
        clear hK K
        (try simp only [Act.put, List.setIfInBounds_toArray, List.set_cons_zero, List.set_cons_succ])
        refine take_d (i := 25) (v := ?vb7_26) rfl (by rfl) (by kernel_rfl) (by kernel_rfl) (by kernel_rfl) (fun _ _ _ h => h) (Or.inl ⟨by rfl, ?hb7_26⟩) (by assumption) ?rb7_26
        case hb7_26 => (intro wS hSw; (try dsimp only at hSw); go_simp; try (with_reducible rfl))
        (try simp only [Act.put, List.setIfInBounds_toArray, List.set_cons_zero, List.set_cons_succ])
        refine take_d (i := 26) (v := ?vb7_27) rfl (by rfl) (by kernel_rfl) (by kernel_rfl) (by kernel_rfl) (fun _ _ _ h => h) (Or.inl ⟨by rfl, ?hb7_27⟩) (by assumption) ?rb7_27
        case hb7_27 => (intro wS hSw; (try dsimp only at hSw); go_simp; try (with_reducible rfl))
        (try simp only [Act.put, List.setIfInBounds_toArray, List.set_cons_zero, List.set_cons_succ])
        refine wpAnyH_done (by kernel_rfl) ?_ _
        have HBB := hid (below_next HB0 hBk)
        clear HB0 hBk
        go_wp2
        go_ret
        exact ⟨rfl, HBB.out⟩
end Go.Proofs.Ytoanbjnhoggpjaa
