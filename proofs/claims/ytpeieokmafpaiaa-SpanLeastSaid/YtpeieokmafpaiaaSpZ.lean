/-
  SpanSets and SpanCuts: what one of two holds, what both hold, what is cut.
-/
import Derived.Test.YtpeieokmafpaiaaSpV
import Derived.Test.YtpeieokmafpaiaaSpX
namespace Go.Proofs.Ytpeieokmafpaiaa
set_option linter.unusedSimpArgs false
set_option linter.unusedVariables false
open Go.ChangeShapes Go.WideShapes Go.ChangeAt Go.RowKit

theorem eq_span (x y : B64) (W : World) : (binOp .eql 53 (.agg #[.int .u64 (ub x), .int .u64 (ub y)]) (.agg #[.int .u64 (ub x), .int .u64 (ub y)])).run Try.prog W = .ok (.bool true) W := by
  go_simp
set_option maxRecDepth 20000 in
set_option maxHeartbeats 8000000 in
theorem sets_walk (a b : Tn) (w : World) : Calls Try.prog 8 #[tv a, tv b] w fun e w' => e = .returned (.bool true) ∧ Below w.heap.size w w' := by
  have X1 := fun W => sMeet_any a b W
  have X2 := fun W => qMeet_any a b W
  have X3 := fun W => sJoin_any a b W
  have X4 := fun W => qJoin_any a b W
  have HW := hid wakes_true
  generalize meetS a b = M at *
  generalize joinSp a b = J at *
  have EM := eq_span M.1 M.2
  have EJ := eq_span J.1 J.2
  have I := AB.start w a b 53 53
  unfold tv at X1 X2 X3 X4 ⊢
  cases mayS (meetP a b)
  · replace X1 := hid X1
    replace X2 := hid X2
    replace X3 := hid X3
    replace X4 := hid X4
    go_enter Try.func8, Try.ntmps8
    go_wp2_with fail
    generalize (w.alloc (.cells #[.int .u64 (ub a.1), .int .u64 (ub a.2)] 53)).alloc (.cells #[.int .u64 (ub b.1), .int .u64 (ub b.2)] 53) = w0 at I ⊢
    refine (X1.out _).mono ?_
    rintro e w1 ⟨rfl, z1⟩
    replace I := I.next z1
    clear z1
    have i0 := I.ca.c0
    have i1 := I.ca.c1
    have i2 := I.cb.c0
    have i3 := I.cb.c1
    have i4 := I.cb.lt
    have i5 := I.ca.lt
    go_wp2_with fail
    refine (X2.out _).mono ?_
    rintro e w2 ⟨rfl, z2⟩
    clear i0 i1 i2 i3 i4 i5
    have J1 : BC w2 w1.heap.size M := (BC.new rfl).below z2
    replace I := (I.next ((Below.refl _ _).alloc (Nat.le_refl _) (.cells #[.int .u64 (ub M.1), .int .u64 (ub M.2)] 53))).next z2
    clear z2
    have J2 : BC (w2.alloc (.cells #[.int .u64 (ub M.1), .int .u64 (ub M.2)] 53)) w2.heap.size M := BC.new rfl
    have bz : Below w2.heap.size w2 (w2.alloc (.cells #[.int .u64 (ub M.1), .int .u64 (ub M.2)] 53)) := (Below.refl _ _).alloc (Nat.le_refl _) _
    replace J1 := J1.below bz
    replace I := I.next bz
    clear bz
    go_wp2_with fail
    generalize w2.alloc (.cells #[.int .u64 (ub M.1), .int .u64 (ub M.2)] 53) = w3 at *
    have p0 := I.ca.c0
    have p1 := I.ca.c1
    have p2 := I.cb.c0
    have p3 := I.cb.c1
    have p4 := J1.c0
    have p5 := J1.c1
    have p6 := J2.c0
    have p7 := J2.c1
    have HB0 := I.bel
    clear I J1 J2
    go_region_held3 (fun w' => w'.cell? ⟨w.heap.size, 0, none⟩ = some (.int .u64 (ub a.1)) ∧ w'.cell? ⟨w.heap.size, 1, none⟩ = some (.int .u64 (ub a.2)) ∧ w'.cell? ⟨w.heap.size + 1, 0, none⟩ = some (.int .u64 (ub b.1)) ∧ w'.cell? ⟨w.heap.size + 1, 1, none⟩ = some (.int .u64 (ub b.2)) ∧ w'.cell? ⟨w1.heap.size, 0, none⟩ = some (.int .u64 (ub M.1)) ∧ w'.cell? ⟨w1.heap.size, 1, none⟩ = some (.int .u64 (ub M.2)) ∧ w'.cell? ⟨w2.heap.size, 0, none⟩ = some (.int .u64 (ub M.1)) ∧ w'.cell? ⟨w2.heap.size, 1, none⟩ = some (.int .u64 (ub M.2)) ∧ Below w.heap.size w w')
      (first
        | (go_split_ands; exact ⟨by with_reducible assumption, by with_reducible assumption, by with_reducible assumption, by with_reducible assumption, by with_reducible assumption, by with_reducible assumption, by with_reducible assumption, by with_reducible assumption, by with_reducible assumption⟩)
        | exact ⟨cn bq (by with_reducible assumption), cn bq (by with_reducible assumption), cn bq (by with_reducible assumption), cn bq (by with_reducible assumption), cn bq (by with_reducible assumption), cn bq (by with_reducible assumption), cn bq (by with_reducible assumption), cn bq (by with_reducible assumption), Below.trans (by with_reducible assumption) (bq.mono (Below.size (by with_reducible assumption)))⟩
        | exact ⟨cn (below_dr w3) p0, cn (below_dr w3) p1, cn (below_dr w3) p2, cn (below_dr w3) p3, cn (below_dr w3) p4, cn (below_dr w3) p5, cn (below_dr w3) p6, cn (below_dr w3) p7, HB0.drew⟩)
      (first | (go_at_call 50; go_split_ands; (with_reducible refine (X3.out _).mono ?_); rintro e wq ⟨rfl, bq⟩) | (go_at_call 51; go_split_ands; (with_reducible refine (X4.out _).mono ?_); rintro e wq ⟨rfl, bq⟩) | (go_at_call 47; go_split_ands; (with_reducible refine (HW.out _).mono ?_); rintro e wq ⟨rfl, bq⟩))
    go_split_ands
    have HB : Hid (Below w.heap.size w wq) := hid (by with_reducible assumption)
    go_wp2
    go_ret
    exact ⟨rfl, HB.out⟩
  · replace X1 := hid X1
    replace X2 := hid X2
    replace X3 := hid X3
    replace X4 := hid X4
    go_enter Try.func8, Try.ntmps8
    go_wp2_with fail
    generalize (w.alloc (.cells #[.int .u64 (ub a.1), .int .u64 (ub a.2)] 53)).alloc (.cells #[.int .u64 (ub b.1), .int .u64 (ub b.2)] 53) = w0 at I ⊢
    refine (X1.out _).mono ?_
    rintro e w1 ⟨rfl, z1⟩
    replace I := I.next z1
    clear z1
    have i0 := I.ca.c0
    have i1 := I.ca.c1
    have i2 := I.cb.c0
    have i3 := I.cb.c1
    have i4 := I.cb.lt
    have i5 := I.ca.lt
    go_wp2_with fail
    refine (X2.out _).mono ?_
    rintro e w2 ⟨rfl, z2⟩
    clear i0 i1 i2 i3 i4 i5
    have J1 : BC w2 w1.heap.size M := (BC.new rfl).below z2
    replace I := (I.next ((Below.refl _ _).alloc (Nat.le_refl _) (.cells #[.int .u64 (ub M.1), .int .u64 (ub M.2)] 53))).next z2
    clear z2
    have J2 : BC (w2.alloc (.cells #[.int .u64 (ub M.1), .int .u64 (ub M.2)] 53)) w2.heap.size M := BC.new rfl
    have bz : Below w2.heap.size w2 (w2.alloc (.cells #[.int .u64 (ub M.1), .int .u64 (ub M.2)] 53)) := (Below.refl _ _).alloc (Nat.le_refl _) _
    replace J1 := J1.below bz
    replace I := I.next bz
    clear bz
    go_wp2_with fail
    generalize w2.alloc (.cells #[.int .u64 (ub M.1), .int .u64 (ub M.2)] 53) = w3 at *
    have p0 := I.ca.c0
    have p1 := I.ca.c1
    have p2 := I.cb.c0
    have p3 := I.cb.c1
    have p4 := J1.c0
    have p5 := J1.c1
    have p6 := J2.c0
    have p7 := J2.c1
    have HB0 := I.bel
    clear I J1 J2
    go_region_held3 (fun w' => w'.cell? ⟨w.heap.size, 0, none⟩ = some (.int .u64 (ub a.1)) ∧ w'.cell? ⟨w.heap.size, 1, none⟩ = some (.int .u64 (ub a.2)) ∧ w'.cell? ⟨w.heap.size + 1, 0, none⟩ = some (.int .u64 (ub b.1)) ∧ w'.cell? ⟨w.heap.size + 1, 1, none⟩ = some (.int .u64 (ub b.2)) ∧ w'.cell? ⟨w1.heap.size, 0, none⟩ = some (.int .u64 (ub M.1)) ∧ w'.cell? ⟨w1.heap.size, 1, none⟩ = some (.int .u64 (ub M.2)) ∧ w'.cell? ⟨w2.heap.size, 0, none⟩ = some (.int .u64 (ub M.1)) ∧ w'.cell? ⟨w2.heap.size, 1, none⟩ = some (.int .u64 (ub M.2)) ∧ Below w.heap.size w w')
      (first
        | (go_split_ands; exact ⟨by with_reducible assumption, by with_reducible assumption, by with_reducible assumption, by with_reducible assumption, by with_reducible assumption, by with_reducible assumption, by with_reducible assumption, by with_reducible assumption, by with_reducible assumption⟩)
        | exact ⟨cn bq (by with_reducible assumption), cn bq (by with_reducible assumption), cn bq (by with_reducible assumption), cn bq (by with_reducible assumption), cn bq (by with_reducible assumption), cn bq (by with_reducible assumption), cn bq (by with_reducible assumption), cn bq (by with_reducible assumption), Below.trans (by with_reducible assumption) (bq.mono (Below.size (by with_reducible assumption)))⟩
        | exact ⟨cn (below_dr w3) p0, cn (below_dr w3) p1, cn (below_dr w3) p2, cn (below_dr w3) p3, cn (below_dr w3) p4, cn (below_dr w3) p5, cn (below_dr w3) p6, cn (below_dr w3) p7, HB0.drew⟩)
      (first | (go_at_call 50; go_split_ands; (with_reducible refine (X3.out _).mono ?_); rintro e wq ⟨rfl, bq⟩) | (go_at_call 51; go_split_ands; (with_reducible refine (X4.out _).mono ?_); rintro e wq ⟨rfl, bq⟩) | (go_at_call 47; go_split_ands; (with_reducible refine (HW.out _).mono ?_); rintro e wq ⟨rfl, bq⟩))
    go_split_ands
    have HB : Hid (Below w.heap.size w wq) := hid (by with_reducible assumption)
    go_wp2
    go_ret
    exact ⟨rfl, HB.out⟩
set_option maxRecDepth 20000 in
set_option maxHeartbeats 8000000 in
theorem cuts_walk (a : Tn) (bits : Int) (w : World) : Calls Try.prog 9 #[tv a, .int .i64 bits] w fun e w' => e = .returned (.bool true) ∧ Below w.heap.size w w' := by
  have X1 := fun W => sCut_any a bits W
  have X2 := fun W => qCut_any a bits W
  have HW := hid wakes_true
  generalize cutK a (clampN bits) = M at *
  have EM := eq_span M.1 M.2
  have I : BC (w.alloc (.cells #[.int .u64 (ub a.1), .int .u64 (ub a.2)] 53)) w.heap.size a := BC.new rfl
  have HB0 : Below w.heap.size w (w.alloc (.cells #[.int .u64 (ub a.1), .int .u64 (ub a.2)] 53)) := (Below.refl _ _).alloc (Nat.le_refl _) _
  unfold tv at X1 X2 ⊢
  replace X1 := hid X1
  replace X2 := hid X2
  go_enter Try.func9, Try.ntmps9
  go_wp2_with fail
  generalize w.alloc (.cells #[.int .u64 (ub a.1), .int .u64 (ub a.2)] 53) = w3 at *
  have p0 := I.c0
  have p1 := I.c1
  clear I
  go_region_held3 (fun w' => w'.cell? ⟨w.heap.size, 0, none⟩ = some (.int .u64 (ub a.1)) ∧ w'.cell? ⟨w.heap.size, 1, none⟩ = some (.int .u64 (ub a.2)) ∧ Below w.heap.size w w')
      (first
        | (go_split_ands; exact ⟨by with_reducible assumption, by with_reducible assumption, by with_reducible assumption⟩)
        | exact ⟨cn bq (by with_reducible assumption), cn bq (by with_reducible assumption), Below.trans (by with_reducible assumption) (bq.mono (Below.size (by with_reducible assumption)))⟩
        | exact ⟨cn (below_dr w3) p0, cn (below_dr w3) p1, HB0.drew⟩)
      (first | (go_at_call 52; go_split_ands; (with_reducible refine (X1.out _).mono ?_); rintro e wq ⟨rfl, bq⟩) | (go_at_call 53; go_split_ands; (with_reducible refine (X2.out _).mono ?_); rintro e wq ⟨rfl, bq⟩) | (go_at_call 47; go_split_ands; (with_reducible refine (HW.out _).mono ?_); rintro e wq ⟨rfl, bq⟩))
  go_split_ands
  have HB : Hid (Below w.heap.size w wq) := hid (by with_reducible assumption)
  go_wp2
  go_ret
  exact ⟨rfl, HB.out⟩
end Go.Proofs.Ytpeieokmafpaiaa
