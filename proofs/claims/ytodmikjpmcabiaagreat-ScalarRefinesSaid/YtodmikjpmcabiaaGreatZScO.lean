import Derived.Test.YtodmikjpmcabiaaGreatZScN
import Derived.Deep.RegionLaw
import Derived.Deep.RegionHeld3
import Derived.BigRegion
namespace Go.Proofs.YtodmikjpmcabiaaGreat
set_option linter.unusedSimpArgs false
set_option linter.unusedVariables false
set_option maxRecDepth 100000
open Go.ChangeShapes Go.WideShapes Go.ChangeAt Go.RowKit

def refIs (op : Int) (a b : Sc) : Prop := Wd.isCond op = true ∧ mayX a = true ∧ mayX b = true
instance (op : Int) (a b : Sc) : Decidable (refIs op a b) := by unfold refIs; infer_instance
def refT (op : Int) (c : Bool) (a b : Sc) (k : Bool) : Sc × Sc × Bool :=
  if refIs op a b then
    if ub (mostX op c) < ub (bmax a.2.2 b.2.2) then (a, b, true)
    else if (tolT op a b k).2.2 = true then tolT op a b k else (sc0, sc0, false)
  else (sc0, sc0, false)
set_option maxHeartbeats 8000000 in
theorem cRefine_none (op : Int) (c : Bool) (a b : Sc) (k : Bool) (h : Wd.isCond op = false) (w : World) : Calls Tryz.prog 29 #[.int .i64 op, .bool c, sv a, sv b, .bool k] w fun e w' => e = .returned (tri (sc0, sc0, false)) ∧ Below w.heap.size w w' := by
  have X1 := fun W => Wd.cond_any op c 0 0 W (by decide) (by decide) (by decide) (by decide)
  have X2 := fun W => cMay_any a W
  have X3 := fun W => cMay_any b W
  generalize Wd.condI op c 0 0 = N at X1
  rw [show Wd.condE op = 20 from if_neg (by rw [h]; decide)] at X1
  clear X2 X3 h
  obtain ⟨⟨v, m⟩, l, h⟩ := a
  obtain ⟨⟨v', m'⟩, l', h'⟩ := b
  unfold tri sv
  dsimp only
  replace X1 := hid X1
  go_enter Tryz.func29, Tryz.ntmps29
  go_wp2_with fail
  refine (X1.out _).mono ?_
  rintro e w1 ⟨rfl, z⟩
  have JX : SC w1 (w.heap.size) (((v, m), l, h)) := ((((SC.new rfl).alloc _).alloc _).alloc _).below z
  have JY : SC w1 (w.heap.size + 1) (((v', m'), l', h')) := (((SC.new (by simp)).alloc _).alloc _).below z
  have JR : SC w1 (w.heap.size + 1 + 1) (sc0) := ((SC.new (by simp)).alloc _).below z
  have JRb : SC w1 (w.heap.size + 1 + 1 + 1) (sc0) := (SC.new (by simp)).below z
  have B := below_next (bel_alloc (bel_alloc (bel_alloc (bel_alloc (Below.refl w.heap.size w))))) z
  clear z
  obtain ⟨JXl, JX0, JX1, JX2, JX3⟩ := JX.k
  obtain ⟨JYl, JY0, JY1, JY2, JY3⟩ := JY.k
  obtain ⟨JRl, JR0, JR1, JR2, JR3, JRf0, JRf1, JRf2, JRf3⟩ := id JR
  obtain ⟨JRbl, JRb0, JRb1, JRb2, JRb3, JRbf0, JRbf1, JRbf2, JRbf3⟩ := id JRb
  have lb := B.size
  go_wp2
  exact bodyPost_ret (v := .tuple #[sv sc0, sv sc0, .bool false]) (by simp [results, Tryz.results29, go_sem, JX0, JX1, JX2, JX3, JXl, JY0, JY1, JY2, JY3, JYl, JR0, JR1, JR2, JR3, JRl, JRb0, JRb1, JRb2, JRb3, JRbl]; try first | rfl | exact ⟨rfl, rfl⟩) rfl ⟨rfl, putS_below sc0 (putS_below sc0 B (by omega)) (by omega)⟩
set_option maxHeartbeats 8000000 in
theorem cRefine_na (op : Int) (c : Bool) (a b : Sc) (k : Bool) (h : Wd.isCond op = true) (ha : mayX a = false) (w : World) : Calls Tryz.prog 29 #[.int .i64 op, .bool c, sv a, sv b, .bool k] w fun e w' => e = .returned (tri (sc0, sc0, false)) ∧ Below w.heap.size w w' := by
  have X1 := fun W => Wd.cond_any op c 0 0 W (by decide) (by decide) (by decide) (by decide)
  have X2 := fun W => cMay_any a W
  have X3 := fun W => cMay_any b W
  generalize Wd.condI op c 0 0 = N at X1
  rw [show Wd.condE op = 0 from if_pos h] at X1
  clear h
  rw [ha] at X2
  clear X3 ha
  obtain ⟨⟨v, m⟩, l, h⟩ := a
  obtain ⟨⟨v', m'⟩, l', h'⟩ := b
  unfold tri
  unfold sv at X2 ⊢
  dsimp only at X2 ⊢
  replace X1 := hid X1
  replace X2 := hid X2
  go_enter Tryz.func29, Tryz.ntmps29
  go_wp2_with fail
  refine (X1.out _).mono ?_
  rintro e w1 ⟨rfl, z⟩
  have JX : SC w1 (w.heap.size) (((v, m), l, h)) := ((((SC.new rfl).alloc _).alloc _).alloc _).below z
  have JY : SC w1 (w.heap.size + 1) (((v', m'), l', h')) := (((SC.new (by simp)).alloc _).alloc _).below z
  have JR : SC w1 (w.heap.size + 1 + 1) (sc0) := ((SC.new (by simp)).alloc _).below z
  have JRb : SC w1 (w.heap.size + 1 + 1 + 1) (sc0) := (SC.new (by simp)).below z
  have B := below_next (bel_alloc (bel_alloc (bel_alloc (bel_alloc (Below.refl w.heap.size w))))) z
  clear z
  obtain ⟨JXl, JX0, JX1, JX2, JX3⟩ := JX.k
  obtain ⟨JYl, JY0, JY1, JY2, JY3⟩ := JY.k
  obtain ⟨JRl, JR0, JR1, JR2, JR3, JRf0, JRf1, JRf2, JRf3⟩ := id JR
  obtain ⟨JRbl, JRb0, JRb1, JRb2, JRb3, JRbf0, JRbf1, JRbf2, JRbf3⟩ := id JRb
  have lb := B.size
  go_wp2_with fail
  refine (X2.out _).mono ?_
  rintro e w2 ⟨rfl, z⟩
  clear JX0 JX1 JX2 JX3 JXl JY0 JY1 JY2 JY3 JYl JR0 JR1 JR2 JR3 JRl JRf0 JRf1 JRf2 JRf3 JRb0 JRb1 JRb2 JRb3 JRbl JRbf0 JRbf1 JRbf2 JRbf3 lb
  replace JX := JX.below z
  replace JY := JY.below z
  replace JR := JR.below z
  replace JRb := JRb.below z
  replace B := below_next B z
  clear z
  obtain ⟨JXl, JX0, JX1, JX2, JX3⟩ := JX.k
  obtain ⟨JYl, JY0, JY1, JY2, JY3⟩ := JY.k
  obtain ⟨JRl, JR0, JR1, JR2, JR3, JRf0, JRf1, JRf2, JRf3⟩ := id JR
  obtain ⟨JRbl, JRb0, JRb1, JRb2, JRb3, JRbf0, JRbf1, JRbf2, JRbf3⟩ := id JRb
  have lb := B.size
  go_wp2
  exact bodyPost_ret (v := .tuple #[sv sc0, sv sc0, .bool false]) (by simp [results, Tryz.results29, go_sem, JX0, JX1, JX2, JX3, JXl, JY0, JY1, JY2, JY3, JYl, JR0, JR1, JR2, JR3, JRl, JRb0, JRb1, JRb2, JRb3, JRbl]; try first | rfl | exact ⟨rfl, rfl⟩) rfl ⟨rfl, putS_below sc0 (putS_below sc0 B (by omega)) (by omega)⟩
set_option maxHeartbeats 8000000 in
theorem cRefine_nb (op : Int) (c : Bool) (a b : Sc) (k : Bool) (h : Wd.isCond op = true) (ha : mayX a = true) (hb : mayX b = false) (w : World) : Calls Tryz.prog 29 #[.int .i64 op, .bool c, sv a, sv b, .bool k] w fun e w' => e = .returned (tri (sc0, sc0, false)) ∧ Below w.heap.size w w' := by
  have X1 := fun W => Wd.cond_any op c 0 0 W (by decide) (by decide) (by decide) (by decide)
  have X2 := fun W => cMay_any a W
  have X3 := fun W => cMay_any b W
  generalize Wd.condI op c 0 0 = N at X1
  rw [show Wd.condE op = 0 from if_pos h] at X1
  clear h
  rw [ha] at X2
  rw [hb] at X3
  clear ha hb
  obtain ⟨⟨v, m⟩, l, h⟩ := a
  obtain ⟨⟨v', m'⟩, l', h'⟩ := b
  unfold tri
  unfold sv at X2 X3 ⊢
  dsimp only at X2 X3 ⊢
  replace X1 := hid X1
  replace X2 := hid X2
  replace X3 := hid X3
  go_enter Tryz.func29, Tryz.ntmps29
  go_wp2_with fail
  refine (X1.out _).mono ?_
  rintro e w1 ⟨rfl, z⟩
  have JX : SC w1 (w.heap.size) (((v, m), l, h)) := ((((SC.new rfl).alloc _).alloc _).alloc _).below z
  have JY : SC w1 (w.heap.size + 1) (((v', m'), l', h')) := (((SC.new (by simp)).alloc _).alloc _).below z
  have JR : SC w1 (w.heap.size + 1 + 1) (sc0) := ((SC.new (by simp)).alloc _).below z
  have JRb : SC w1 (w.heap.size + 1 + 1 + 1) (sc0) := (SC.new (by simp)).below z
  have B := below_next (bel_alloc (bel_alloc (bel_alloc (bel_alloc (Below.refl w.heap.size w))))) z
  clear z
  obtain ⟨JXl, JX0, JX1, JX2, JX3⟩ := JX.k
  obtain ⟨JYl, JY0, JY1, JY2, JY3⟩ := JY.k
  obtain ⟨JRl, JR0, JR1, JR2, JR3, JRf0, JRf1, JRf2, JRf3⟩ := id JR
  obtain ⟨JRbl, JRb0, JRb1, JRb2, JRb3, JRbf0, JRbf1, JRbf2, JRbf3⟩ := id JRb
  have lb := B.size
  go_wp2_with fail
  refine (X2.out _).mono ?_
  rintro e w2 ⟨rfl, z⟩
  clear JX0 JX1 JX2 JX3 JXl JY0 JY1 JY2 JY3 JYl JR0 JR1 JR2 JR3 JRl JRf0 JRf1 JRf2 JRf3 JRb0 JRb1 JRb2 JRb3 JRbl JRbf0 JRbf1 JRbf2 JRbf3 lb
  replace JX := JX.below z
  replace JY := JY.below z
  replace JR := JR.below z
  replace JRb := JRb.below z
  replace B := below_next B z
  clear z
  obtain ⟨JXl, JX0, JX1, JX2, JX3⟩ := JX.k
  obtain ⟨JYl, JY0, JY1, JY2, JY3⟩ := JY.k
  obtain ⟨JRl, JR0, JR1, JR2, JR3, JRf0, JRf1, JRf2, JRf3⟩ := id JR
  obtain ⟨JRbl, JRb0, JRb1, JRb2, JRb3, JRbf0, JRbf1, JRbf2, JRbf3⟩ := id JRb
  have lb := B.size
  go_wp2_with fail
  refine (X3.out _).mono ?_
  rintro e w3 ⟨rfl, z⟩
  clear JX0 JX1 JX2 JX3 JXl JY0 JY1 JY2 JY3 JYl JR0 JR1 JR2 JR3 JRl JRf0 JRf1 JRf2 JRf3 JRb0 JRb1 JRb2 JRb3 JRbl JRbf0 JRbf1 JRbf2 JRbf3 lb
  replace JX := JX.below z
  replace JY := JY.below z
  replace JR := JR.below z
  replace JRb := JRb.below z
  replace B := below_next B z
  clear z
  obtain ⟨JXl, JX0, JX1, JX2, JX3⟩ := JX.k
  obtain ⟨JYl, JY0, JY1, JY2, JY3⟩ := JY.k
  obtain ⟨JRl, JR0, JR1, JR2, JR3, JRf0, JRf1, JRf2, JRf3⟩ := id JR
  obtain ⟨JRbl, JRb0, JRb1, JRb2, JRb3, JRbf0, JRbf1, JRbf2, JRbf3⟩ := id JRb
  have lb := B.size
  go_wp2
  exact bodyPost_ret (v := .tuple #[sv sc0, sv sc0, .bool false]) (by simp [results, Tryz.results29, go_sem, JX0, JX1, JX2, JX3, JXl, JY0, JY1, JY2, JY3, JYl, JR0, JR1, JR2, JR3, JRl, JRb0, JRb1, JRb2, JRb3, JRbl]; try first | rfl | exact ⟨rfl, rfl⟩) rfl ⟨rfl, putS_below sc0 (putS_below sc0 B (by omega)) (by omega)⟩
set_option maxHeartbeats 8000000 in
theorem cRefine_high (op : Int) (c : Bool) (a b : Sc) (k : Bool) (h : Wd.isCond op = true) (ha : mayX a = true) (hb : mayX b = true) (hg : ub (mostX op c) < ub (bmax a.2.2 b.2.2)) (w : World) : Calls Tryz.prog 29 #[.int .i64 op, .bool c, sv a, sv b, .bool k] w fun e w' => e = .returned (tri (a, b, true)) ∧ Below w.heap.size w w' := by
  have X1 := fun W => Wd.cond_any op c 0 0 W (by decide) (by decide) (by decide) (by decide)
  have X2 := fun W => cMay_any a W
  have X3 := fun W => cMay_any b W
  generalize Wd.condI op c 0 0 = N at X1
  rw [show Wd.condE op = 0 from if_pos h] at X1
  clear h
  rw [ha] at X2
  rw [hb] at X3
  have X4 := fun W => cMost_any op c W
  generalize mostX op c = M at *
  clear ha hb
  obtain ⟨⟨v, m⟩, l, h⟩ := a
  obtain ⟨⟨v', m'⟩, l', h'⟩ := b
  unfold tri
  unfold sv at X2 X3 ⊢
  dsimp only at X2 X3 hg ⊢
  replace X1 := hid X1
  replace X2 := hid X2
  replace X3 := hid X3
  replace X4 := hid X4
  go_enter Tryz.func29, Tryz.ntmps29
  go_wp2_with fail
  refine (X1.out _).mono ?_
  rintro e w1 ⟨rfl, z⟩
  have JX : SC w1 (w.heap.size) (((v, m), l, h)) := ((((SC.new rfl).alloc _).alloc _).alloc _).below z
  have JY : SC w1 (w.heap.size + 1) (((v', m'), l', h')) := (((SC.new (by simp)).alloc _).alloc _).below z
  have JR : SC w1 (w.heap.size + 1 + 1) (sc0) := ((SC.new (by simp)).alloc _).below z
  have JRb : SC w1 (w.heap.size + 1 + 1 + 1) (sc0) := (SC.new (by simp)).below z
  have B := below_next (bel_alloc (bel_alloc (bel_alloc (bel_alloc (Below.refl w.heap.size w))))) z
  clear z
  obtain ⟨JXl, JX0, JX1, JX2, JX3⟩ := JX.k
  obtain ⟨JYl, JY0, JY1, JY2, JY3⟩ := JY.k
  obtain ⟨JRl, JR0, JR1, JR2, JR3, JRf0, JRf1, JRf2, JRf3⟩ := id JR
  obtain ⟨JRbl, JRb0, JRb1, JRb2, JRb3, JRbf0, JRbf1, JRbf2, JRbf3⟩ := id JRb
  have lb := B.size
  go_wp2_with fail
  refine (X2.out _).mono ?_
  rintro e w2 ⟨rfl, z⟩
  clear JX0 JX1 JX2 JX3 JXl JY0 JY1 JY2 JY3 JYl JR0 JR1 JR2 JR3 JRl JRf0 JRf1 JRf2 JRf3 JRb0 JRb1 JRb2 JRb3 JRbl JRbf0 JRbf1 JRbf2 JRbf3 lb
  replace JX := JX.below z
  replace JY := JY.below z
  replace JR := JR.below z
  replace JRb := JRb.below z
  replace B := below_next B z
  clear z
  obtain ⟨JXl, JX0, JX1, JX2, JX3⟩ := JX.k
  obtain ⟨JYl, JY0, JY1, JY2, JY3⟩ := JY.k
  obtain ⟨JRl, JR0, JR1, JR2, JR3, JRf0, JRf1, JRf2, JRf3⟩ := id JR
  obtain ⟨JRbl, JRb0, JRb1, JRb2, JRb3, JRbf0, JRbf1, JRbf2, JRbf3⟩ := id JRb
  have lb := B.size
  go_wp2_with fail
  refine (X3.out _).mono ?_
  rintro e w3 ⟨rfl, z⟩
  clear JX0 JX1 JX2 JX3 JXl JY0 JY1 JY2 JY3 JYl JR0 JR1 JR2 JR3 JRl JRf0 JRf1 JRf2 JRf3 JRb0 JRb1 JRb2 JRb3 JRbl JRbf0 JRbf1 JRbf2 JRbf3 lb
  replace JX := JX.below z
  replace JY := JY.below z
  replace JR := JR.below z
  replace JRb := JRb.below z
  replace B := below_next B z
  clear z
  obtain ⟨JXl, JX0, JX1, JX2, JX3⟩ := JX.k
  obtain ⟨JYl, JY0, JY1, JY2, JY3⟩ := JY.k
  obtain ⟨JRl, JR0, JR1, JR2, JR3, JRf0, JRf1, JRf2, JRf3⟩ := id JR
  obtain ⟨JRbl, JRb0, JRb1, JRb2, JRb3, JRbf0, JRbf1, JRbf2, JRbf3⟩ := id JRb
  have lb := B.size
  go_wp2_with fail
  clear JX0 JX1 JX2 JX3 JXl JY0 JY1 JY2 JY3 JYl JR0 JR1 JR2 JR3 JRl JRf0 JRf1 JRf2 JRf3 JRb0 JRb1 JRb2 JRb3 JRbl JRbf0 JRbf1 JRbf2 JRbf3 lb
  have q0 := JX.c3
  have q1 := JY.c3
  try dsimp only at q0 q1
  have hd1 : decide (ub M < ub (bmax h h')) = true := by rw [decide_eq_true_eq]; exact hg
  apply cutF (F := fun W' => SC W' (w.heap.size) ((v, m), l, h) ∧ SC W' (w.heap.size + 1) ((v', m'), l', h') ∧ SC W' (w.heap.size + 1 + 1) sc0 ∧ SC W' (w.heap.size + 1 + 1 + 1) sc0 ∧ Below w.heap.size w W')
  · go_region_held3 (fun w' => w'.cell? ⟨w.heap.size, 3, none⟩ = some (.int .u64 (ub ((v, m), l, h).2.2)) ∧ w'.cell? ⟨w.heap.size + 1, 3, none⟩ = some (.int .u64 (ub ((v', m'), l', h').2.2)) ∧ Below w3.heap.size w3 w')
      (first | (go_split_ands; with_reducible exact ⟨by with_reducible assumption, by with_reducible assumption, by with_reducible assumption⟩) | (with_reducible exact ⟨cn bq (by with_reducible assumption), cn bq (by with_reducible assumption), below_next (by with_reducible assumption) bq⟩) | (with_reducible exact ⟨cn (below_dr w3) q0, cn (below_dr w3) q1, below_dr w3⟩))
      (first | (go_at_call 61; go_split_ands; (with_reducible refine (X4.out _).mono ?_); rintro e wq ⟨rfl, bq⟩))
    all_goals
      go_split_ands
      have zq : Below w3.heap.size w3 wq := by with_reducible assumption
      exact ⟨⟨JX.below zq, JY.below zq, JR.below zq, JRb.below zq, below_next B zq⟩, rfl⟩
  clear q0 q1 JX JY JR JRb B
  intro w4 ⟨JX, JY, JR, JRb, B⟩
  obtain ⟨JXl, JX0, JX1, JX2, JX3⟩ := JX.k
  obtain ⟨JYl, JY0, JY1, JY2, JY3⟩ := JY.k
  obtain ⟨JRl, JR0, JR1, JR2, JR3, JRf0, JRf1, JRf2, JRf3⟩ := id JR
  obtain ⟨JRbl, JRb0, JRb1, JRb2, JRb3, JRbf0, JRbf1, JRbf2, JRbf3⟩ := id JRb
  have lb := B.size
  go_wp2_with fail
  clear JX0 JX1 JX2 JX3 JXl JY0 JY1 JY2 JY3 JYl JR0 JR1 JR2 JR3 JRl JRf0 JRf1 JRf2 JRf3 JRb0 JRb1 JRb2 JRb3 JRbl JRbf0 JRbf1 JRbf2 JRbf3 lb
  obtain ⟨JXdl, JXd0, JXd1, JXd2, JXd3, JXdf0, JXdf1, JXdf2, JXdf3⟩ := id JX
  obtain ⟨JYdl, JYd0, JYd1, JYd2, JYd3, JYdf0, JYdf1, JYdf2, JYdf3⟩ := id JY
  obtain ⟨JRdl, JRd0, JRd1, JRd2, JRd3, JRdf0, JRdf1, JRdf2, JRdf3⟩ := id JR
  obtain ⟨JRbdl, JRbd0, JRbd1, JRbd2, JRbd3, JRbdf0, JRbdf1, JRbdf2, JRbdf3⟩ := id JRb
  have ld := B.size
  apply cutF (F := fun W' => SC W' (w.heap.size) ((v, m), l, h) ∧ SC W' (w.heap.size + 1) ((v', m'), l', h') ∧ SC W' (w.heap.size + 1 + 1) (((v, m), l, h)) ∧ SC W' (w.heap.size + 1 + 1 + 1) (((v', m'), l', h')) ∧ Below w.heap.size w W')
  · go_region
    all_goals exact ⟨⟨(((JX.other (c := w.heap.size + 1 + 1) (by omega) (((v, m), l, h))).other (c := w.heap.size + 1 + 1 + 1) (by omega) (((v', m'), l', h'))).below (below_dr _)), (((JY.other (c := w.heap.size + 1 + 1) (by omega) (((v, m), l, h))).other (c := w.heap.size + 1 + 1 + 1) (by omega) (((v', m'), l', h'))).below (below_dr _)), (((JR.put (((v, m), l, h))).other (c := w.heap.size + 1 + 1 + 1) (by omega) (((v', m'), l', h'))).below (below_dr _)), (((JRb.other (c := w.heap.size + 1 + 1) (by omega) (((v, m), l, h))).put (((v', m'), l', h'))).below (below_dr _)), below_next (putS_below (((v', m'), l', h')) (putS_below (((v, m), l, h)) B (by omega : w.heap.size ≤ w.heap.size + 1 + 1)) (by omega : w.heap.size ≤ w.heap.size + 1 + 1 + 1)) (below_dr _)⟩, rfl⟩
  clear JXd0 JXd1 JXd2 JXd3 JXdl JXdf0 JXdf1 JXdf2 JXdf3 JYd0 JYd1 JYd2 JYd3 JYdl JYdf0 JYdf1 JYdf2 JYdf3 JRd0 JRd1 JRd2 JRd3 JRdl JRdf0 JRdf1 JRdf2 JRdf3 JRbd0 JRbd1 JRbd2 JRbd3 JRbdl JRbdf0 JRbdf1 JRbdf2 JRbdf3 ld
  clear JX JY JR JRb B
  intro w5 ⟨JX, JY, JR, JRb, B⟩
  obtain ⟨JXl, JX0, JX1, JX2, JX3⟩ := JX.k
  obtain ⟨JYl, JY0, JY1, JY2, JY3⟩ := JY.k
  obtain ⟨JRl, JR0, JR1, JR2, JR3, JRf0, JRf1, JRf2, JRf3⟩ := id JR
  obtain ⟨JRbl, JRb0, JRb1, JRb2, JRb3, JRbf0, JRbf1, JRbf2, JRbf3⟩ := id JRb
  have lb := B.size
  go_wp2
  exact bodyPost_ret (v := .tuple #[sv ((v, m), l, h), sv ((v', m'), l', h'), .bool true]) (by simp [results, Tryz.results29, go_sem, JX0, JX1, JX2, JX3, JXl, JY0, JY1, JY2, JY3, JYl, JR0, JR1, JR2, JR3, JRl, JRb0, JRb1, JRb2, JRb3, JRbl]; try first | rfl | exact ⟨rfl, rfl⟩) rfl ⟨rfl, B⟩
set_option maxHeartbeats 8000000 in
theorem cRefine_told0 (op : Int) (c : Bool) (a b : Sc) (k : Bool) (h : Wd.isCond op = true) (ha : mayX a = true) (hb : mayX b = true) (hg : ¬ ub (mostX op c) < ub (bmax a.2.2 b.2.2)) (hr : (tolT op a b k).2.2 = false) (w : World) : Calls Tryz.prog 29 #[.int .i64 op, .bool c, sv a, sv b, .bool k] w fun e w' => e = .returned (tri (sc0, sc0, false)) ∧ Below w.heap.size w w' := by
  have X1 := fun W => Wd.cond_any op c 0 0 W (by decide) (by decide) (by decide) (by decide)
  have X2 := fun W => cMay_any a W
  have X3 := fun W => cMay_any b W
  generalize Wd.condI op c 0 0 = N at X1
  rw [show Wd.condE op = 0 from if_pos h] at X1
  clear h
  rw [ha] at X2
  rw [hb] at X3
  have X4 := fun W => cMost_any op c W
  generalize mostX op c = M at *
  have X5 := fun W => cTold_any op a b k W
  generalize tolT op a b k = R at *
  unfold tri at X5
  rw [hr] at X5
  clear hr
  clear ha hb
  obtain ⟨⟨v, m⟩, l, h⟩ := a
  obtain ⟨⟨v', m'⟩, l', h'⟩ := b
  unfold tri
  unfold sv at X2 X3 X5 ⊢
  dsimp only at X2 X3 hg X5 ⊢
  replace X1 := hid X1
  replace X2 := hid X2
  replace X3 := hid X3
  replace X4 := hid X4
  replace X5 := hid X5
  go_enter Tryz.func29, Tryz.ntmps29
  go_wp2_with fail
  refine (X1.out _).mono ?_
  rintro e w1 ⟨rfl, z⟩
  have JX : SC w1 (w.heap.size) (((v, m), l, h)) := ((((SC.new rfl).alloc _).alloc _).alloc _).below z
  have JY : SC w1 (w.heap.size + 1) (((v', m'), l', h')) := (((SC.new (by simp)).alloc _).alloc _).below z
  have JR : SC w1 (w.heap.size + 1 + 1) (sc0) := ((SC.new (by simp)).alloc _).below z
  have JRb : SC w1 (w.heap.size + 1 + 1 + 1) (sc0) := (SC.new (by simp)).below z
  have B := below_next (bel_alloc (bel_alloc (bel_alloc (bel_alloc (Below.refl w.heap.size w))))) z
  clear z
  obtain ⟨JXl, JX0, JX1, JX2, JX3⟩ := JX.k
  obtain ⟨JYl, JY0, JY1, JY2, JY3⟩ := JY.k
  obtain ⟨JRl, JR0, JR1, JR2, JR3, JRf0, JRf1, JRf2, JRf3⟩ := id JR
  obtain ⟨JRbl, JRb0, JRb1, JRb2, JRb3, JRbf0, JRbf1, JRbf2, JRbf3⟩ := id JRb
  have lb := B.size
  go_wp2_with fail
  refine (X2.out _).mono ?_
  rintro e w2 ⟨rfl, z⟩
  clear JX0 JX1 JX2 JX3 JXl JY0 JY1 JY2 JY3 JYl JR0 JR1 JR2 JR3 JRl JRf0 JRf1 JRf2 JRf3 JRb0 JRb1 JRb2 JRb3 JRbl JRbf0 JRbf1 JRbf2 JRbf3 lb
  replace JX := JX.below z
  replace JY := JY.below z
  replace JR := JR.below z
  replace JRb := JRb.below z
  replace B := below_next B z
  clear z
  obtain ⟨JXl, JX0, JX1, JX2, JX3⟩ := JX.k
  obtain ⟨JYl, JY0, JY1, JY2, JY3⟩ := JY.k
  obtain ⟨JRl, JR0, JR1, JR2, JR3, JRf0, JRf1, JRf2, JRf3⟩ := id JR
  obtain ⟨JRbl, JRb0, JRb1, JRb2, JRb3, JRbf0, JRbf1, JRbf2, JRbf3⟩ := id JRb
  have lb := B.size
  go_wp2_with fail
  refine (X3.out _).mono ?_
  rintro e w3 ⟨rfl, z⟩
  clear JX0 JX1 JX2 JX3 JXl JY0 JY1 JY2 JY3 JYl JR0 JR1 JR2 JR3 JRl JRf0 JRf1 JRf2 JRf3 JRb0 JRb1 JRb2 JRb3 JRbl JRbf0 JRbf1 JRbf2 JRbf3 lb
  replace JX := JX.below z
  replace JY := JY.below z
  replace JR := JR.below z
  replace JRb := JRb.below z
  replace B := below_next B z
  clear z
  obtain ⟨JXl, JX0, JX1, JX2, JX3⟩ := JX.k
  obtain ⟨JYl, JY0, JY1, JY2, JY3⟩ := JY.k
  obtain ⟨JRl, JR0, JR1, JR2, JR3, JRf0, JRf1, JRf2, JRf3⟩ := id JR
  obtain ⟨JRbl, JRb0, JRb1, JRb2, JRb3, JRbf0, JRbf1, JRbf2, JRbf3⟩ := id JRb
  have lb := B.size
  go_wp2_with fail
  clear JX0 JX1 JX2 JX3 JXl JY0 JY1 JY2 JY3 JYl JR0 JR1 JR2 JR3 JRl JRf0 JRf1 JRf2 JRf3 JRb0 JRb1 JRb2 JRb3 JRbl JRbf0 JRbf1 JRbf2 JRbf3 lb
  have q0 := JX.c3
  have q1 := JY.c3
  try dsimp only at q0 q1
  have hd1 : decide (ub M < ub (bmax h h')) = false := by rw [decide_eq_false_iff_not]; omega
  apply cutF (F := fun W' => SC W' (w.heap.size) ((v, m), l, h) ∧ SC W' (w.heap.size + 1) ((v', m'), l', h') ∧ SC W' (w.heap.size + 1 + 1) sc0 ∧ SC W' (w.heap.size + 1 + 1 + 1) sc0 ∧ Below w.heap.size w W')
  · go_region_held3 (fun w' => w'.cell? ⟨w.heap.size, 3, none⟩ = some (.int .u64 (ub ((v, m), l, h).2.2)) ∧ w'.cell? ⟨w.heap.size + 1, 3, none⟩ = some (.int .u64 (ub ((v', m'), l', h').2.2)) ∧ Below w3.heap.size w3 w')
      (first | (go_split_ands; with_reducible exact ⟨by with_reducible assumption, by with_reducible assumption, by with_reducible assumption⟩) | (with_reducible exact ⟨cn bq (by with_reducible assumption), cn bq (by with_reducible assumption), below_next (by with_reducible assumption) bq⟩) | (with_reducible exact ⟨cn (below_dr w3) q0, cn (below_dr w3) q1, below_dr w3⟩))
      (first | (go_at_call 61; go_split_ands; (with_reducible refine (X4.out _).mono ?_); rintro e wq ⟨rfl, bq⟩))
    all_goals
      go_split_ands
      have zq : Below w3.heap.size w3 wq := by with_reducible assumption
      exact ⟨⟨JX.below zq, JY.below zq, JR.below zq, JRb.below zq, below_next B zq⟩, rfl⟩
  clear q0 q1 JX JY JR JRb B
  intro w4 ⟨JX, JY, JR, JRb, B⟩
  obtain ⟨JXl, JX0, JX1, JX2, JX3⟩ := JX.k
  obtain ⟨JYl, JY0, JY1, JY2, JY3⟩ := JY.k
  obtain ⟨JRl, JR0, JR1, JR2, JR3, JRf0, JRf1, JRf2, JRf3⟩ := id JR
  obtain ⟨JRbl, JRb0, JRb1, JRb2, JRb3, JRbf0, JRbf1, JRbf2, JRbf3⟩ := id JRb
  have lb := B.size
  go_wp2_with fail
  refine (X5.out _).mono ?_
  rintro e w5 ⟨rfl, z⟩
  clear JX0 JX1 JX2 JX3 JXl JY0 JY1 JY2 JY3 JYl JR0 JR1 JR2 JR3 JRl JRf0 JRf1 JRf2 JRf3 JRb0 JRb1 JRb2 JRb3 JRbl JRbf0 JRbf1 JRbf2 JRbf3 lb
  replace JX := JX.below z
  replace JY := JY.below z
  replace JR := JR.below z
  replace JRb := JRb.below z
  replace B := below_next B z
  clear z
  obtain ⟨JXl, JX0, JX1, JX2, JX3⟩ := JX.k
  obtain ⟨JYl, JY0, JY1, JY2, JY3⟩ := JY.k
  obtain ⟨JRl, JR0, JR1, JR2, JR3, JRf0, JRf1, JRf2, JRf3⟩ := id JR
  obtain ⟨JRbl, JRb0, JRb1, JRb2, JRb3, JRbf0, JRbf1, JRbf2, JRbf3⟩ := id JRb
  have lb := B.size
  go_wp2
  exact bodyPost_ret (v := .tuple #[sv sc0, sv sc0, .bool false]) (by simp [results, Tryz.results29, go_sem, JX0, JX1, JX2, JX3, JXl, JY0, JY1, JY2, JY3, JYl, JR0, JR1, JR2, JR3, JRl, JRb0, JRb1, JRb2, JRb3, JRbl]; try first | rfl | exact ⟨rfl, rfl⟩) rfl ⟨rfl, bel_alloc (bel_alloc (putS_below sc0 (putS_below sc0 B (by omega)) (by omega)))⟩
set_option maxHeartbeats 8000000 in
theorem cRefine_told1 (op : Int) (c : Bool) (a b : Sc) (k : Bool) (h : Wd.isCond op = true) (ha : mayX a = true) (hb : mayX b = true) (hg : ¬ ub (mostX op c) < ub (bmax a.2.2 b.2.2)) (hr : (tolT op a b k).2.2 = true) (w : World) : Calls Tryz.prog 29 #[.int .i64 op, .bool c, sv a, sv b, .bool k] w fun e w' => e = .returned (.tuple #[sv (tolT op a b k).1, sv (tolT op a b k).2.1, .bool true]) ∧ Below w.heap.size w w' := by
  have X1 := fun W => Wd.cond_any op c 0 0 W (by decide) (by decide) (by decide) (by decide)
  have X2 := fun W => cMay_any a W
  have X3 := fun W => cMay_any b W
  generalize Wd.condI op c 0 0 = N at X1
  rw [show Wd.condE op = 0 from if_pos h] at X1
  clear h
  rw [ha] at X2
  rw [hb] at X3
  have X4 := fun W => cMost_any op c W
  generalize mostX op c = M at *
  have X5 := fun W => cTold_any op a b k W
  generalize tolT op a b k = R at *
  unfold tri at X5
  rw [hr] at X5
  clear hr
  clear ha hb
  obtain ⟨⟨v, m⟩, l, h⟩ := a
  obtain ⟨⟨v', m'⟩, l', h'⟩ := b
  unfold sv at X2 X3 X5 ⊢
  dsimp only at X2 X3 hg X5 ⊢
  replace X1 := hid X1
  replace X2 := hid X2
  replace X3 := hid X3
  replace X4 := hid X4
  replace X5 := hid X5
  go_enter Tryz.func29, Tryz.ntmps29
  go_wp2_with fail
  refine (X1.out _).mono ?_
  rintro e w1 ⟨rfl, z⟩
  have JX : SC w1 (w.heap.size) (((v, m), l, h)) := ((((SC.new rfl).alloc _).alloc _).alloc _).below z
  have JY : SC w1 (w.heap.size + 1) (((v', m'), l', h')) := (((SC.new (by simp)).alloc _).alloc _).below z
  have JR : SC w1 (w.heap.size + 1 + 1) (sc0) := ((SC.new (by simp)).alloc _).below z
  have JRb : SC w1 (w.heap.size + 1 + 1 + 1) (sc0) := (SC.new (by simp)).below z
  have B := below_next (bel_alloc (bel_alloc (bel_alloc (bel_alloc (Below.refl w.heap.size w))))) z
  clear z
  obtain ⟨JXl, JX0, JX1, JX2, JX3⟩ := JX.k
  obtain ⟨JYl, JY0, JY1, JY2, JY3⟩ := JY.k
  obtain ⟨JRl, JR0, JR1, JR2, JR3, JRf0, JRf1, JRf2, JRf3⟩ := id JR
  obtain ⟨JRbl, JRb0, JRb1, JRb2, JRb3, JRbf0, JRbf1, JRbf2, JRbf3⟩ := id JRb
  have lb := B.size
  go_wp2_with fail
  refine (X2.out _).mono ?_
  rintro e w2 ⟨rfl, z⟩
  clear JX0 JX1 JX2 JX3 JXl JY0 JY1 JY2 JY3 JYl JR0 JR1 JR2 JR3 JRl JRf0 JRf1 JRf2 JRf3 JRb0 JRb1 JRb2 JRb3 JRbl JRbf0 JRbf1 JRbf2 JRbf3 lb
  replace JX := JX.below z
  replace JY := JY.below z
  replace JR := JR.below z
  replace JRb := JRb.below z
  replace B := below_next B z
  clear z
  obtain ⟨JXl, JX0, JX1, JX2, JX3⟩ := JX.k
  obtain ⟨JYl, JY0, JY1, JY2, JY3⟩ := JY.k
  obtain ⟨JRl, JR0, JR1, JR2, JR3, JRf0, JRf1, JRf2, JRf3⟩ := id JR
  obtain ⟨JRbl, JRb0, JRb1, JRb2, JRb3, JRbf0, JRbf1, JRbf2, JRbf3⟩ := id JRb
  have lb := B.size
  go_wp2_with fail
  refine (X3.out _).mono ?_
  rintro e w3 ⟨rfl, z⟩
  clear JX0 JX1 JX2 JX3 JXl JY0 JY1 JY2 JY3 JYl JR0 JR1 JR2 JR3 JRl JRf0 JRf1 JRf2 JRf3 JRb0 JRb1 JRb2 JRb3 JRbl JRbf0 JRbf1 JRbf2 JRbf3 lb
  replace JX := JX.below z
  replace JY := JY.below z
  replace JR := JR.below z
  replace JRb := JRb.below z
  replace B := below_next B z
  clear z
  obtain ⟨JXl, JX0, JX1, JX2, JX3⟩ := JX.k
  obtain ⟨JYl, JY0, JY1, JY2, JY3⟩ := JY.k
  obtain ⟨JRl, JR0, JR1, JR2, JR3, JRf0, JRf1, JRf2, JRf3⟩ := id JR
  obtain ⟨JRbl, JRb0, JRb1, JRb2, JRb3, JRbf0, JRbf1, JRbf2, JRbf3⟩ := id JRb
  have lb := B.size
  go_wp2_with fail
  clear JX0 JX1 JX2 JX3 JXl JY0 JY1 JY2 JY3 JYl JR0 JR1 JR2 JR3 JRl JRf0 JRf1 JRf2 JRf3 JRb0 JRb1 JRb2 JRb3 JRbl JRbf0 JRbf1 JRbf2 JRbf3 lb
  have q0 := JX.c3
  have q1 := JY.c3
  try dsimp only at q0 q1
  have hd1 : decide (ub M < ub (bmax h h')) = false := by rw [decide_eq_false_iff_not]; omega
  apply cutF (F := fun W' => SC W' (w.heap.size) ((v, m), l, h) ∧ SC W' (w.heap.size + 1) ((v', m'), l', h') ∧ SC W' (w.heap.size + 1 + 1) sc0 ∧ SC W' (w.heap.size + 1 + 1 + 1) sc0 ∧ Below w.heap.size w W')
  · go_region_held3 (fun w' => w'.cell? ⟨w.heap.size, 3, none⟩ = some (.int .u64 (ub ((v, m), l, h).2.2)) ∧ w'.cell? ⟨w.heap.size + 1, 3, none⟩ = some (.int .u64 (ub ((v', m'), l', h').2.2)) ∧ Below w3.heap.size w3 w')
      (first | (go_split_ands; with_reducible exact ⟨by with_reducible assumption, by with_reducible assumption, by with_reducible assumption⟩) | (with_reducible exact ⟨cn bq (by with_reducible assumption), cn bq (by with_reducible assumption), below_next (by with_reducible assumption) bq⟩) | (with_reducible exact ⟨cn (below_dr w3) q0, cn (below_dr w3) q1, below_dr w3⟩))
      (first | (go_at_call 61; go_split_ands; (with_reducible refine (X4.out _).mono ?_); rintro e wq ⟨rfl, bq⟩))
    all_goals
      go_split_ands
      have zq : Below w3.heap.size w3 wq := by with_reducible assumption
      exact ⟨⟨JX.below zq, JY.below zq, JR.below zq, JRb.below zq, below_next B zq⟩, rfl⟩
  clear q0 q1 JX JY JR JRb B
  intro w4 ⟨JX, JY, JR, JRb, B⟩
  obtain ⟨JXl, JX0, JX1, JX2, JX3⟩ := JX.k
  obtain ⟨JYl, JY0, JY1, JY2, JY3⟩ := JY.k
  obtain ⟨JRl, JR0, JR1, JR2, JR3, JRf0, JRf1, JRf2, JRf3⟩ := id JR
  obtain ⟨JRbl, JRb0, JRb1, JRb2, JRb3, JRbf0, JRbf1, JRbf2, JRbf3⟩ := id JRb
  have lb := B.size
  go_wp2_with fail
  refine (X5.out _).mono ?_
  rintro e w5 ⟨rfl, z⟩
  clear JX0 JX1 JX2 JX3 JXl JY0 JY1 JY2 JY3 JYl JR0 JR1 JR2 JR3 JRl JRf0 JRf1 JRf2 JRf3 JRb0 JRb1 JRb2 JRb3 JRbl JRbf0 JRbf1 JRbf2 JRbf3 lb
  replace JX := JX.below z
  replace JY := JY.below z
  replace JR := JR.below z
  replace JRb := JRb.below z
  replace B := below_next B z
  clear z
  obtain ⟨JXl, JX0, JX1, JX2, JX3⟩ := JX.k
  obtain ⟨JYl, JY0, JY1, JY2, JY3⟩ := JY.k
  obtain ⟨JRl, JR0, JR1, JR2, JR3, JRf0, JRf1, JRf2, JRf3⟩ := id JR
  obtain ⟨JRbl, JRb0, JRb1, JRb2, JRb3, JRbf0, JRbf1, JRbf2, JRbf3⟩ := id JRb
  have lb := B.size
  go_wp2_with fail
  clear JX0 JX1 JX2 JX3 JXl JY0 JY1 JY2 JY3 JYl JR0 JR1 JR2 JR3 JRl JRf0 JRf1 JRf2 JRf3 JRb0 JRb1 JRb2 JRb3 JRbl JRbf0 JRbf1 JRbf2 JRbf3 lb
  have JM : SC ((w5.alloc (.cells #[.int .u64 (ub R.1.1.1), .int .u64 (ub R.1.1.2), .int .u64 (ub R.1.2.1), .int .u64 (ub R.1.2.2)] 28)).alloc (.cells #[.int .u64 (ub R.2.1.1.1), .int .u64 (ub R.2.1.1.2), .int .u64 (ub R.2.1.2.1), .int .u64 (ub R.2.1.2.2)] 28)) (w5.heap.size) R.1 := ((SC.new (x := R.1) rfl).alloc _)
  have JN : SC ((w5.alloc (.cells #[.int .u64 (ub R.1.1.1), .int .u64 (ub R.1.1.2), .int .u64 (ub R.1.2.1), .int .u64 (ub R.1.2.2)] 28)).alloc (.cells #[.int .u64 (ub R.2.1.1.1), .int .u64 (ub R.2.1.1.2), .int .u64 (ub R.2.1.2.1), .int .u64 (ub R.2.1.2.2)] 28)) (w5.heap.size + 1) R.2.1 := (SC.new (x := R.2.1) (by simp))
  have gq5JX : w.heap.size < w5.heap.size := JX.lt
  replace JX := ((JX.alloc (.cells #[.int .u64 (ub R.1.1.1), .int .u64 (ub R.1.1.2), .int .u64 (ub R.1.2.1), .int .u64 (ub R.1.2.2)] 28)).alloc (.cells #[.int .u64 (ub R.2.1.1.1), .int .u64 (ub R.2.1.1.2), .int .u64 (ub R.2.1.2.1), .int .u64 (ub R.2.1.2.2)] 28))
  have gq5JY : w.heap.size + 1 < w5.heap.size := JY.lt
  replace JY := ((JY.alloc (.cells #[.int .u64 (ub R.1.1.1), .int .u64 (ub R.1.1.2), .int .u64 (ub R.1.2.1), .int .u64 (ub R.1.2.2)] 28)).alloc (.cells #[.int .u64 (ub R.2.1.1.1), .int .u64 (ub R.2.1.1.2), .int .u64 (ub R.2.1.2.1), .int .u64 (ub R.2.1.2.2)] 28))
  have gq5JR : w.heap.size + 1 + 1 < w5.heap.size := JR.lt
  replace JR := ((JR.alloc (.cells #[.int .u64 (ub R.1.1.1), .int .u64 (ub R.1.1.2), .int .u64 (ub R.1.2.1), .int .u64 (ub R.1.2.2)] 28)).alloc (.cells #[.int .u64 (ub R.2.1.1.1), .int .u64 (ub R.2.1.1.2), .int .u64 (ub R.2.1.2.1), .int .u64 (ub R.2.1.2.2)] 28))
  have gq5JRb : w.heap.size + 1 + 1 + 1 < w5.heap.size := JRb.lt
  replace JRb := ((JRb.alloc (.cells #[.int .u64 (ub R.1.1.1), .int .u64 (ub R.1.1.2), .int .u64 (ub R.1.2.1), .int .u64 (ub R.1.2.2)] 28)).alloc (.cells #[.int .u64 (ub R.2.1.1.1), .int .u64 (ub R.2.1.1.2), .int .u64 (ub R.2.1.2.1), .int .u64 (ub R.2.1.2.2)] 28))
  replace B := (bel_alloc (o := (.cells #[.int .u64 (ub R.2.1.1.1), .int .u64 (ub R.2.1.1.2), .int .u64 (ub R.2.1.2.1), .int .u64 (ub R.2.1.2.2)] 28)) (bel_alloc (o := (.cells #[.int .u64 (ub R.1.1.1), .int .u64 (ub R.1.1.2), .int .u64 (ub R.1.2.1), .int .u64 (ub R.1.2.2)] 28)) B))
  generalize ((w5.alloc (.cells #[.int .u64 (ub R.1.1.1), .int .u64 (ub R.1.1.2), .int .u64 (ub R.1.2.1), .int .u64 (ub R.1.2.2)] 28)).alloc (.cells #[.int .u64 (ub R.2.1.1.1), .int .u64 (ub R.2.1.1.2), .int .u64 (ub R.2.1.2.1), .int .u64 (ub R.2.1.2.2)] 28)) = w6 at *
  obtain ⟨JXl, JX0, JX1, JX2, JX3⟩ := JX.k
  obtain ⟨JYl, JY0, JY1, JY2, JY3⟩ := JY.k
  obtain ⟨JRl, JR0, JR1, JR2, JR3, JRf0, JRf1, JRf2, JRf3⟩ := id JR
  obtain ⟨JRbl, JRb0, JRb1, JRb2, JRb3, JRbf0, JRbf1, JRbf2, JRbf3⟩ := id JRb
  obtain ⟨JMl, JM0, JM1, JM2, JM3⟩ := JM.k
  obtain ⟨JNl, JN0, JN1, JN2, JN3⟩ := JN.k
  have lb := B.size
  go_wp2_with fail
  clear JX0 JX1 JX2 JX3 JXl JY0 JY1 JY2 JY3 JYl JR0 JR1 JR2 JR3 JRl JRf0 JRf1 JRf2 JRf3 JRb0 JRb1 JRb2 JRb3 JRbl JRbf0 JRbf1 JRbf2 JRbf3 JM0 JM1 JM2 JM3 JMl JN0 JN1 JN2 JN3 JNl lb
  obtain ⟨JXdl, JXd0, JXd1, JXd2, JXd3, JXdf0, JXdf1, JXdf2, JXdf3⟩ := id JX
  obtain ⟨JYdl, JYd0, JYd1, JYd2, JYd3, JYdf0, JYdf1, JYdf2, JYdf3⟩ := id JY
  obtain ⟨JRdl, JRd0, JRd1, JRd2, JRd3, JRdf0, JRdf1, JRdf2, JRdf3⟩ := id JR
  obtain ⟨JRbdl, JRbd0, JRbd1, JRbd2, JRbd3, JRbdf0, JRbdf1, JRbdf2, JRbdf3⟩ := id JRb
  obtain ⟨JMdl, JMd0, JMd1, JMd2, JMd3, JMdf0, JMdf1, JMdf2, JMdf3⟩ := id JM
  obtain ⟨JNdl, JNd0, JNd1, JNd2, JNd3, JNdf0, JNdf1, JNdf2, JNdf3⟩ := id JN
  have ld := B.size
  apply cutF (F := fun W' => SC W' (w.heap.size) ((v, m), l, h) ∧ SC W' (w.heap.size + 1) ((v', m'), l', h') ∧ SC W' (w.heap.size + 1 + 1) (R.1) ∧ SC W' (w.heap.size + 1 + 1 + 1) (R.2.1) ∧ SC W' (w5.heap.size) R.1 ∧ SC W' (w5.heap.size + 1) R.2.1 ∧ Below w.heap.size w W')
  · go_region
    all_goals exact ⟨⟨(((JX.other (c := w.heap.size + 1 + 1) (by omega) (R.1)).other (c := w.heap.size + 1 + 1 + 1) (by omega) (R.2.1)).below (below_dr _)), (((JY.other (c := w.heap.size + 1 + 1) (by omega) (R.1)).other (c := w.heap.size + 1 + 1 + 1) (by omega) (R.2.1)).below (below_dr _)), (((JR.put (R.1)).other (c := w.heap.size + 1 + 1 + 1) (by omega) (R.2.1)).below (below_dr _)), (((JRb.other (c := w.heap.size + 1 + 1) (by omega) (R.1)).put (R.2.1)).below (below_dr _)), (((JM.other (c := w.heap.size + 1 + 1) (by omega) (R.1)).other (c := w.heap.size + 1 + 1 + 1) (by omega) (R.2.1)).below (below_dr _)), (((JN.other (c := w.heap.size + 1 + 1) (by omega) (R.1)).other (c := w.heap.size + 1 + 1 + 1) (by omega) (R.2.1)).below (below_dr _)), below_next (putS_below (R.2.1) (putS_below (R.1) B (by omega : w.heap.size ≤ w.heap.size + 1 + 1)) (by omega : w.heap.size ≤ w.heap.size + 1 + 1 + 1)) (below_dr _)⟩, rfl⟩
  clear JXd0 JXd1 JXd2 JXd3 JXdl JXdf0 JXdf1 JXdf2 JXdf3 JYd0 JYd1 JYd2 JYd3 JYdl JYdf0 JYdf1 JYdf2 JYdf3 JRd0 JRd1 JRd2 JRd3 JRdl JRdf0 JRdf1 JRdf2 JRdf3 JRbd0 JRbd1 JRbd2 JRbd3 JRbdl JRbdf0 JRbdf1 JRbdf2 JRbdf3 JMd0 JMd1 JMd2 JMd3 JMdl JMdf0 JMdf1 JMdf2 JMdf3 JNd0 JNd1 JNd2 JNd3 JNdl JNdf0 JNdf1 JNdf2 JNdf3 ld
  clear JX JY JR JRb JM JN B
  intro w7 ⟨JX, JY, JR, JRb, JM, JN, B⟩
  obtain ⟨JXl, JX0, JX1, JX2, JX3⟩ := JX.k
  obtain ⟨JYl, JY0, JY1, JY2, JY3⟩ := JY.k
  obtain ⟨JRl, JR0, JR1, JR2, JR3, JRf0, JRf1, JRf2, JRf3⟩ := id JR
  obtain ⟨JRbl, JRb0, JRb1, JRb2, JRb3, JRbf0, JRbf1, JRbf2, JRbf3⟩ := id JRb
  obtain ⟨JMl, JM0, JM1, JM2, JM3⟩ := JM.k
  obtain ⟨JNl, JN0, JN1, JN2, JN3⟩ := JN.k
  have lb := B.size
  go_wp2
  exact bodyPost_ret (v := .tuple #[sv R.1, sv R.2.1, .bool true]) (by simp [results, Tryz.results29, go_sem, JX0, JX1, JX2, JX3, JXl, JY0, JY1, JY2, JY3, JYl, JR0, JR1, JR2, JR3, JRl, JRb0, JRb1, JRb2, JRb3, JRbl, JM0, JM1, JM2, JM3, JMl, JN0, JN1, JN2, JN3, JNl]; try first | rfl | exact ⟨rfl, rfl⟩) rfl ⟨rfl, B⟩
theorem cRefine_any (op : Int) (c : Bool) (a b : Sc) (k : Bool) (w : World) : Calls Tryz.prog 29 #[.int .i64 op, .bool c, sv a, sv b, .bool k] w fun e w' => e = .returned (tri (refT op c a b k)) ∧ Below w.heap.size w w' := by
  unfold refT
  by_cases h : refIs op a b
  · rw [if_pos h]
    obtain ⟨h1, h2, h3⟩ := h
    by_cases hg : ub (mostX op c) < ub (bmax a.2.2 b.2.2)
    · rw [if_pos hg]; exact cRefine_high op c a b k h1 h2 h3 hg w
    · rw [if_neg hg]
      cases hr : (tolT op a b k).2.2
      · rw [if_neg (by decide)]; exact cRefine_told0 op c a b k h1 h2 h3 hg hr w
      · rw [if_pos rfl]
        have := cRefine_told1 op c a b k h1 h2 h3 hg hr w
        unfold tri
        rw [hr]
        exact this
  · rw [if_neg h]
    cases h1 : Wd.isCond op
    · exact cRefine_none op c a b k h1 w
    · cases h2 : mayX a
      · exact cRefine_na op c a b k h1 h2 w
      · cases h3 : mayX b
        · exact cRefine_nb op c a b k h1 h2 h3 w
        · exact absurd ⟨h1, h2, h3⟩ h
end Go.Proofs.YtodmikjpmcabiaaGreat
