import Derived.Test.YtodmikjpmcabiaaGreatZScI
import Derived.Deep.RegionLaw
import Derived.Deep.RegionHeld3
namespace Go.Proofs.YtodmikjpmcabiaaGreat
set_option linter.unusedSimpArgs false
set_option linter.unusedVariables false
set_option maxRecDepth 100000
open Go.ChangeShapes Go.WideShapes Go.ChangeAt Go.RowKit

def wthO (a b : Sc) : Option Sc :=
  if a = b ∧ singleX b = true then none
  else if singleX b = true ∧ a.2.1 = b.2.1 then settle (a.1, (b.2.1 + 1#64, a.2.2))
  else if singleX b = true ∧ a.2.2 = b.2.1 then settle (a.1, (a.2.1, b.2.1 - 1#64))
  else some a
@[go_sem] theorem ub_succK (x : B64) : IntKind.u64.wrap (ub x + 1) = ub (x + 1#64) := ub_wadd x 1#64
set_option maxHeartbeats 8000000 in
theorem cWithout_ns (a b : Sc) (hs : singleX b = false) (w : World) : Calls Tryz.prog 95 #[sv a, sv b] w fun e w' => e = .returned (.tuple #[sv a, .bool true]) ∧ Below w.heap.size w w' := by
  have X1 := fun W => cSingle_any b W
  have E := fun W => eq_sc a b W
  rw [hs] at X1
  clear hs
  generalize (a == b) = k at *
  obtain ⟨⟨v, m⟩, l, h⟩ := a
  obtain ⟨⟨v', m'⟩, l', h'⟩ := b
  unfold sv at X1 E ⊢
  dsimp only at X1 E ⊢
  replace X1 := hid X1
  cases k
  · go_enter Tryz.func95, Tryz.ntmps95
    go_wp2_with fail
    refine (X1.out _).mono ?_
    rintro e w1 ⟨rfl, z⟩
    have JX : SC w1 (w.heap.size) (((v, m), l, h)) := (((SC.new rfl).alloc _).alloc _).below z
    have JY : SC w1 (w.heap.size + 1) (((v', m'), l', h')) := ((SC.new (by simp)).alloc _).below z
    have JR : SC w1 (w.heap.size + 1 + 1) (sc0) := (SC.new (by simp)).below z
    have B := below_next (bel_alloc (bel_alloc (bel_alloc (Below.refl w.heap.size w)))) z
    clear z
    obtain ⟨JXl, JX0, JX1, JX2, JX3⟩ := JX.k
    obtain ⟨JYl, JY0, JY1, JY2, JY3⟩ := JY.k
    obtain ⟨JRl, JR0, JR1, JR2, JR3, JRf0, JRf1, JRf2, JRf3⟩ := id JR
    have lb := B.size
    go_wp2
    exact bodyPost_ret (v := .tuple #[sv ((v, m), l, h), .bool true]) (by simp [results, Tryz.results95, go_sem, JX0, JX1, JX2, JX3, JXl, JY0, JY1, JY2, JY3, JYl, JR0, JR1, JR2, JR3, JRl]; try first | rfl | exact ⟨rfl, rfl⟩) rfl ⟨rfl, putS_below ((v, m), l, h) B (by omega)⟩
  · go_enter Tryz.func95, Tryz.ntmps95
    go_wp2_with fail
    refine (X1.out _).mono ?_
    rintro e w1 ⟨rfl, z⟩
    have JX : SC w1 (w.heap.size) (((v, m), l, h)) := (((SC.new rfl).alloc _).alloc _).below z
    have JY : SC w1 (w.heap.size + 1) (((v', m'), l', h')) := ((SC.new (by simp)).alloc _).below z
    have JR : SC w1 (w.heap.size + 1 + 1) (sc0) := (SC.new (by simp)).below z
    have B := below_next (bel_alloc (bel_alloc (bel_alloc (Below.refl w.heap.size w)))) z
    clear z
    obtain ⟨JXl, JX0, JX1, JX2, JX3⟩ := JX.k
    obtain ⟨JYl, JY0, JY1, JY2, JY3⟩ := JY.k
    obtain ⟨JRl, JR0, JR1, JR2, JR3, JRf0, JRf1, JRf2, JRf3⟩ := id JR
    have lb := B.size
    go_wp2
    exact bodyPost_ret (v := .tuple #[sv ((v, m), l, h), .bool true]) (by simp [results, Tryz.results95, go_sem, JX0, JX1, JX2, JX3, JXl, JY0, JY1, JY2, JY3, JYl, JR0, JR1, JR2, JR3, JRl]; try first | rfl | exact ⟨rfl, rfl⟩) rfl ⟨rfl, putS_below ((v, m), l, h) B (by omega)⟩
set_option maxHeartbeats 8000000 in
theorem cWithout_eq (a b : Sc) (hs : singleX b = true) (he : a = b) (w : World) : Calls Tryz.prog 95 #[sv a, sv b] w fun e w' => e = .returned (.tuple #[sv sc0, .bool false]) ∧ Below w.heap.size w w' := by
  have X1 := fun W => cSingle_any b W
  have E := fun W => eq_sc a b W
  rw [hs] at X1
  rw [show (a == b) = true from beq_iff_eq.2 he] at E
  clear hs he
  obtain ⟨⟨v, m⟩, l, h⟩ := a
  obtain ⟨⟨v', m'⟩, l', h'⟩ := b
  unfold sv at X1 E ⊢
  dsimp only at X1 E ⊢
  replace X1 := hid X1
  go_enter Tryz.func95, Tryz.ntmps95
  go_wp2_with fail
  refine (X1.out _).mono ?_
  rintro e w1 ⟨rfl, z⟩
  have JX : SC w1 (w.heap.size) (((v, m), l, h)) := (((SC.new rfl).alloc _).alloc _).below z
  have JY : SC w1 (w.heap.size + 1) (((v', m'), l', h')) := ((SC.new (by simp)).alloc _).below z
  have JR : SC w1 (w.heap.size + 1 + 1) (sc0) := (SC.new (by simp)).below z
  have B := below_next (bel_alloc (bel_alloc (bel_alloc (Below.refl w.heap.size w)))) z
  clear z
  obtain ⟨JXl, JX0, JX1, JX2, JX3⟩ := JX.k
  obtain ⟨JYl, JY0, JY1, JY2, JY3⟩ := JY.k
  obtain ⟨JRl, JR0, JR1, JR2, JR3, JRf0, JRf1, JRf2, JRf3⟩ := id JR
  have lb := B.size
  go_wp2
  exact bodyPost_ret (v := .tuple #[sv sc0, .bool false]) (by simp [results, Tryz.results95, go_sem, JX0, JX1, JX2, JX3, JXl, JY0, JY1, JY2, JY3, JYl, JR0, JR1, JR2, JR3, JRl]; try first | rfl | exact ⟨rfl, rfl⟩) rfl ⟨rfl, putS_below sc0 B (by omega)⟩
set_option maxHeartbeats 8000000 in
theorem cWithout_lo (a b : Sc) (hs : singleX b = true) (he : ¬ a = b) (hl : a.2.1 = b.2.1) (w : World) : Calls Tryz.prog 95 #[sv a, sv b] w fun e w' => e = .returned (.tuple #[sv (optS (settle (a.1, (b.2.1 + 1#64, a.2.2)))), .bool (settle (a.1, (b.2.1 + 1#64, a.2.2))).isSome]) ∧ Below w.heap.size w w' := by
  have X1 := fun W => cSingle_any b W
  have E := fun W => eq_sc a b W
  rw [hs] at X1
  rw [show (a == b) = false from beq_eq_false_iff_ne.2 he] at E
  clear hs he
  have X2 := fun W => cSettle_any a.1 (b.2.1 + 1#64, a.2.2) W
  generalize (settle (a.1, (b.2.1 + 1#64, a.2.2))).isSome = o at *
  generalize optS (settle (a.1, (b.2.1 + 1#64, a.2.2))) = P at *
  obtain ⟨⟨v, m⟩, l, h⟩ := a
  obtain ⟨⟨v', m'⟩, l', h'⟩ := b
  have hl' : (l == l') = true := beq_iff_eq.2 hl
  clear hl
  unfold sv at X1 X2 E ⊢
  unfold tv at X2
  dsimp only at X1 X2 E ⊢
  replace X1 := hid X1
  replace X2 := hid X2
  go_enter Tryz.func95, Tryz.ntmps95
  go_wp2_with fail
  refine (X1.out _).mono ?_
  rintro e w1 ⟨rfl, z⟩
  have JX : SC w1 (w.heap.size) (((v, m), l, h)) := (((SC.new rfl).alloc _).alloc _).below z
  have JY : SC w1 (w.heap.size + 1) (((v', m'), l', h')) := ((SC.new (by simp)).alloc _).below z
  have JR : SC w1 (w.heap.size + 1 + 1) (sc0) := (SC.new (by simp)).below z
  have B := below_next (bel_alloc (bel_alloc (bel_alloc (Below.refl w.heap.size w)))) z
  clear z
  obtain ⟨JXl, JX0, JX1, JX2, JX3⟩ := JX.k
  obtain ⟨JYl, JY0, JY1, JY2, JY3⟩ := JY.k
  obtain ⟨JRl, JR0, JR1, JR2, JR3, JRf0, JRf1, JRf2, JRf3⟩ := id JR
  have lb := B.size
  go_wp2_with fail
  refine (X2.out _).mono ?_
  rintro e w2 ⟨rfl, z⟩
  clear JX0 JX1 JX2 JX3 JXl JY0 JY1 JY2 JY3 JYl JR0 JR1 JR2 JR3 JRl JRf0 JRf1 JRf2 JRf3 lb
  replace JX := JX.below z
  replace JY := JY.below z
  replace JR := JR.below z
  replace B := below_next B z
  clear z
  obtain ⟨JXl, JX0, JX1, JX2, JX3⟩ := JX.k
  obtain ⟨JYl, JY0, JY1, JY2, JY3⟩ := JY.k
  obtain ⟨JRl, JR0, JR1, JR2, JR3, JRf0, JRf1, JRf2, JRf3⟩ := id JR
  have lb := B.size
  go_wp2
  exact bodyPost_ret (v := .tuple #[sv P, .bool o]) (by simp [results, Tryz.results95, go_sem, JX0, JX1, JX2, JX3, JXl, JY0, JY1, JY2, JY3, JYl, JR0, JR1, JR2, JR3, JRl]; try first | rfl | exact ⟨rfl, rfl⟩) rfl ⟨rfl, putS_below P B (by omega)⟩
set_option maxHeartbeats 8000000 in
theorem cWithout_hi (a b : Sc) (hs : singleX b = true) (he : ¬ a = b) (hl : ¬ a.2.1 = b.2.1) (hh : a.2.2 = b.2.1) (w : World) : Calls Tryz.prog 95 #[sv a, sv b] w fun e w' => e = .returned (.tuple #[sv (optS (settle (a.1, (a.2.1, b.2.1 - 1#64)))), .bool (settle (a.1, (a.2.1, b.2.1 - 1#64))).isSome]) ∧ Below w.heap.size w w' := by
  have X1 := fun W => cSingle_any b W
  have E := fun W => eq_sc a b W
  rw [hs] at X1
  rw [show (a == b) = false from beq_eq_false_iff_ne.2 he] at E
  clear hs he
  have X2 := fun W => cSettle_any a.1 (a.2.1, b.2.1 - 1#64) W
  generalize (settle (a.1, (a.2.1, b.2.1 - 1#64))).isSome = o at *
  generalize optS (settle (a.1, (a.2.1, b.2.1 - 1#64))) = P at *
  obtain ⟨⟨v, m⟩, l, h⟩ := a
  obtain ⟨⟨v', m'⟩, l', h'⟩ := b
  have hl' : (l == l') = false := beq_eq_false_iff_ne.2 hl
  have hh' : (h == l') = true := beq_iff_eq.2 hh
  clear hl hh
  unfold sv at X1 X2 E ⊢
  unfold tv at X2
  dsimp only at X1 X2 E ⊢
  replace X1 := hid X1
  replace X2 := hid X2
  go_enter Tryz.func95, Tryz.ntmps95
  go_wp2_with fail
  refine (X1.out _).mono ?_
  rintro e w1 ⟨rfl, z⟩
  have JX : SC w1 (w.heap.size) (((v, m), l, h)) := (((SC.new rfl).alloc _).alloc _).below z
  have JY : SC w1 (w.heap.size + 1) (((v', m'), l', h')) := ((SC.new (by simp)).alloc _).below z
  have JR : SC w1 (w.heap.size + 1 + 1) (sc0) := (SC.new (by simp)).below z
  have B := below_next (bel_alloc (bel_alloc (bel_alloc (Below.refl w.heap.size w)))) z
  clear z
  obtain ⟨JXl, JX0, JX1, JX2, JX3⟩ := JX.k
  obtain ⟨JYl, JY0, JY1, JY2, JY3⟩ := JY.k
  obtain ⟨JRl, JR0, JR1, JR2, JR3, JRf0, JRf1, JRf2, JRf3⟩ := id JR
  have lb := B.size
  go_wp2_with fail
  refine (X2.out _).mono ?_
  rintro e w2 ⟨rfl, z⟩
  clear JX0 JX1 JX2 JX3 JXl JY0 JY1 JY2 JY3 JYl JR0 JR1 JR2 JR3 JRl JRf0 JRf1 JRf2 JRf3 lb
  replace JX := JX.below z
  replace JY := JY.below z
  replace JR := JR.below z
  replace B := below_next B z
  clear z
  obtain ⟨JXl, JX0, JX1, JX2, JX3⟩ := JX.k
  obtain ⟨JYl, JY0, JY1, JY2, JY3⟩ := JY.k
  obtain ⟨JRl, JR0, JR1, JR2, JR3, JRf0, JRf1, JRf2, JRf3⟩ := id JR
  have lb := B.size
  go_wp2
  exact bodyPost_ret (v := .tuple #[sv P, .bool o]) (by simp [results, Tryz.results95, go_sem, JX0, JX1, JX2, JX3, JXl, JY0, JY1, JY2, JY3, JYl, JR0, JR1, JR2, JR3, JRl]; try first | rfl | exact ⟨rfl, rfl⟩) rfl ⟨rfl, putS_below P B (by omega)⟩
set_option maxHeartbeats 8000000 in
theorem cWithout_no (a b : Sc) (hs : singleX b = true) (he : ¬ a = b) (hl : ¬ a.2.1 = b.2.1) (hh : ¬ a.2.2 = b.2.1) (w : World) : Calls Tryz.prog 95 #[sv a, sv b] w fun e w' => e = .returned (.tuple #[sv a, .bool true]) ∧ Below w.heap.size w w' := by
  have X1 := fun W => cSingle_any b W
  have E := fun W => eq_sc a b W
  rw [hs] at X1
  rw [show (a == b) = false from beq_eq_false_iff_ne.2 he] at E
  clear hs he
  obtain ⟨⟨v, m⟩, l, h⟩ := a
  obtain ⟨⟨v', m'⟩, l', h'⟩ := b
  have hl' : (l == l') = false := beq_eq_false_iff_ne.2 hl
  have hh' : (h == l') = false := beq_eq_false_iff_ne.2 hh
  clear hl hh
  unfold sv at X1 E ⊢
  dsimp only at X1 E ⊢
  replace X1 := hid X1
  go_enter Tryz.func95, Tryz.ntmps95
  go_wp2_with fail
  refine (X1.out _).mono ?_
  rintro e w1 ⟨rfl, z⟩
  have JX : SC w1 (w.heap.size) (((v, m), l, h)) := (((SC.new rfl).alloc _).alloc _).below z
  have JY : SC w1 (w.heap.size + 1) (((v', m'), l', h')) := ((SC.new (by simp)).alloc _).below z
  have JR : SC w1 (w.heap.size + 1 + 1) (sc0) := (SC.new (by simp)).below z
  have B := below_next (bel_alloc (bel_alloc (bel_alloc (Below.refl w.heap.size w)))) z
  clear z
  obtain ⟨JXl, JX0, JX1, JX2, JX3⟩ := JX.k
  obtain ⟨JYl, JY0, JY1, JY2, JY3⟩ := JY.k
  obtain ⟨JRl, JR0, JR1, JR2, JR3, JRf0, JRf1, JRf2, JRf3⟩ := id JR
  have lb := B.size
  go_wp2
  exact bodyPost_ret (v := .tuple #[sv ((v, m), l, h), .bool true]) (by simp [results, Tryz.results95, go_sem, JX0, JX1, JX2, JX3, JXl, JY0, JY1, JY2, JY3, JYl, JR0, JR1, JR2, JR3, JRl]; try first | rfl | exact ⟨rfl, rfl⟩) rfl ⟨rfl, putS_below ((v, m), l, h) B (by omega)⟩
theorem cWithout_any (a b : Sc) (w : World) : Calls Tryz.prog 95 #[sv a, sv b] w fun e w' => e = .returned (.tuple #[sv (optS (wthO a b)), .bool (wthO a b).isSome]) ∧ Below w.heap.size w w' := by
  unfold wthO
  cases hs : singleX b
  · rw [if_neg (by simp), if_neg (by simp), if_neg (by simp)]
    exact cWithout_ns a b hs w
  · by_cases he : a = b
    · rw [if_pos ⟨he, rfl⟩]
      exact cWithout_eq a b hs he w
    · rw [if_neg (fun k => he k.1)]
      by_cases hl : a.2.1 = b.2.1
      · rw [if_pos ⟨rfl, hl⟩]
        exact cWithout_lo a b hs he hl w
      · rw [if_neg (fun k => hl k.2)]
        by_cases hh : a.2.2 = b.2.1
        · rw [if_pos ⟨rfl, hh⟩]
          exact cWithout_hi a b hs he hl hh w
        · rw [if_neg (fun k => hh k.2)]
          exact cWithout_no a b hs he hl hh w
end Go.Proofs.YtodmikjpmcabiaaGreat
