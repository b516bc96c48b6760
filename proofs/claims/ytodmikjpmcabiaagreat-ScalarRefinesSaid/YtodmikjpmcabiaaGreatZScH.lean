import Derived.Test.YtodmikjpmcabiaaGreatZScG
import Derived.Test.YtodmikjpmcabiaaGreatZWdS
import Derived.Deep.RegionLaw
namespace Go.Proofs.YtodmikjpmcabiaaGreat
set_option linter.unusedSimpArgs false
set_option linter.unusedVariables false
set_option maxRecDepth 100000
open Go.ChangeShapes Go.WideShapes Go.ChangeAt Go.RowKit

theorem SC.other2 {w : World} {b c : Nat} {x : Sc} (h : SC w b x) (hbc : b ≠ c) (u : Tn) : SC (put2 w c u) b x := by
  have e := put2_heap w c u hbc
  have g : ∀ k, (put2 w c u).cell? ⟨b, k, none⟩ = w.cell? ⟨b, k, none⟩ := fun k => World.cell?_of_block (w := w) (a := ⟨b, k, none⟩) e
  have f : ∀ k, (put2 w c u).frozen? ⟨b, k, none⟩ = w.frozen? ⟨b, k, none⟩ := fun k => World.frozen?_of_block (w := w) (a := ⟨b, k, none⟩) e
  exact ⟨by rw [put2_size]; exact h.lt, (g 0).trans h.c0, (g 1).trans h.c1, (g 2).trans h.c2, (g 3).trans h.c3, (f 0).trans h.f0, (f 1).trans h.f1, (f 2).trans h.f2, (f 3).trans h.f3⟩
def CutX (R : Act → World → Prop) : Exit → Act → World → Prop
  | .normal, a, w => R a w
  | _, _, _ => False
theorem CutX.imp {R : Act → World → Prop} {Q : Exit → Act → World → Prop} (h : ∀ a w, R a w → Q .normal a w) : ∀ e a w, CutX R e a w → Q e a w := fun e a w hr => by
  cases e <;> first | exact h a w hr | exact hr.elim
theorem cutF {P : Program} {c : Code} {Q : Exit → Act → World → Prop} {a : Act} {w : World} {A : Act} {F : World → Prop} (h1 : Code.wp P c (CutX fun a' W' => F W' ∧ a' = A) a w) (h2 : ∀ W, F W → Q .normal A W) : Code.wp P c Q a w :=
  Code.wp_mono (CutX.imp fun a' W' ⟨hF, e⟩ => e ▸ h2 W' hF) h1
set_option maxHeartbeats 4000000 in
theorem cAlu_bad (op : Int) (c : Bool) (a b : Sc) (hn : ¬ ((mayX a = true ∧ mayX b = true) ∧ opIs op)) (w : World) : Calls Tryz.prog 31 #[.int .i64 op, .bool c, sv a, sv b] w fun e w' => e = .returned (.tuple #[sv (scAluT op c a b), .int .i64 (scAluE op a b)]) ∧ Below w.heap.size w w' := by
  rw [show scAluT op c a b = sc0 from if_neg hn]
  have X1 := fun W => cMay_any a W
  have X2 := fun W => cMay_any b W
  have X3 := fun W => Wd.alu_any op c 0 0 W (by decide) (by decide) (by decide) (by decide)
  generalize Wd.aluI op c 0 0 = N at X3
  by_cases h1 : mayX a = true
  case neg =>
    rw [show scAluE op a b = 1 from if_neg (fun k => h1 k.1)]
    rw [Bool.eq_false_iff.2 h1] at X1
    clear X2 X3 h1 hn
    obtain ⟨⟨v, m⟩, l, h⟩ := a
    obtain ⟨⟨v', m'⟩, l', h'⟩ := b
    unfold sv at X1 ⊢
    dsimp only at X1 ⊢
    replace X1 := hid X1
    go_enter Tryz.func31, Tryz.ntmps31
    go_wp2_with fail
    refine (X1.out _).mono ?_
    rintro e w1 ⟨rfl, z⟩
    have JX : SC w1 (w.heap.size) (((v, m), l, h)) := (((SC.new rfl).alloc _).alloc _).below z
    have JY : SC w1 (w.heap.size + 1) (((v', m'), l', h')) := ((SC.new (by simp)).alloc _).below z
    have JR : SC w1 (w.heap.size + 1 + 1) (sc0) := (SC.new (by simp)).below z
    have B := below_next (bel_alloc (bel_alloc (bel_alloc (Below.refl w.heap.size w)))) z
    clear z
    obtain ⟨JXl, JX0, JX1, JX2, JX3⟩ := JX.k
    obtain ⟨JYl, JY0, JY1, JY2, JY3⟩ := JY.k
    obtain ⟨JRl, JR0, JR1, JR2, JR3, JRf0, JRf1, JRf2, JRf3⟩ := id JR
    have lb := B.size
    go_wp2
    exact bodyPost_ret (v := .tuple #[sv sc0, .int .i64 1]) (by simp [results, Tryz.results31, go_sem, JX0, JX1, JX2, JX3, JXl, JY0, JY1, JY2, JY3, JYl, JR0, JR1, JR2, JR3, JRl]; try rfl) rfl ⟨rfl, putS_below sc0 B (by omega)⟩
  by_cases h2 : mayX b = true
  case neg =>
    rw [show scAluE op a b = 1 from if_neg (fun k => h2 k.2)]
    rw [h1] at X1
    rw [Bool.eq_false_iff.2 h2] at X2
    clear X3 h1 h2 hn
    obtain ⟨⟨v, m⟩, l, h⟩ := a
    obtain ⟨⟨v', m'⟩, l', h'⟩ := b
    unfold sv at X1 X2 ⊢
    dsimp only at X1 X2 ⊢
    replace X1 := hid X1
    replace X2 := hid X2
    go_enter Tryz.func31, Tryz.ntmps31
    go_wp2_with fail
    refine (X1.out _).mono ?_
    rintro e w1 ⟨rfl, z⟩
    have JX : SC w1 (w.heap.size) (((v, m), l, h)) := (((SC.new rfl).alloc _).alloc _).below z
    have JY : SC w1 (w.heap.size + 1) (((v', m'), l', h')) := ((SC.new (by simp)).alloc _).below z
    have JR : SC w1 (w.heap.size + 1 + 1) (sc0) := (SC.new (by simp)).below z
    have B := below_next (bel_alloc (bel_alloc (bel_alloc (Below.refl w.heap.size w)))) z
    clear z
    obtain ⟨JXl, JX0, JX1, JX2, JX3⟩ := JX.k
    obtain ⟨JYl, JY0, JY1, JY2, JY3⟩ := JY.k
    obtain ⟨JRl, JR0, JR1, JR2, JR3, JRf0, JRf1, JRf2, JRf3⟩ := id JR
    have lb := B.size
    go_wp2_with fail
    refine (X2.out _).mono ?_
    rintro e w2 ⟨rfl, z⟩
    clear JX0 JX1 JX2 JX3 JXl JY0 JY1 JY2 JY3 JYl JR0 JR1 JR2 JR3 JRl JRf0 JRf1 JRf2 JRf3 lb
    replace JX := JX.below z
    replace JY := JY.below z
    replace JR := JR.below z
    replace B := below_next B z
    clear z
    obtain ⟨JXl, JX0, JX1, JX2, JX3⟩ := JX.k
    obtain ⟨JYl, JY0, JY1, JY2, JY3⟩ := JY.k
    obtain ⟨JRl, JR0, JR1, JR2, JR3, JRf0, JRf1, JRf2, JRf3⟩ := id JR
    have lb := B.size
    go_wp2
    exact bodyPost_ret (v := .tuple #[sv sc0, .int .i64 1]) (by simp [results, Tryz.results31, go_sem, JX0, JX1, JX2, JX3, JXl, JY0, JY1, JY2, JY3, JYl, JR0, JR1, JR2, JR3, JRl]; try rfl) rfl ⟨rfl, putS_below sc0 B (by omega)⟩
  have h3 : ¬ opIs op := fun k => hn ⟨⟨h1, h2⟩, k⟩
  rw [show scAluE op a b = 20 from (if_pos ⟨h1, h2⟩).trans (if_neg h3)]
  rw [show Wd.aluE op = 20 from if_neg h3] at X3
  rw [h1] at X1
  rw [h2] at X2
  clear h1 h2 h3 hn
  obtain ⟨⟨v, m⟩, l, h⟩ := a
  obtain ⟨⟨v', m'⟩, l', h'⟩ := b
  unfold sv at X1 X2 ⊢
  dsimp only at X1 X2 ⊢
  replace X1 := hid X1
  replace X2 := hid X2
  replace X3 := hid X3
  go_enter Tryz.func31, Tryz.ntmps31
  go_wp2_with fail
  refine (X1.out _).mono ?_
  rintro e w1 ⟨rfl, z⟩
  have JX : SC w1 (w.heap.size) (((v, m), l, h)) := (((SC.new rfl).alloc _).alloc _).below z
  have JY : SC w1 (w.heap.size + 1) (((v', m'), l', h')) := ((SC.new (by simp)).alloc _).below z
  have JR : SC w1 (w.heap.size + 1 + 1) (sc0) := (SC.new (by simp)).below z
  have B := below_next (bel_alloc (bel_alloc (bel_alloc (Below.refl w.heap.size w)))) z
  clear z
  obtain ⟨JXl, JX0, JX1, JX2, JX3⟩ := JX.k
  obtain ⟨JYl, JY0, JY1, JY2, JY3⟩ := JY.k
  obtain ⟨JRl, JR0, JR1, JR2, JR3, JRf0, JRf1, JRf2, JRf3⟩ := id JR
  have lb := B.size
  go_wp2_with fail
  refine (X2.out _).mono ?_
  rintro e w2 ⟨rfl, z⟩
  clear JX0 JX1 JX2 JX3 JXl JY0 JY1 JY2 JY3 JYl JR0 JR1 JR2 JR3 JRl JRf0 JRf1 JRf2 JRf3 lb
  replace JX := JX.below z
  replace JY := JY.below z
  replace JR := JR.below z
  replace B := below_next B z
  clear z
  obtain ⟨JXl, JX0, JX1, JX2, JX3⟩ := JX.k
  obtain ⟨JYl, JY0, JY1, JY2, JY3⟩ := JY.k
  obtain ⟨JRl, JR0, JR1, JR2, JR3, JRf0, JRf1, JRf2, JRf3⟩ := id JR
  have lb := B.size
  go_wp2_with fail
  refine (X3.out _).mono ?_
  rintro e w3 ⟨rfl, z⟩
  clear JX0 JX1 JX2 JX3 JXl JY0 JY1 JY2 JY3 JYl JR0 JR1 JR2 JR3 JRl JRf0 JRf1 JRf2 JRf3 lb
  replace JX := JX.below z
  replace JY := JY.below z
  replace JR := JR.below z
  replace B := below_next B z
  clear z
  obtain ⟨JXl, JX0, JX1, JX2, JX3⟩ := JX.k
  obtain ⟨JYl, JY0, JY1, JY2, JY3⟩ := JY.k
  obtain ⟨JRl, JR0, JR1, JR2, JR3, JRf0, JRf1, JRf2, JRf3⟩ := id JR
  have lb := B.size
  go_wp2
  exact bodyPost_ret (v := .tuple #[sv sc0, .int .i64 20]) (by simp [results, Tryz.results31, go_sem, JX0, JX1, JX2, JX3, JXl, JY0, JY1, JY2, JY3, JYl, JR0, JR1, JR2, JR3, JRl]; try rfl) rfl ⟨rfl, putS_below sc0 B (by omega)⟩
set_option maxHeartbeats 4000000 in
theorem cAlu_true (op : Int) (a b : Sc) (ha : mayX a = true) (hb : mayX b = true) (ho : opIs op) (w : World) : Calls Tryz.prog 31 #[.int .i64 op, .bool true, sv a, sv b] w fun e w' => e = .returned (.tuple #[sv (scAluT op true a b), .int .i64 (scAluE op a b)]) ∧ Below w.heap.size w w' := by
  rw [show scAluT op true a b = (settle (rawX op true a b)).getD (belowX true) from if_pos ⟨⟨ha, hb⟩, ho⟩, show scAluE op a b = 0 from (if_pos ⟨ha, hb⟩).trans (if_pos ho)]
  have ha' := halfW_may true ha
  have hb' := halfW_may true hb
  have X1 := fun W => cMay_any a W
  have X2 := fun W => cMay_any b W
  have X3 := fun W => Wd.alu_any op true 0 0 W (by decide) (by decide) (by decide) (by decide)
  have X4 := fun W => cHalf_any a (mayX_parts ha).1 W
  have X5 := fun W => cHalf_any b (mayX_parts hb).1 W
  have X6 := fun W => cBits_any op true (halfW true a) (halfW true b) (mayX_parts ha').1 (mayX_parts hb').1 W
  have X7 := fun W => tCut_any (bitsX op true (halfW true a) (halfW true b)) (szI true) W
  have X8 := fun W => sAlu_any op true (halfW true a).2 (halfW true b).2 W
  have X9 := fun W => cSettle_any (lowT (bitsX op true (halfW true a) (halfW true b)) (sizeW true)) (aluT op true (halfW true a).2 (halfW true b).2) W
  have X10 := fun W => cBelow_any (szI true) W
  rw [show belowI (szI true) = belowX true from below64] at X10
  have eT : cutT (bitsX op true (halfW true a) (halfW true b)) (szI true) = lowT (bitsX op true (halfW true a) (halfW true b)) (sizeW true) := (if_pos rfl).trans (if_pos (bitsX_may op true (mayX_parts ha').1 (mayX_parts hb').1))
  rw [eT] at X7
  rw [show (lowT (bitsX op true (halfW true a) (halfW true b)) (sizeW true), aluT op true (halfW true a).2 (halfW true b).2) = rawX op true a b from rfl] at X9
  rw [show Wd.aluE op = 0 from if_pos ho] at X3
  generalize Wd.aluI op true 0 0 = N at X3
  generalize cutE (bitsX op true (halfW true a) (halfW true b)) (szI true) = E7 at X7
  generalize aluE op (halfW true a).2 (halfW true b).2 = E8 at X8
  generalize settle (rawX op true a b) = o at *
  generalize lowT (bitsX op true (halfW true a) (halfW true b)) (sizeW true) = T' at *
  generalize bitsX op true (halfW true a) (halfW true b) = T at *
  generalize aluT op true (halfW true a).2 (halfW true b).2 = P at *
  generalize belowX true = bl at *
  rw [ha] at X1
  rw [hb] at X2
  rw [show szI true = 64 from rfl] at X6 X7 X10
  clear ha hb ha' hb' ho eT
  rw [show halfW true a = a from rfl] at X6 X8
  rw [show halfW true b = b from rfl] at X6 X8
  clear X4 X5
  obtain ⟨⟨v, m⟩, l, h⟩ := a
  obtain ⟨⟨v', m'⟩, l', h'⟩ := b
  cases o
  · rw [show (none : Option Sc).isSome = false from rfl, show optS (none) = sc0 from rfl] at X9
    rw [show (none : Option Sc).getD bl = bl from rfl]
    unfold sv at X1 X2 X6 X9 X10 ⊢
    unfold tv at X6 X7 X8 X9
    dsimp only at X1 X2 X3 X6 X7 X8 X9 X10 ⊢
    replace X1 := hid X1
    replace X2 := hid X2
    replace X3 := hid X3
    replace X6 := hid X6
    replace X7 := hid X7
    replace X8 := hid X8
    replace X9 := hid X9
    replace X10 := hid X10
    go_enter Tryz.func31, Tryz.ntmps31
    go_wp2_with fail
    refine (X1.out _).mono ?_
    rintro e w1 ⟨rfl, z⟩
    have JX : SC w1 (w.heap.size) (((v, m), l, h)) := (((SC.new rfl).alloc _).alloc _).below z
    have JY : SC w1 (w.heap.size + 1) (((v', m'), l', h')) := ((SC.new (by simp)).alloc _).below z
    have JR : SC w1 (w.heap.size + 1 + 1) (sc0) := (SC.new (by simp)).below z
    have B := below_next (bel_alloc (bel_alloc (bel_alloc (Below.refl w.heap.size w)))) z
    clear z
    obtain ⟨JXl, JX0, JX1, JX2, JX3⟩ := JX.k
    obtain ⟨JYl, JY0, JY1, JY2, JY3⟩ := JY.k
    obtain ⟨JRl, JR0, JR1, JR2, JR3, JRf0, JRf1, JRf2, JRf3⟩ := id JR
    have lb := B.size
    go_wp2_with fail
    refine (X2.out _).mono ?_
    rintro e w2 ⟨rfl, z⟩
    clear JX0 JX1 JX2 JX3 JXl JY0 JY1 JY2 JY3 JYl JR0 JR1 JR2 JR3 JRl JRf0 JRf1 JRf2 JRf3 lb
    replace JX := JX.below z
    replace JY := JY.below z
    replace JR := JR.below z
    replace B := below_next B z
    clear z
    obtain ⟨JXl, JX0, JX1, JX2, JX3⟩ := JX.k
    obtain ⟨JYl, JY0, JY1, JY2, JY3⟩ := JY.k
    obtain ⟨JRl, JR0, JR1, JR2, JR3, JRf0, JRf1, JRf2, JRf3⟩ := id JR
    have lb := B.size
    go_wp2_with fail
    refine (X3.out _).mono ?_
    rintro e w3 ⟨rfl, z⟩
    clear JX0 JX1 JX2 JX3 JXl JY0 JY1 JY2 JY3 JYl JR0 JR1 JR2 JR3 JRl JRf0 JRf1 JRf2 JRf3 lb
    replace JX := JX.below z
    replace JY := JY.below z
    replace JR := JR.below z
    replace B := below_next B z
    clear z
    obtain ⟨JXl, JX0, JX1, JX2, JX3⟩ := JX.k
    obtain ⟨JYl, JY0, JY1, JY2, JY3⟩ := JY.k
    obtain ⟨JRl, JR0, JR1, JR2, JR3, JRf0, JRf1, JRf2, JRf3⟩ := id JR
    have lb := B.size
    go_wp2_with fail
    refine (X6.out _).mono ?_
    rintro e w4 ⟨rfl, z⟩
    clear JX0 JX1 JX2 JX3 JXl JY0 JY1 JY2 JY3 JYl JR0 JR1 JR2 JR3 JRl JRf0 JRf1 JRf2 JRf3 lb
    replace JX := JX.below z
    replace JY := JY.below z
    replace JR := JR.below z
    replace B := below_next B z
    clear z
    obtain ⟨JXl, JX0, JX1, JX2, JX3⟩ := JX.k
    obtain ⟨JYl, JY0, JY1, JY2, JY3⟩ := JY.k
    obtain ⟨JRl, JR0, JR1, JR2, JR3, JRf0, JRf1, JRf2, JRf3⟩ := id JR
    have lb := B.size
    go_wp2_with fail
    refine (X7.out _).mono ?_
    rintro e w5 ⟨rfl, z⟩
    clear JX0 JX1 JX2 JX3 JXl JY0 JY1 JY2 JY3 JYl JR0 JR1 JR2 JR3 JRl JRf0 JRf1 JRf2 JRf3 lb
    have g5JX : w.heap.size < w4.heap.size := JX.lt
    have g5JY : w.heap.size + 1 < w4.heap.size := JY.lt
    have g5JR : w.heap.size + 1 + 1 < w4.heap.size := JR.lt
    have g5B := B.size
    replace JX := (JX.alloc _).below z
    replace JY := (JY.alloc _).below z
    replace JR := (JR.alloc _).below z
    have JRT : BC w5 (w4.heap.size) (T) := (BC.new rfl).below z
    replace B := below_next (bel_alloc B) z
    clear z
    obtain ⟨JXl, JX0, JX1, JX2, JX3⟩ := JX.k
    obtain ⟨JYl, JY0, JY1, JY2, JY3⟩ := JY.k
    obtain ⟨JRl, JR0, JR1, JR2, JR3, JRf0, JRf1, JRf2, JRf3⟩ := id JR
    have JRT0 := JRT.c0
    have JRT1 := JRT.c1
    have JRTl := JRT.lt
    have JRTf0 := JRT.f0
    have JRTf1 := JRT.f1
    have lb := B.size
    go_wp2_with fail
    refine (X8.out _).mono ?_
    rintro e w6 ⟨rfl, z⟩
    clear JX0 JX1 JX2 JX3 JXl JY0 JY1 JY2 JY3 JYl JR0 JR1 JR2 JR3 JRl JRf0 JRf1 JRf2 JRf3 JRT0 JRT1 JRTl JRTf0 JRTf1 lb
    have lb := B.size
    have JXl := JX.lt
    have JYl := JY.lt
    have JRl := JR.lt
    have JRTl := JRT.lt
    have JXx := JX.other2 (c := w4.heap.size) (by omega) (T')
    have JYx := JY.other2 (c := w4.heap.size) (by omega) (T')
    have JRx := JR.other2 (c := w4.heap.size) (by omega) (T')
    have Bx := put2_below (T') B (by omega : w.heap.size ≤ w4.heap.size)
    replace JRT := JRT.put (T')
    clear lb JXl JYl JRl JRTl B JX JY JR
    have B := Bx
    clear Bx
    have JX := JXx
    clear JXx
    have JY := JYx
    clear JYx
    have JR := JRx
    clear JRx
    replace JX := JX.below z
    replace JY := JY.below z
    replace JR := JR.below z
    replace JRT := JRT.below z
    replace B := below_next B z
    clear z
    obtain ⟨JXl, JX0, JX1, JX2, JX3⟩ := JX.k
    obtain ⟨JYl, JY0, JY1, JY2, JY3⟩ := JY.k
    obtain ⟨JRl, JR0, JR1, JR2, JR3, JRf0, JRf1, JRf2, JRf3⟩ := id JR
    have JRT0 := JRT.c0
    have JRT1 := JRT.c1
    have JRTl := JRT.lt
    have JRTf0 := JRT.f0
    have JRTf1 := JRT.f1
    have lb := B.size
    go_wp2_with fail
    refine (X9.out _).mono ?_
    rintro e w7 ⟨rfl, z⟩
    clear JX0 JX1 JX2 JX3 JXl JY0 JY1 JY2 JY3 JYl JR0 JR1 JR2 JR3 JRl JRf0 JRf1 JRf2 JRf3 JRT0 JRT1 JRTl JRTf0 JRTf1 lb
    have g7JX : w.heap.size < w6.heap.size := JX.lt
    have g7JY : w.heap.size + 1 < w6.heap.size := JY.lt
    have g7JR : w.heap.size + 1 + 1 < w6.heap.size := JR.lt
    have g7JRT : w4.heap.size < w6.heap.size := JRT.lt
    have g7B := B.size
    replace JX := (JX.alloc _).below z
    replace JY := (JY.alloc _).below z
    replace JR := (JR.alloc _).below z
    replace JRT := (JRT.alloc _).below z
    have JP : BC w7 (w6.heap.size) (P) := (BC.new rfl).below z
    replace B := below_next (bel_alloc B) z
    clear z
    obtain ⟨JXl, JX0, JX1, JX2, JX3⟩ := JX.k
    obtain ⟨JYl, JY0, JY1, JY2, JY3⟩ := JY.k
    obtain ⟨JRl, JR0, JR1, JR2, JR3, JRf0, JRf1, JRf2, JRf3⟩ := id JR
    have JRT0 := JRT.c0
    have JRT1 := JRT.c1
    have JRTl := JRT.lt
    have JRTf0 := JRT.f0
    have JRTf1 := JRT.f1
    have JP0 := JP.c0
    have JP1 := JP.c1
    have JPl := JP.lt
    have lb := B.size
    go_wp2_with fail
    refine (X10.out _).mono ?_
    rintro e w8 ⟨rfl, z⟩
    clear JX0 JX1 JX2 JX3 JXl JY0 JY1 JY2 JY3 JYl JR0 JR1 JR2 JR3 JRl JRf0 JRf1 JRf2 JRf3 JRT0 JRT1 JRTl JRTf0 JRTf1 JP0 JP1 JPl lb
    have g8JX : w.heap.size < w7.heap.size := JX.lt
    have g8JY : w.heap.size + 1 < w7.heap.size := JY.lt
    have g8JR : w.heap.size + 1 + 1 < w7.heap.size := JR.lt
    have g8JRT : w4.heap.size < w7.heap.size := JRT.lt
    have g8JP : w6.heap.size < w7.heap.size := JP.lt
    have g8B := B.size
    replace JX := (JX.alloc _).below z
    replace JY := (JY.alloc _).below z
    replace JR := (JR.alloc _).below z
    replace JRT := (JRT.alloc _).below z
    replace JP := (JP.alloc _).below z
    have JZ : SC w8 (w7.heap.size) (sc0) := (SC.new rfl).below z
    replace B := below_next (bel_alloc B) z
    clear z
    obtain ⟨JXl, JX0, JX1, JX2, JX3⟩ := JX.k
    obtain ⟨JYl, JY0, JY1, JY2, JY3⟩ := JY.k
    obtain ⟨JRl, JR0, JR1, JR2, JR3, JRf0, JRf1, JRf2, JRf3⟩ := id JR
    have JRT0 := JRT.c0
    have JRT1 := JRT.c1
    have JRTl := JRT.lt
    have JRTf0 := JRT.f0
    have JRTf1 := JRT.f1
    have JP0 := JP.c0
    have JP1 := JP.c1
    have JPl := JP.lt
    obtain ⟨JZl, JZ0, JZ1, JZ2, JZ3⟩ := JZ.k
    have lb := B.size
    go_wp2
    exact bodyPost_ret (v := .tuple #[sv bl, .int .i64 0]) (by simp [results, Tryz.results31, go_sem, JX0, JX1, JX2, JX3, JXl, JY0, JY1, JY2, JY3, JYl, JR0, JR1, JR2, JR3, JRl, JRT0, JRT1, JRTl, JP0, JP1, JPl, JZ0, JZ1, JZ2, JZ3, JZl]; try rfl) rfl ⟨rfl, putS_below bl B (by omega)⟩
  · rename_i z
    rw [show (some z : Option Sc).isSome = true from rfl, show optS (some z) = z from rfl] at X9
    rw [show (some z : Option Sc).getD bl = z from rfl]
    clear X10
    unfold sv at X1 X2 X6 X9 ⊢
    unfold tv at X6 X7 X8 X9
    dsimp only at X1 X2 X3 X6 X7 X8 X9 ⊢
    replace X1 := hid X1
    replace X2 := hid X2
    replace X3 := hid X3
    replace X6 := hid X6
    replace X7 := hid X7
    replace X8 := hid X8
    replace X9 := hid X9
    go_enter Tryz.func31, Tryz.ntmps31
    go_wp2_with fail
    refine (X1.out _).mono ?_
    rintro e w1 ⟨rfl, z⟩
    have JX : SC w1 (w.heap.size) (((v, m), l, h)) := (((SC.new rfl).alloc _).alloc _).below z
    have JY : SC w1 (w.heap.size + 1) (((v', m'), l', h')) := ((SC.new (by simp)).alloc _).below z
    have JR : SC w1 (w.heap.size + 1 + 1) (sc0) := (SC.new (by simp)).below z
    have B := below_next (bel_alloc (bel_alloc (bel_alloc (Below.refl w.heap.size w)))) z
    clear z
    obtain ⟨JXl, JX0, JX1, JX2, JX3⟩ := JX.k
    obtain ⟨JYl, JY0, JY1, JY2, JY3⟩ := JY.k
    obtain ⟨JRl, JR0, JR1, JR2, JR3, JRf0, JRf1, JRf2, JRf3⟩ := id JR
    have lb := B.size
    go_wp2_with fail
    refine (X2.out _).mono ?_
    rintro e w2 ⟨rfl, z⟩
    clear JX0 JX1 JX2 JX3 JXl JY0 JY1 JY2 JY3 JYl JR0 JR1 JR2 JR3 JRl JRf0 JRf1 JRf2 JRf3 lb
    replace JX := JX.below z
    replace JY := JY.below z
    replace JR := JR.below z
    replace B := below_next B z
    clear z
    obtain ⟨JXl, JX0, JX1, JX2, JX3⟩ := JX.k
    obtain ⟨JYl, JY0, JY1, JY2, JY3⟩ := JY.k
    obtain ⟨JRl, JR0, JR1, JR2, JR3, JRf0, JRf1, JRf2, JRf3⟩ := id JR
    have lb := B.size
    go_wp2_with fail
    refine (X3.out _).mono ?_
    rintro e w3 ⟨rfl, z⟩
    clear JX0 JX1 JX2 JX3 JXl JY0 JY1 JY2 JY3 JYl JR0 JR1 JR2 JR3 JRl JRf0 JRf1 JRf2 JRf3 lb
    replace JX := JX.below z
    replace JY := JY.below z
    replace JR := JR.below z
    replace B := below_next B z
    clear z
    obtain ⟨JXl, JX0, JX1, JX2, JX3⟩ := JX.k
    obtain ⟨JYl, JY0, JY1, JY2, JY3⟩ := JY.k
    obtain ⟨JRl, JR0, JR1, JR2, JR3, JRf0, JRf1, JRf2, JRf3⟩ := id JR
    have lb := B.size
    go_wp2_with fail
    refine (X6.out _).mono ?_
    rintro e w4 ⟨rfl, z⟩
    clear JX0 JX1 JX2 JX3 JXl JY0 JY1 JY2 JY3 JYl JR0 JR1 JR2 JR3 JRl JRf0 JRf1 JRf2 JRf3 lb
    replace JX := JX.below z
    replace JY := JY.below z
    replace JR := JR.below z
    replace B := below_next B z
    clear z
    obtain ⟨JXl, JX0, JX1, JX2, JX3⟩ := JX.k
    obtain ⟨JYl, JY0, JY1, JY2, JY3⟩ := JY.k
    obtain ⟨JRl, JR0, JR1, JR2, JR3, JRf0, JRf1, JRf2, JRf3⟩ := id JR
    have lb := B.size
    go_wp2_with fail
    refine (X7.out _).mono ?_
    rintro e w5 ⟨rfl, z⟩
    clear JX0 JX1 JX2 JX3 JXl JY0 JY1 JY2 JY3 JYl JR0 JR1 JR2 JR3 JRl JRf0 JRf1 JRf2 JRf3 lb
    have g5JX : w.heap.size < w4.heap.size := JX.lt
    have g5JY : w.heap.size + 1 < w4.heap.size := JY.lt
    have g5JR : w.heap.size + 1 + 1 < w4.heap.size := JR.lt
    have g5B := B.size
    replace JX := (JX.alloc _).below z
    replace JY := (JY.alloc _).below z
    replace JR := (JR.alloc _).below z
    have JRT : BC w5 (w4.heap.size) (T) := (BC.new rfl).below z
    replace B := below_next (bel_alloc B) z
    clear z
    obtain ⟨JXl, JX0, JX1, JX2, JX3⟩ := JX.k
    obtain ⟨JYl, JY0, JY1, JY2, JY3⟩ := JY.k
    obtain ⟨JRl, JR0, JR1, JR2, JR3, JRf0, JRf1, JRf2, JRf3⟩ := id JR
    have JRT0 := JRT.c0
    have JRT1 := JRT.c1
    have JRTl := JRT.lt
    have JRTf0 := JRT.f0
    have JRTf1 := JRT.f1
    have lb := B.size
    go_wp2_with fail
    refine (X8.out _).mono ?_
    rintro e w6 ⟨rfl, z⟩
    clear JX0 JX1 JX2 JX3 JXl JY0 JY1 JY2 JY3 JYl JR0 JR1 JR2 JR3 JRl JRf0 JRf1 JRf2 JRf3 JRT0 JRT1 JRTl JRTf0 JRTf1 lb
    have lb := B.size
    have JXl := JX.lt
    have JYl := JY.lt
    have JRl := JR.lt
    have JRTl := JRT.lt
    have JXx := JX.other2 (c := w4.heap.size) (by omega) (T')
    have JYx := JY.other2 (c := w4.heap.size) (by omega) (T')
    have JRx := JR.other2 (c := w4.heap.size) (by omega) (T')
    have Bx := put2_below (T') B (by omega : w.heap.size ≤ w4.heap.size)
    replace JRT := JRT.put (T')
    clear lb JXl JYl JRl JRTl B JX JY JR
    have B := Bx
    clear Bx
    have JX := JXx
    clear JXx
    have JY := JYx
    clear JYx
    have JR := JRx
    clear JRx
    replace JX := JX.below z
    replace JY := JY.below z
    replace JR := JR.below z
    replace JRT := JRT.below z
    replace B := below_next B z
    clear z
    obtain ⟨JXl, JX0, JX1, JX2, JX3⟩ := JX.k
    obtain ⟨JYl, JY0, JY1, JY2, JY3⟩ := JY.k
    obtain ⟨JRl, JR0, JR1, JR2, JR3, JRf0, JRf1, JRf2, JRf3⟩ := id JR
    have JRT0 := JRT.c0
    have JRT1 := JRT.c1
    have JRTl := JRT.lt
    have JRTf0 := JRT.f0
    have JRTf1 := JRT.f1
    have lb := B.size
    go_wp2_with fail
    refine (X9.out _).mono ?_
    rintro e w7 ⟨rfl, z⟩
    clear JX0 JX1 JX2 JX3 JXl JY0 JY1 JY2 JY3 JYl JR0 JR1 JR2 JR3 JRl JRf0 JRf1 JRf2 JRf3 JRT0 JRT1 JRTl JRTf0 JRTf1 lb
    have g7JX : w.heap.size < w6.heap.size := JX.lt
    have g7JY : w.heap.size + 1 < w6.heap.size := JY.lt
    have g7JR : w.heap.size + 1 + 1 < w6.heap.size := JR.lt
    have g7JRT : w4.heap.size < w6.heap.size := JRT.lt
    have g7B := B.size
    replace JX := (JX.alloc _).below z
    replace JY := (JY.alloc _).below z
    replace JR := (JR.alloc _).below z
    replace JRT := (JRT.alloc _).below z
    have JP : BC w7 (w6.heap.size) (P) := (BC.new rfl).below z
    replace B := below_next (bel_alloc B) z
    clear z
    obtain ⟨JXl, JX0, JX1, JX2, JX3⟩ := JX.k
    obtain ⟨JYl, JY0, JY1, JY2, JY3⟩ := JY.k
    obtain ⟨JRl, JR0, JR1, JR2, JR3, JRf0, JRf1, JRf2, JRf3⟩ := id JR
    have JRT0 := JRT.c0
    have JRT1 := JRT.c1
    have JRTl := JRT.lt
    have JRTf0 := JRT.f0
    have JRTf1 := JRT.f1
    have JP0 := JP.c0
    have JP1 := JP.c1
    have JPl := JP.lt
    have lb := B.size
    go_wp2
    exact bodyPost_ret (v := .tuple #[sv z, .int .i64 0]) (by simp [results, Tryz.results31, go_sem, JX0, JX1, JX2, JX3, JXl, JY0, JY1, JY2, JY3, JYl, JR0, JR1, JR2, JR3, JRl, JRT0, JRT1, JRTl, JP0, JP1, JPl]; try rfl) rfl ⟨rfl, bel_alloc (putS_below z B (by omega))⟩
set_option maxHeartbeats 4000000 in
theorem cAlu_false (op : Int) (a b : Sc) (ha : mayX a = true) (hb : mayX b = true) (ho : opIs op) (w : World) : Calls Tryz.prog 31 #[.int .i64 op, .bool false, sv a, sv b] w fun e w' => e = .returned (.tuple #[sv (scAluT op false a b), .int .i64 (scAluE op a b)]) ∧ Below w.heap.size w w' := by
  rw [show scAluT op false a b = (settle (rawX op false a b)).getD (belowX false) from if_pos ⟨⟨ha, hb⟩, ho⟩, show scAluE op a b = 0 from (if_pos ⟨ha, hb⟩).trans (if_pos ho)]
  have ha' := halfW_may false ha
  have hb' := halfW_may false hb
  have X1 := fun W => cMay_any a W
  have X2 := fun W => cMay_any b W
  have X3 := fun W => Wd.alu_any op false 0 0 W (by decide) (by decide) (by decide) (by decide)
  have X4 := fun W => cHalf_any a (mayX_parts ha).1 W
  have X5 := fun W => cHalf_any b (mayX_parts hb).1 W
  have X6 := fun W => cBits_any op false (halfW false a) (halfW false b) (mayX_parts ha').1 (mayX_parts hb').1 W
  have X7 := fun W => tCut_any (bitsX op false (halfW false a) (halfW false b)) (szI false) W
  have X8 := fun W => sAlu_any op false (halfW false a).2 (halfW false b).2 W
  have X9 := fun W => cSettle_any (lowT (bitsX op false (halfW false a) (halfW false b)) (sizeW false)) (aluT op false (halfW false a).2 (halfW false b).2) W
  have X10 := fun W => cBelow_any (szI false) W
  rw [show belowI (szI false) = belowX false from below32] at X10
  have eT : cutT (bitsX op false (halfW false a) (halfW false b)) (szI false) = lowT (bitsX op false (halfW false a) (halfW false b)) (sizeW false) := (if_pos rfl).trans (if_pos (bitsX_may op false (mayX_parts ha').1 (mayX_parts hb').1))
  rw [eT] at X7
  rw [show (lowT (bitsX op false (halfW false a) (halfW false b)) (sizeW false), aluT op false (halfW false a).2 (halfW false b).2) = rawX op false a b from rfl] at X9
  rw [show Wd.aluE op = 0 from if_pos ho] at X3
  generalize Wd.aluI op false 0 0 = N at X3
  generalize cutE (bitsX op false (halfW false a) (halfW false b)) (szI false) = E7 at X7
  generalize aluE op (halfW false a).2 (halfW false b).2 = E8 at X8
  generalize settle (rawX op false a b) = o at *
  generalize lowT (bitsX op false (halfW false a) (halfW false b)) (sizeW false) = T' at *
  generalize bitsX op false (halfW false a) (halfW false b) = T at *
  generalize aluT op false (halfW false a).2 (halfW false b).2 = P at *
  generalize belowX false = bl at *
  rw [ha] at X1
  rw [hb] at X2
  rw [show szI false = 32 from rfl] at X6 X7 X10
  clear ha hb ha' hb' ho eT
  rw [show halfW false a = halfX a from rfl] at X6 X8
  rw [show halfW false b = halfX b from rfl] at X6 X8
  generalize halfX a = A at *
  generalize halfX b = D at *
  obtain ⟨⟨v, m⟩, l, h⟩ := a
  obtain ⟨⟨v', m'⟩, l', h'⟩ := b
  cases o
  · rw [show (none : Option Sc).isSome = false from rfl, show optS (none) = sc0 from rfl] at X9
    rw [show (none : Option Sc).getD bl = bl from rfl]
    unfold sv at X1 X2 X4 X5 X6 X9 X10 ⊢
    unfold tv at X6 X7 X8 X9
    dsimp only at X1 X2 X3 X6 X7 X8 X9 X10 X4 X5 ⊢
    replace X1 := hid X1
    replace X2 := hid X2
    replace X3 := hid X3
    replace X6 := hid X6
    replace X7 := hid X7
    replace X8 := hid X8
    replace X9 := hid X9
    replace X10 := hid X10
    replace X4 := hid X4
    replace X5 := hid X5
    go_enter Tryz.func31, Tryz.ntmps31
    go_wp2_with fail
    refine (X1.out _).mono ?_
    rintro e w1 ⟨rfl, z⟩
    have JX : SC w1 (w.heap.size) (((v, m), l, h)) := (((SC.new rfl).alloc _).alloc _).below z
    have JY : SC w1 (w.heap.size + 1) (((v', m'), l', h')) := ((SC.new (by simp)).alloc _).below z
    have JR : SC w1 (w.heap.size + 1 + 1) (sc0) := (SC.new (by simp)).below z
    have B := below_next (bel_alloc (bel_alloc (bel_alloc (Below.refl w.heap.size w)))) z
    clear z
    obtain ⟨JXl, JX0, JX1, JX2, JX3⟩ := JX.k
    obtain ⟨JYl, JY0, JY1, JY2, JY3⟩ := JY.k
    obtain ⟨JRl, JR0, JR1, JR2, JR3, JRf0, JRf1, JRf2, JRf3⟩ := id JR
    have lb := B.size
    go_wp2_with fail
    refine (X2.out _).mono ?_
    rintro e w2 ⟨rfl, z⟩
    clear JX0 JX1 JX2 JX3 JXl JY0 JY1 JY2 JY3 JYl JR0 JR1 JR2 JR3 JRl JRf0 JRf1 JRf2 JRf3 lb
    replace JX := JX.below z
    replace JY := JY.below z
    replace JR := JR.below z
    replace B := below_next B z
    clear z
    obtain ⟨JXl, JX0, JX1, JX2, JX3⟩ := JX.k
    obtain ⟨JYl, JY0, JY1, JY2, JY3⟩ := JY.k
    obtain ⟨JRl, JR0, JR1, JR2, JR3, JRf0, JRf1, JRf2, JRf3⟩ := id JR
    have lb := B.size
    go_wp2_with fail
    refine (X3.out _).mono ?_
    rintro e w3 ⟨rfl, z⟩
    clear JX0 JX1 JX2 JX3 JXl JY0 JY1 JY2 JY3 JYl JR0 JR1 JR2 JR3 JRl JRf0 JRf1 JRf2 JRf3 lb
    replace JX := JX.below z
    replace JY := JY.below z
    replace JR := JR.below z
    replace B := below_next B z
    clear z
    obtain ⟨JXl, JX0, JX1, JX2, JX3⟩ := JX.k
    obtain ⟨JYl, JY0, JY1, JY2, JY3⟩ := JY.k
    obtain ⟨JRl, JR0, JR1, JR2, JR3, JRf0, JRf1, JRf2, JRf3⟩ := id JR
    have lb := B.size
    go_wp2_with fail
    clear JX0 JX1 JX2 JX3 JXl JY0 JY1 JY2 JY3 JYl JR0 JR1 JR2 JR3 JRl JRf0 JRf1 JRf2 JRf3 lb
    replace JX := JX.below (below_dr w3)
    replace JY := JY.below (below_dr w3)
    replace JR := JR.below (below_dr w3)
    replace B := below_next B (below_dr w3)
    obtain ⟨al, a0, a1, a2, a3⟩ := JX.k
    have b0 := JY.c0
    have b1 := JY.c1
    have b2 := JY.c2
    have b3 := JY.c3
    have bl' := JY.lt
    apply cutF (F := fun W' => SC W' w.heap.size A ∧ SC W' (w.heap.size + 1) D ∧ SC W' (w.heap.size + 1 + 1) sc0 ∧ Below w.heap.size w W')
    · go_region_law (first
        | (go_simp; go_at_call 70; (with_reducible refine (X4.out _).mono ?_); rintro e wq ⟨rfl, bq⟩; have JXq := JX.below bq; have JYq := JY.below bq; have cq0 := JXq.c0; have cq1 := JXq.c1; have cq2 := JXq.c2; have cq3 := JXq.c3; have cql := JXq.lt; have dq0 := JYq.c0; have dq1 := JYq.c1; have dq2 := JYq.c2; have dq3 := JYq.c3; have dql := JYq.lt)
        | (go_simp; go_at_call 70; (with_reducible refine (X5.out _).mono ?_); rintro e ws ⟨rfl, bs⟩; have JXs := JXq.below bs; have JYs := JYq.below bs; have cs0 := JXs.c0; have cs1 := JXs.c1; have cs2 := JXs.c2; have cs3 := JXs.c3; have csl := JXs.lt; have ds0 := JYs.c0; have ds1 := JYs.c1; have ds2 := JYs.c2; have ds3 := JYs.c3; have dsl := JYs.lt; have csf0 := JXs.f0; have csf1 := JXs.f1; have csf2 := JXs.f2; have csf3 := JXs.f3; have dsf0 := JYs.f0; have dsf1 := JYs.f1; have dsf2 := JYs.f2; have dsf3 := JYs.f3))
      all_goals
        have JRs := (JR.below bq).below bs
        have Bs := below_next (below_next B bq) bs
        exact ⟨⟨(JXs.put A).other (by omega) D, (JYs.other (by omega) A).put D, (JRs.other (by omega) A).other (by omega) D, putS_below D (putS_below A Bs (by omega)) (by omega)⟩, rfl⟩
    intro W8 ⟨JX8, JY8, JR8, B8⟩
    clear JX JY JR B a0 a1 a2 a3 al b0 b1 b2 b3 bl'
    have JX := JX8
    have JY := JY8
    have JR := JR8
    have B := B8
    clear JX8 JY8 JR8 B8
    obtain ⟨JXl, JX0, JX1, JX2, JX3⟩ := JX.k
    obtain ⟨JYl, JY0, JY1, JY2, JY3⟩ := JY.k
    obtain ⟨JRl, JR0, JR1, JR2, JR3, JRf0, JRf1, JRf2, JRf3⟩ := id JR
    have lb := B.size
    go_wp2_with fail
    refine (X6.out _).mono ?_
    rintro e w4 ⟨rfl, z⟩
    clear JX0 JX1 JX2 JX3 JXl JY0 JY1 JY2 JY3 JYl JR0 JR1 JR2 JR3 JRl JRf0 JRf1 JRf2 JRf3 lb
    replace JX := JX.below z
    replace JY := JY.below z
    replace JR := JR.below z
    replace B := below_next B z
    clear z
    obtain ⟨JXl, JX0, JX1, JX2, JX3⟩ := JX.k
    obtain ⟨JYl, JY0, JY1, JY2, JY3⟩ := JY.k
    obtain ⟨JRl, JR0, JR1, JR2, JR3, JRf0, JRf1, JRf2, JRf3⟩ := id JR
    have lb := B.size
    go_wp2_with fail
    refine (X7.out _).mono ?_
    rintro e w5 ⟨rfl, z⟩
    clear JX0 JX1 JX2 JX3 JXl JY0 JY1 JY2 JY3 JYl JR0 JR1 JR2 JR3 JRl JRf0 JRf1 JRf2 JRf3 lb
    have g5JX : w.heap.size < w4.heap.size := JX.lt
    have g5JY : w.heap.size + 1 < w4.heap.size := JY.lt
    have g5JR : w.heap.size + 1 + 1 < w4.heap.size := JR.lt
    have g5B := B.size
    replace JX := (JX.alloc _).below z
    replace JY := (JY.alloc _).below z
    replace JR := (JR.alloc _).below z
    have JRT : BC w5 (w4.heap.size) (T) := (BC.new rfl).below z
    replace B := below_next (bel_alloc B) z
    clear z
    obtain ⟨JXl, JX0, JX1, JX2, JX3⟩ := JX.k
    obtain ⟨JYl, JY0, JY1, JY2, JY3⟩ := JY.k
    obtain ⟨JRl, JR0, JR1, JR2, JR3, JRf0, JRf1, JRf2, JRf3⟩ := id JR
    have JRT0 := JRT.c0
    have JRT1 := JRT.c1
    have JRTl := JRT.lt
    have JRTf0 := JRT.f0
    have JRTf1 := JRT.f1
    have lb := B.size
    go_wp2_with fail
    refine (X8.out _).mono ?_
    rintro e w6 ⟨rfl, z⟩
    clear JX0 JX1 JX2 JX3 JXl JY0 JY1 JY2 JY3 JYl JR0 JR1 JR2 JR3 JRl JRf0 JRf1 JRf2 JRf3 JRT0 JRT1 JRTl JRTf0 JRTf1 lb
    have lb := B.size
    have JXl := JX.lt
    have JYl := JY.lt
    have JRl := JR.lt
    have JRTl := JRT.lt
    have JXx := JX.other2 (c := w4.heap.size) (by omega) (T')
    have JYx := JY.other2 (c := w4.heap.size) (by omega) (T')
    have JRx := JR.other2 (c := w4.heap.size) (by omega) (T')
    have Bx := put2_below (T') B (by omega : w.heap.size ≤ w4.heap.size)
    replace JRT := JRT.put (T')
    clear lb JXl JYl JRl JRTl B JX JY JR
    have B := Bx
    clear Bx
    have JX := JXx
    clear JXx
    have JY := JYx
    clear JYx
    have JR := JRx
    clear JRx
    replace JX := JX.below z
    replace JY := JY.below z
    replace JR := JR.below z
    replace JRT := JRT.below z
    replace B := below_next B z
    clear z
    obtain ⟨JXl, JX0, JX1, JX2, JX3⟩ := JX.k
    obtain ⟨JYl, JY0, JY1, JY2, JY3⟩ := JY.k
    obtain ⟨JRl, JR0, JR1, JR2, JR3, JRf0, JRf1, JRf2, JRf3⟩ := id JR
    have JRT0 := JRT.c0
    have JRT1 := JRT.c1
    have JRTl := JRT.lt
    have JRTf0 := JRT.f0
    have JRTf1 := JRT.f1
    have lb := B.size
    go_wp2_with fail
    refine (X9.out _).mono ?_
    rintro e w7 ⟨rfl, z⟩
    clear JX0 JX1 JX2 JX3 JXl JY0 JY1 JY2 JY3 JYl JR0 JR1 JR2 JR3 JRl JRf0 JRf1 JRf2 JRf3 JRT0 JRT1 JRTl JRTf0 JRTf1 lb
    have g7JX : w.heap.size < w6.heap.size := JX.lt
    have g7JY : w.heap.size + 1 < w6.heap.size := JY.lt
    have g7JR : w.heap.size + 1 + 1 < w6.heap.size := JR.lt
    have g7JRT : w4.heap.size < w6.heap.size := JRT.lt
    have g7B := B.size
    replace JX := (JX.alloc _).below z
    replace JY := (JY.alloc _).below z
    replace JR := (JR.alloc _).below z
    replace JRT := (JRT.alloc _).below z
    have JP : BC w7 (w6.heap.size) (P) := (BC.new rfl).below z
    replace B := below_next (bel_alloc B) z
    clear z
    obtain ⟨JXl, JX0, JX1, JX2, JX3⟩ := JX.k
    obtain ⟨JYl, JY0, JY1, JY2, JY3⟩ := JY.k
    obtain ⟨JRl, JR0, JR1, JR2, JR3, JRf0, JRf1, JRf2, JRf3⟩ := id JR
    have JRT0 := JRT.c0
    have JRT1 := JRT.c1
    have JRTl := JRT.lt
    have JRTf0 := JRT.f0
    have JRTf1 := JRT.f1
    have JP0 := JP.c0
    have JP1 := JP.c1
    have JPl := JP.lt
    have lb := B.size
    go_wp2_with fail
    refine (X10.out _).mono ?_
    rintro e w8 ⟨rfl, z⟩
    clear JX0 JX1 JX2 JX3 JXl JY0 JY1 JY2 JY3 JYl JR0 JR1 JR2 JR3 JRl JRf0 JRf1 JRf2 JRf3 JRT0 JRT1 JRTl JRTf0 JRTf1 JP0 JP1 JPl lb
    have g8JX : w.heap.size < w7.heap.size := JX.lt
    have g8JY : w.heap.size + 1 < w7.heap.size := JY.lt
    have g8JR : w.heap.size + 1 + 1 < w7.heap.size := JR.lt
    have g8JRT : w4.heap.size < w7.heap.size := JRT.lt
    have g8JP : w6.heap.size < w7.heap.size := JP.lt
    have g8B := B.size
    replace JX := (JX.alloc _).below z
    replace JY := (JY.alloc _).below z
    replace JR := (JR.alloc _).below z
    replace JRT := (JRT.alloc _).below z
    replace JP := (JP.alloc _).below z
    have JZ : SC w8 (w7.heap.size) (sc0) := (SC.new rfl).below z
    replace B := below_next (bel_alloc B) z
    clear z
    obtain ⟨JXl, JX0, JX1, JX2, JX3⟩ := JX.k
    obtain ⟨JYl, JY0, JY1, JY2, JY3⟩ := JY.k
    obtain ⟨JRl, JR0, JR1, JR2, JR3, JRf0, JRf1, JRf2, JRf3⟩ := id JR
    have JRT0 := JRT.c0
    have JRT1 := JRT.c1
    have JRTl := JRT.lt
    have JRTf0 := JRT.f0
    have JRTf1 := JRT.f1
    have JP0 := JP.c0
    have JP1 := JP.c1
    have JPl := JP.lt
    obtain ⟨JZl, JZ0, JZ1, JZ2, JZ3⟩ := JZ.k
    have lb := B.size
    go_wp2
    exact bodyPost_ret (v := .tuple #[sv bl, .int .i64 0]) (by simp [results, Tryz.results31, go_sem, JX0, JX1, JX2, JX3, JXl, JY0, JY1, JY2, JY3, JYl, JR0, JR1, JR2, JR3, JRl, JRT0, JRT1, JRTl, JP0, JP1, JPl, JZ0, JZ1, JZ2, JZ3, JZl]; try rfl) rfl ⟨rfl, putS_below bl B (by omega)⟩
  · rename_i z
    rw [show (some z : Option Sc).isSome = true from rfl, show optS (some z) = z from rfl] at X9
    rw [show (some z : Option Sc).getD bl = z from rfl]
    clear X10
    unfold sv at X1 X2 X4 X5 X6 X9 ⊢
    unfold tv at X6 X7 X8 X9
    dsimp only at X1 X2 X3 X6 X7 X8 X9 X4 X5 ⊢
    replace X1 := hid X1
    replace X2 := hid X2
    replace X3 := hid X3
    replace X6 := hid X6
    replace X7 := hid X7
    replace X8 := hid X8
    replace X9 := hid X9
    replace X4 := hid X4
    replace X5 := hid X5
    go_enter Tryz.func31, Tryz.ntmps31
    go_wp2_with fail
    refine (X1.out _).mono ?_
    rintro e w1 ⟨rfl, z⟩
    have JX : SC w1 (w.heap.size) (((v, m), l, h)) := (((SC.new rfl).alloc _).alloc _).below z
    have JY : SC w1 (w.heap.size + 1) (((v', m'), l', h')) := ((SC.new (by simp)).alloc _).below z
    have JR : SC w1 (w.heap.size + 1 + 1) (sc0) := (SC.new (by simp)).below z
    have B := below_next (bel_alloc (bel_alloc (bel_alloc (Below.refl w.heap.size w)))) z
    clear z
    obtain ⟨JXl, JX0, JX1, JX2, JX3⟩ := JX.k
    obtain ⟨JYl, JY0, JY1, JY2, JY3⟩ := JY.k
    obtain ⟨JRl, JR0, JR1, JR2, JR3, JRf0, JRf1, JRf2, JRf3⟩ := id JR
    have lb := B.size
    go_wp2_with fail
    refine (X2.out _).mono ?_
    rintro e w2 ⟨rfl, z⟩
    clear JX0 JX1 JX2 JX3 JXl JY0 JY1 JY2 JY3 JYl JR0 JR1 JR2 JR3 JRl JRf0 JRf1 JRf2 JRf3 lb
    replace JX := JX.below z
    replace JY := JY.below z
    replace JR := JR.below z
    replace B := below_next B z
    clear z
    obtain ⟨JXl, JX0, JX1, JX2, JX3⟩ := JX.k
    obtain ⟨JYl, JY0, JY1, JY2, JY3⟩ := JY.k
    obtain ⟨JRl, JR0, JR1, JR2, JR3, JRf0, JRf1, JRf2, JRf3⟩ := id JR
    have lb := B.size
    go_wp2_with fail
    refine (X3.out _).mono ?_
    rintro e w3 ⟨rfl, z⟩
    clear JX0 JX1 JX2 JX3 JXl JY0 JY1 JY2 JY3 JYl JR0 JR1 JR2 JR3 JRl JRf0 JRf1 JRf2 JRf3 lb
    replace JX := JX.below z
    replace JY := JY.below z
    replace JR := JR.below z
    replace B := below_next B z
    clear z
    obtain ⟨JXl, JX0, JX1, JX2, JX3⟩ := JX.k
    obtain ⟨JYl, JY0, JY1, JY2, JY3⟩ := JY.k
    obtain ⟨JRl, JR0, JR1, JR2, JR3, JRf0, JRf1, JRf2, JRf3⟩ := id JR
    have lb := B.size
    go_wp2_with fail
    clear JX0 JX1 JX2 JX3 JXl JY0 JY1 JY2 JY3 JYl JR0 JR1 JR2 JR3 JRl JRf0 JRf1 JRf2 JRf3 lb
    replace JX := JX.below (below_dr w3)
    replace JY := JY.below (below_dr w3)
    replace JR := JR.below (below_dr w3)
    replace B := below_next B (below_dr w3)
    obtain ⟨al, a0, a1, a2, a3⟩ := JX.k
    have b0 := JY.c0
    have b1 := JY.c1
    have b2 := JY.c2
    have b3 := JY.c3
    have bl' := JY.lt
    apply cutF (F := fun W' => SC W' w.heap.size A ∧ SC W' (w.heap.size + 1) D ∧ SC W' (w.heap.size + 1 + 1) sc0 ∧ Below w.heap.size w W')
    · go_region_law (first
        | (go_simp; go_at_call 70; (with_reducible refine (X4.out _).mono ?_); rintro e wq ⟨rfl, bq⟩; have JXq := JX.below bq; have JYq := JY.below bq; have cq0 := JXq.c0; have cq1 := JXq.c1; have cq2 := JXq.c2; have cq3 := JXq.c3; have cql := JXq.lt; have dq0 := JYq.c0; have dq1 := JYq.c1; have dq2 := JYq.c2; have dq3 := JYq.c3; have dql := JYq.lt)
        | (go_simp; go_at_call 70; (with_reducible refine (X5.out _).mono ?_); rintro e ws ⟨rfl, bs⟩; have JXs := JXq.below bs; have JYs := JYq.below bs; have cs0 := JXs.c0; have cs1 := JXs.c1; have cs2 := JXs.c2; have cs3 := JXs.c3; have csl := JXs.lt; have ds0 := JYs.c0; have ds1 := JYs.c1; have ds2 := JYs.c2; have ds3 := JYs.c3; have dsl := JYs.lt; have csf0 := JXs.f0; have csf1 := JXs.f1; have csf2 := JXs.f2; have csf3 := JXs.f3; have dsf0 := JYs.f0; have dsf1 := JYs.f1; have dsf2 := JYs.f2; have dsf3 := JYs.f3))
      all_goals
        have JRs := (JR.below bq).below bs
        have Bs := below_next (below_next B bq) bs
        exact ⟨⟨(JXs.put A).other (by omega) D, (JYs.other (by omega) A).put D, (JRs.other (by omega) A).other (by omega) D, putS_below D (putS_below A Bs (by omega)) (by omega)⟩, rfl⟩
    intro W8 ⟨JX8, JY8, JR8, B8⟩
    clear JX JY JR B a0 a1 a2 a3 al b0 b1 b2 b3 bl'
    have JX := JX8
    have JY := JY8
    have JR := JR8
    have B := B8
    clear JX8 JY8 JR8 B8
    obtain ⟨JXl, JX0, JX1, JX2, JX3⟩ := JX.k
    obtain ⟨JYl, JY0, JY1, JY2, JY3⟩ := JY.k
    obtain ⟨JRl, JR0, JR1, JR2, JR3, JRf0, JRf1, JRf2, JRf3⟩ := id JR
    have lb := B.size
    go_wp2_with fail
    refine (X6.out _).mono ?_
    rintro e w4 ⟨rfl, z⟩
    clear JX0 JX1 JX2 JX3 JXl JY0 JY1 JY2 JY3 JYl JR0 JR1 JR2 JR3 JRl JRf0 JRf1 JRf2 JRf3 lb
    replace JX := JX.below z
    replace JY := JY.below z
    replace JR := JR.below z
    replace B := below_next B z
    clear z
    obtain ⟨JXl, JX0, JX1, JX2, JX3⟩ := JX.k
    obtain ⟨JYl, JY0, JY1, JY2, JY3⟩ := JY.k
    obtain ⟨JRl, JR0, JR1, JR2, JR3, JRf0, JRf1, JRf2, JRf3⟩ := id JR
    have lb := B.size
    go_wp2_with fail
    refine (X7.out _).mono ?_
    rintro e w5 ⟨rfl, z⟩
    clear JX0 JX1 JX2 JX3 JXl JY0 JY1 JY2 JY3 JYl JR0 JR1 JR2 JR3 JRl JRf0 JRf1 JRf2 JRf3 lb
    have g5JX : w.heap.size < w4.heap.size := JX.lt
    have g5JY : w.heap.size + 1 < w4.heap.size := JY.lt
    have g5JR : w.heap.size + 1 + 1 < w4.heap.size := JR.lt
    have g5B := B.size
    replace JX := (JX.alloc _).below z
    replace JY := (JY.alloc _).below z
    replace JR := (JR.alloc _).below z
    have JRT : BC w5 (w4.heap.size) (T) := (BC.new rfl).below z
    replace B := below_next (bel_alloc B) z
    clear z
    obtain ⟨JXl, JX0, JX1, JX2, JX3⟩ := JX.k
    obtain ⟨JYl, JY0, JY1, JY2, JY3⟩ := JY.k
    obtain ⟨JRl, JR0, JR1, JR2, JR3, JRf0, JRf1, JRf2, JRf3⟩ := id JR
    have JRT0 := JRT.c0
    have JRT1 := JRT.c1
    have JRTl := JRT.lt
    have JRTf0 := JRT.f0
    have JRTf1 := JRT.f1
    have lb := B.size
    go_wp2_with fail
    refine (X8.out _).mono ?_
    rintro e w6 ⟨rfl, z⟩
    clear JX0 JX1 JX2 JX3 JXl JY0 JY1 JY2 JY3 JYl JR0 JR1 JR2 JR3 JRl JRf0 JRf1 JRf2 JRf3 JRT0 JRT1 JRTl JRTf0 JRTf1 lb
    have lb := B.size
    have JXl := JX.lt
    have JYl := JY.lt
    have JRl := JR.lt
    have JRTl := JRT.lt
    have JXx := JX.other2 (c := w4.heap.size) (by omega) (T')
    have JYx := JY.other2 (c := w4.heap.size) (by omega) (T')
    have JRx := JR.other2 (c := w4.heap.size) (by omega) (T')
    have Bx := put2_below (T') B (by omega : w.heap.size ≤ w4.heap.size)
    replace JRT := JRT.put (T')
    clear lb JXl JYl JRl JRTl B JX JY JR
    have B := Bx
    clear Bx
    have JX := JXx
    clear JXx
    have JY := JYx
    clear JYx
    have JR := JRx
    clear JRx
    replace JX := JX.below z
    replace JY := JY.below z
    replace JR := JR.below z
    replace JRT := JRT.below z
    replace B := below_next B z
    clear z
    obtain ⟨JXl, JX0, JX1, JX2, JX3⟩ := JX.k
    obtain ⟨JYl, JY0, JY1, JY2, JY3⟩ := JY.k
    obtain ⟨JRl, JR0, JR1, JR2, JR3, JRf0, JRf1, JRf2, JRf3⟩ := id JR
    have JRT0 := JRT.c0
    have JRT1 := JRT.c1
    have JRTl := JRT.lt
    have JRTf0 := JRT.f0
    have JRTf1 := JRT.f1
    have lb := B.size
    go_wp2_with fail
    refine (X9.out _).mono ?_
    rintro e w7 ⟨rfl, z⟩
    clear JX0 JX1 JX2 JX3 JXl JY0 JY1 JY2 JY3 JYl JR0 JR1 JR2 JR3 JRl JRf0 JRf1 JRf2 JRf3 JRT0 JRT1 JRTl JRTf0 JRTf1 lb
    have g7JX : w.heap.size < w6.heap.size := JX.lt
    have g7JY : w.heap.size + 1 < w6.heap.size := JY.lt
    have g7JR : w.heap.size + 1 + 1 < w6.heap.size := JR.lt
    have g7JRT : w4.heap.size < w6.heap.size := JRT.lt
    have g7B := B.size
    replace JX := (JX.alloc _).below z
    replace JY := (JY.alloc _).below z
    replace JR := (JR.alloc _).below z
    replace JRT := (JRT.alloc _).below z
    have JP : BC w7 (w6.heap.size) (P) := (BC.new rfl).below z
    replace B := below_next (bel_alloc B) z
    clear z
    obtain ⟨JXl, JX0, JX1, JX2, JX3⟩ := JX.k
    obtain ⟨JYl, JY0, JY1, JY2, JY3⟩ := JY.k
    obtain ⟨JRl, JR0, JR1, JR2, JR3, JRf0, JRf1, JRf2, JRf3⟩ := id JR
    have JRT0 := JRT.c0
    have JRT1 := JRT.c1
    have JRTl := JRT.lt
    have JRTf0 := JRT.f0
    have JRTf1 := JRT.f1
    have JP0 := JP.c0
    have JP1 := JP.c1
    have JPl := JP.lt
    have lb := B.size
    go_wp2
    exact bodyPost_ret (v := .tuple #[sv z, .int .i64 0]) (by simp [results, Tryz.results31, go_sem, JX0, JX1, JX2, JX3, JXl, JY0, JY1, JY2, JY3, JYl, JR0, JR1, JR2, JR3, JRl, JRT0, JRT1, JRTl, JP0, JP1, JPl]; try rfl) rfl ⟨rfl, bel_alloc (putS_below z B (by omega))⟩
theorem cAlu_any (op : Int) (c : Bool) (a b : Sc) (w : World) : Calls Tryz.prog 31 #[.int .i64 op, .bool c, sv a, sv b] w fun e w' => e = .returned (.tuple #[sv (scAluT op c a b), .int .i64 (scAluE op a b)]) ∧ Below w.heap.size w w' := by
  by_cases h : (mayX a = true ∧ mayX b = true) ∧ opIs op
  · cases c
    · exact cAlu_false op a b h.1.1 h.1.2 h.2 w
    · exact cAlu_true op a b h.1.1 h.1.2 h.2 w
  · exact cAlu_bad op c a b h w
end Go.Proofs.YtodmikjpmcabiaaGreat
