/-
  Contracts of Below, single, half, as the landed code has them. Contracts of single and half, as the landed code has them. Contracts of shifted and bitsOf, as the landed code has them. Contract of bitsOf where it negates, shifts or tells nothing.
-/
import Derived.Test.YtoanbjnhoggpjaaHScC
import Derived.Deep.RegionHeld3
import Derived.Deep.RegionLaw
namespace Go.Proofs.Ytoanbjnhoggpjaa
set_option linter.unusedSimpArgs false
set_option linter.unusedVariables false
set_option maxRecDepth 100000
open Go.ChangeShapes Go.WideShapes Go.ChangeAt Go.RowKit

/-- A block that takes a scalar. -/
structure RsS (w : World) (r : Nat) (w' : World) : Prop where
  lt : r < w'.heap.size
  c0 : ∃ c, w'.cell? ⟨r, 0, none⟩ = some c
  c1 : ∃ c, w'.cell? ⟨r, 1, none⟩ = some c
  c2 : ∃ c, w'.cell? ⟨r, 2, none⟩ = some c
  c3 : ∃ c, w'.cell? ⟨r, 3, none⟩ = some c
  f0 : w'.frozen? ⟨r, 0, none⟩ = false
  f1 : w'.frozen? ⟨r, 1, none⟩ = false
  f2 : w'.frozen? ⟨r, 2, none⟩ = false
  f3 : w'.frozen? ⟨r, 3, none⟩ = false
  le : w.heap.size ≤ r
  bel : Below w.heap.size w w'
theorem RsS.next {w : World} {r : Nat} {w' w2 : World} (h : RsS w r w') (hb : Below w'.heap.size w' w2) : RsS w r w2 := by
  obtain ⟨h0, ⟨c0, h1⟩, ⟨c1, h2⟩, ⟨c2, h3⟩, ⟨c3, h4⟩, g0, g1, g2, g3, h6, h5⟩ := h
  exact ⟨Nat.lt_of_lt_of_le h0 hb.size, ⟨c0, (hb.cell h0).trans h1⟩, ⟨c1, (hb.cell h0).trans h2⟩, ⟨c2, (hb.cell h0).trans h3⟩, ⟨c3, (hb.cell h0).trans h4⟩, (hb.frozen (p := ⟨r, 0, none⟩) h0).trans g0, (hb.frozen (p := ⟨r, 1, none⟩) h0).trans g1, (hb.frozen (p := ⟨r, 2, none⟩) h0).trans g2, (hb.frozen (p := ⟨r, 3, none⟩) h0).trans g3, h6, h5.trans (hb.mono h5.size)⟩
theorem SC.res {w w' : World} {r : Nat} {x : Sc} (h : SC w' r x) (hr : w.heap.size ≤ r) (hb : Below w.heap.size w w') : RsS w r w' :=
  ⟨h.lt, ⟨_, h.c0⟩, ⟨_, h.c1⟩, ⟨_, h.c2⟩, ⟨_, h.c3⟩, h.f0, h.f1, h.f2, h.f3, hr, hb⟩
theorem RsS.put {w : World} {r : Nat} {w' : World} (h : RsS w r w') (a b c d : Value) : RsS w r ((((w'.setCell ⟨r, 0, none⟩ a).setCell ⟨r, 1, none⟩ b).setCell ⟨r, 2, none⟩ c).setCell ⟨r, 3, none⟩ d) := by
  obtain ⟨l, ⟨v0, h0⟩, ⟨v1, h1⟩, ⟨v2, h2⟩, ⟨v3, h3⟩, g0, g1, g2, g3, h6, h5⟩ := h
  refine ⟨by simp; exact l, ⟨a, ?_⟩, ⟨b, ?_⟩, ⟨c, ?_⟩, ⟨d, ?_⟩, by simp; exact g0, by simp; exact g1, by simp; exact g2, by simp; exact g3, h6, (((h5.setCell (p := ⟨r, 0, none⟩) h6 _).setCell (p := ⟨r, 1, none⟩) h6 _).setCell (p := ⟨r, 2, none⟩) h6 _).setCell (p := ⟨r, 3, none⟩) h6 _⟩
  · exact (World.cell?_setCell_other _ _ _ _ (by simp)).trans ((World.cell?_setCell_other _ _ _ _ (by simp)).trans ((World.cell?_setCell_other _ _ _ _ (by simp)).trans (World.cell?_setCell_same _ _ _ h0)))
  · exact (World.cell?_setCell_other _ _ _ _ (by simp)).trans ((World.cell?_setCell_other _ _ _ _ (by simp)).trans (World.cell?_setCell_same _ _ _ ((World.cell?_setCell_other _ _ _ _ (by simp)).trans h1)))
  · exact (World.cell?_setCell_other _ _ _ _ (by simp)).trans (World.cell?_setCell_same _ _ _ ((World.cell?_setCell_other _ _ _ _ (by simp)).trans ((World.cell?_setCell_other _ _ _ _ (by simp)).trans h2)))
  · exact World.cell?_setCell_same _ _ _ ((World.cell?_setCell_other _ _ _ _ (by simp)).trans ((World.cell?_setCell_other _ _ _ _ (by simp)).trans ((World.cell?_setCell_other _ _ _ _ (by simp)).trans h3)))
theorem cs4 {w : World} {p : Addr} {q : Nat} {a b c d v : Value} (h : w.cell? p = some v) (hq : p.block ≠ q) : ((((w.setCell ⟨q, 0, none⟩ a).setCell ⟨q, 1, none⟩ b).setCell ⟨q, 2, none⟩ c).setCell ⟨q, 3, none⟩ d).cell? p = some v :=
  (World.cell?_of_block (w := w) (a := p) ((((Below.heap_setCell _ _ _ _ hq).trans (Below.heap_setCell _ _ _ _ hq)).trans (Below.heap_setCell _ _ _ _ hq)).trans (Below.heap_setCell _ _ _ _ hq))).trans h
def belowI (bits : Int) : Sc := if sz4 bits then (cutT allT bits, cutK allT (clampN bits)) else sc0
theorem below32 : belowI 32 = belowX false := by decide +kernel
theorem below64 : belowI 64 = belowX true := by decide +kernel
set_option maxHeartbeats 4000000 in
theorem cBelow_any (bits : Int) (w : World) : Calls Try.prog 157 #[.int .i64 bits] w fun e w' => e = .returned (sv (belowI bits)) ∧ Below w.heap.size w w' := by
  have X1 := fun W => tAll_any W
  have X2 := fun W => tCut_any allT bits W
  have X3 := fun W => sAll_any W
  have X4 := fun W => sCut_any allT bits W
  by_cases hs : sz4 bits
  case neg =>
    have e1 : belowI bits = sc0 := if_neg hs
    have e2 : cutE allT bits = 1 := if_neg hs
    rw [e1]
    rw [e2] at X2
    clear X3 X4 e1 e2 hs
    generalize cutT allT bits = T at *
    unfold allT at X2
    unfold tv at X1 X2
    dsimp only at X1 X2
    replace X1 := hid X1
    replace X2 := hid X2
    go_enter Try.func157, Try.ntmps157
    go_wp2_with fail
    refine (X1.out _).mono ?_
    rintro e w1 ⟨rfl, z⟩
    have JR : SC w1 (w.heap.size) (sc0) := (SC.new rfl).below z
    have B := below_next (bel_alloc (Below.refl w.heap.size w)) z
    clear z
    have JR0 := JR.c0
    have JR1 := JR.c1
    have JR2 := JR.c2
    have JR3 := JR.c3
    have JRl := JR.lt
    have JRf0 := JR.f0
    have JRf1 := JR.f1
    have JRf2 := JR.f2
    have JRf3 := JR.f3
    have lb := B.size
    go_wp2_with fail
    refine (X2.out _).mono ?_
    rintro e w2 ⟨rfl, z⟩
    clear JR0 JR1 JR2 JR3 JRl JRf0 JRf1 JRf2 JRf3 lb
    replace JR := JR.below z
    replace B := below_next B z
    clear z
    have JR0 := JR.c0
    have JR1 := JR.c1
    have JR2 := JR.c2
    have JR3 := JR.c3
    have JRl := JR.lt
    have JRf0 := JR.f0
    have JRf1 := JR.f1
    have JRf2 := JR.f2
    have JRf3 := JR.f3
    have lb := B.size
    go_wp2
    exact bodyPost_ret (v := sv sc0) (by simp [results, Try.results157, go_sem, JR0, JR1, JR2, JR3, JRl]; try rfl) rfl ⟨rfl, bel_alloc (putS_below sc0 B (by omega))⟩
  have e1 : belowI bits = (cutT allT bits, cutK allT (clampN bits)) := if_pos hs
  have e2 : cutE allT bits = 0 := (if_pos hs).trans (if_pos allT_may)
  rw [e1]
  rw [e2] at X2
  clear e1 e2 hs
  generalize cutT allT bits = T at *
  generalize cutK allT (clampN bits) = K at *
  unfold allT at X2 X4
  unfold tv at X1 X2 X3 X4
  dsimp only at X1 X2 X3 X4
  replace X1 := hid X1
  replace X2 := hid X2
  replace X3 := hid X3
  replace X4 := hid X4
  go_enter Try.func157, Try.ntmps157
  go_wp2_with fail
  refine (X1.out _).mono ?_
  rintro e w1 ⟨rfl, z⟩
  have JR : SC w1 (w.heap.size) (sc0) := (SC.new rfl).below z
  have B := below_next (bel_alloc (Below.refl w.heap.size w)) z
  clear z
  have JR0 := JR.c0
  have JR1 := JR.c1
  have JR2 := JR.c2
  have JR3 := JR.c3
  have JRl := JR.lt
  have JRf0 := JR.f0
  have JRf1 := JR.f1
  have JRf2 := JR.f2
  have JRf3 := JR.f3
  have lb := B.size
  go_wp2_with fail
  refine (X2.out _).mono ?_
  rintro e w2 ⟨rfl, z⟩
  clear JR0 JR1 JR2 JR3 JRl JRf0 JRf1 JRf2 JRf3 lb
  replace JR := JR.below z
  replace B := below_next B z
  clear z
  have JR0 := JR.c0
  have JR1 := JR.c1
  have JR2 := JR.c2
  have JR3 := JR.c3
  have JRl := JR.lt
  have JRf0 := JR.f0
  have JRf1 := JR.f1
  have JRf2 := JR.f2
  have JRf3 := JR.f3
  have lb := B.size
  go_wp2_with fail
  have JT : BC (w2.alloc (.cells #[.int .u64 (ub T.1), .int .u64 (ub T.2)] 24)) w2.heap.size T := BC.new rfl
  have q9 : RsS w w.heap.size (w2.alloc (.cells #[.int .u64 (ub T.1), .int .u64 (ub T.2)] 24)) := (JR.alloc _).res (Nat.le_refl _) (bel_alloc B)
  clear JR JRf0 JRf1 JRf2 JRf3 B lb
  generalize w2.alloc (.cells #[.int .u64 (ub T.1), .int .u64 (ub T.2)] 24) = w3 at *
  have q0 := JT.c0
  have q1 := JT.c1
  clear JT
  go_region_held3 (fun w' => w'.cell? ⟨w2.heap.size, 0, none⟩ = some (.int .u64 (ub T.1)) ∧ w'.cell? ⟨w2.heap.size, 1, none⟩ = some (.int .u64 (ub T.2)) ∧ RsS w w.heap.size w')
    (first
          | (go_split_ands; with_reducible exact ⟨by with_reducible assumption, by with_reducible assumption, by with_reducible assumption⟩)
          | (with_reducible exact ⟨cn bq (by with_reducible assumption), cn bq (by with_reducible assumption), RsS.next (by with_reducible assumption) bq⟩)
          | (with_reducible exact ⟨cn (below_dr w3) q0, cn (below_dr w3) q1, q9.next (below_dr w3)⟩)
          | (go_split_ands; with_reducible exact ⟨cs4 (by with_reducible assumption) (by dsimp only; omega), cs4 (by with_reducible assumption) (by dsimp only; omega), RsS.put (by with_reducible assumption) _ _ _ _⟩))
    (first | (go_at_call 95; go_split_ands; (with_reducible refine (X3.out _).mono ?_); rintro e wq ⟨rfl, bq⟩) | (go_at_call 98; go_split_ands; (with_reducible refine (X4.out _).mono ?_); rintro e wq ⟨rfl, bq⟩; have Rq := RsS.next (by with_reducible assumption) bq; obtain ⟨v0, rc0⟩ := Rq.c0; obtain ⟨v1, rc1⟩ := Rq.c1; obtain ⟨v2, rc2⟩ := Rq.c2; obtain ⟨v3, rc3⟩ := Rq.c3; have rl := Rq.lt; have rf0 := Rq.f0; have rf1 := Rq.f1; have rf2 := Rq.f2; have rf3 := Rq.f3))
  go_split_ands
  have HB := hid (Rq.put (.int .u64 (ub T.1)) (.int .u64 (ub T.2)) (.int .u64 (ub K.1)) (.int .u64 (ub K.2))).bel
  clear Rq bq
  go_wp2
  exact bodyPost_ret (v := sv (T, K)) (by simp [results, Try.results157, go_sem, rc0, rc1, rc2, rc3, rl]; try rfl) rfl ⟨rfl, by simpa [go_sem] using HB.out⟩
end Go.Proofs.Ytoanbjnhoggpjaa

namespace Go.Proofs.Ytoanbjnhoggpjaa
set_option linter.unusedSimpArgs false
set_option linter.unusedVariables false
set_option maxRecDepth 100000
open Go.ChangeShapes Go.WideShapes Go.ChangeAt Go.RowKit

set_option maxHeartbeats 4000000 in
theorem cSingle_any (x : Sc) (w : World) : Calls Try.prog 185 #[sv x] w fun e w' => e = .returned (.tuple #[.int .u64 (ub x.2.1), .bool (singleX x)]) ∧ Below w.heap.size w w' := by
  unfold singleX
  obtain ⟨⟨v, m⟩, l, h⟩ := x
  unfold sv
  dsimp only
  go_enter Try.func185, Try.ntmps185
  go_wp2_with fail
  have c0 := (SC.new (w := w) (x := ((v, m), l, h)) (t := 28) rfl).c2
  have c1 := (SC.new (w := w) (x := ((v, m), l, h)) (t := 28) rfl).c3
  have hB := bel_alloc (o := .cells #[.int .u64 (ub v), .int .u64 (ub m), .int .u64 (ub l), .int .u64 (ub h)] 28) (Below.refl w.heap.size w)
  dsimp only at c0 c1
  generalize w.alloc (.cells #[.int .u64 (ub v), .int .u64 (ub m), .int .u64 (ub l), .int .u64 (ub h)] 28) = w1 at *
  go_quiet (fail)
  go_wp2
  exact bodyPost_ret (v := .tuple #[.int .u64 (ub l), .bool (l == h)]) (by simp [results, Try.results185, go_sem]; try rfl) rfl ⟨rfl, hB.trans ((below_drewN _ _ _).mono hB.size)⟩
set_option maxHeartbeats 4000000 in
theorem cHalf_any (x : Sc) (ht : tmay x.1 = true) (w : World) : Calls Try.prog 154 #[sv x] w fun e w' => e = .returned (sv (halfX x)) ∧ Below w.heap.size w w' := by
  have X1 := fun W => cBelow_any 32 W
  rw [below32] at X1
  have X2 := fun W => tCut_any x.1 32 W
  have e1 : cutT x.1 32 = lowT x.1 32 := (if_pos rfl).trans (if_pos ht)
  rw [e1] at X2
  clear e1 ht
  generalize cutE x.1 32 = E at X2
  have X3 := fun W => cSettle_any (lowT x.1 32) (belowX false).2 W
  have HR : (ub x.2.2 ≤ ub (belowX false).2.2 → halfX x = x) ∧ (¬ ub x.2.2 ≤ ub (belowX false).2.2 → halfX x = optS (settle (lowT x.1 32, (belowX false).2))) := by
    rw [ub_le]; exact ⟨fun h => if_pos h, fun h => if_neg h⟩
  generalize halfX x = R at *
  generalize (settle (lowT x.1 32, (belowX false).2)).isSome = K at *
  generalize optS (settle (lowT x.1 32, (belowX false).2)) = Z at *
  generalize belowX false = y at *
  generalize lowT x.1 32 = T at *
  obtain ⟨⟨v, m⟩, l, h⟩ := x
  unfold sv at X1 X3 ⊢
  unfold tv at X2 X3
  dsimp only at X1 X2 X3 HR ⊢
  replace X1 := hid X1
  replace X2 := hid X2
  replace X3 := hid X3
  by_cases hle : ub h ≤ ub y.2.2
  · have hr := HR.1 hle
    clear HR
    subst hr
    go_enter Try.func154, Try.ntmps154
    go_wp2_with fail
    refine (X1.out _).mono ?_
    rintro e w1 ⟨rfl, z⟩
    have JX : SC w1 (w.heap.size) (((v, m), l, h)) := ((SC.new rfl).alloc _).below z
    have JR : SC w1 (w.heap.size + 1) (sc0) := (SC.new (by simp)).below z
    have B := below_next (bel_alloc (bel_alloc (Below.refl w.heap.size w))) z
    clear z
    have JX0 := JX.c0
    have JX1 := JX.c1
    have JX2 := JX.c2
    have JX3 := JX.c3
    have JXl := JX.lt
    have JR0 := JR.c0
    have JR1 := JR.c1
    have JR2 := JR.c2
    have JR3 := JR.c3
    have JRl := JR.lt
    have JRf0 := JR.f0
    have JRf1 := JR.f1
    have JRf2 := JR.f2
    have JRf3 := JR.f3
    have lb := B.size
    go_wp2
    exact bodyPost_ret (v := sv ((v, m), l, h)) (by simp [results, Try.results154, go_sem, JX0, JX1, JX2, JX3, JXl, JR0, JR1, JR2, JR3, JRl]; try rfl) rfl ⟨rfl, bel_alloc (putS_below ((v, m), l, h) B (by omega))⟩
  · have hr := HR.2 hle
    clear HR
    subst hr
    go_enter Try.func154, Try.ntmps154
    go_wp2_with fail
    refine (X1.out _).mono ?_
    rintro e w1 ⟨rfl, z⟩
    have JX : SC w1 (w.heap.size) (((v, m), l, h)) := ((SC.new rfl).alloc _).below z
    have JR : SC w1 (w.heap.size + 1) (sc0) := (SC.new (by simp)).below z
    have B := below_next (bel_alloc (bel_alloc (Below.refl w.heap.size w))) z
    clear z
    have JX0 := JX.c0
    have JX1 := JX.c1
    have JX2 := JX.c2
    have JX3 := JX.c3
    have JXl := JX.lt
    have JR0 := JR.c0
    have JR1 := JR.c1
    have JR2 := JR.c2
    have JR3 := JR.c3
    have JRl := JR.lt
    have JRf0 := JR.f0
    have JRf1 := JR.f1
    have JRf2 := JR.f2
    have JRf3 := JR.f3
    have lb := B.size
    go_wp2_with fail
    refine (X2.out _).mono ?_
    rintro e w2 ⟨rfl, z⟩
    clear JX0 JX1 JX2 JX3 JXl JR0 JR1 JR2 JR3 JRl JRf0 JRf1 JRf2 JRf3 lb
    replace JX := (JX.alloc _).below z
    replace JR := (JR.alloc _).below z
    have JY : SC w2 (w1.heap.size) (y) := (SC.new rfl).below z
    replace B := below_next (bel_alloc B) z
    clear z
    have JX0 := JX.c0
    have JX1 := JX.c1
    have JX2 := JX.c2
    have JX3 := JX.c3
    have JXl := JX.lt
    have JR0 := JR.c0
    have JR1 := JR.c1
    have JR2 := JR.c2
    have JR3 := JR.c3
    have JRl := JR.lt
    have JRf0 := JR.f0
    have JRf1 := JR.f1
    have JRf2 := JR.f2
    have JRf3 := JR.f3
    have JY0 := JY.c0
    have JY1 := JY.c1
    have JY2 := JY.c2
    have JY3 := JY.c3
    have JYl := JY.lt
    have lb := B.size
    go_wp2_with fail
    refine (X3.out _).mono ?_
    rintro e w3 ⟨rfl, z⟩
    clear JX0 JX1 JX2 JX3 JXl JR0 JR1 JR2 JR3 JRl JRf0 JRf1 JRf2 JRf3 JY0 JY1 JY2 JY3 JYl lb
    replace JX := (JX.alloc _).below z
    replace JR := (JR.alloc _).below z
    replace JY := (JY.alloc _).below z
    have JT : BC w3 (w2.heap.size) (T) := (BC.new rfl).below z
    replace B := below_next (bel_alloc B) z
    clear z
    have JX0 := JX.c0
    have JX1 := JX.c1
    have JX2 := JX.c2
    have JX3 := JX.c3
    have JXl := JX.lt
    have JR0 := JR.c0
    have JR1 := JR.c1
    have JR2 := JR.c2
    have JR3 := JR.c3
    have JRl := JR.lt
    have JRf0 := JR.f0
    have JRf1 := JR.f1
    have JRf2 := JR.f2
    have JRf3 := JR.f3
    have JY0 := JY.c0
    have JY1 := JY.c1
    have JY2 := JY.c2
    have JY3 := JY.c3
    have JYl := JY.lt
    have JT0 := JT.c0
    have JT1 := JT.c1
    have JTl := JT.lt
    have lb := B.size
    go_wp2
    exact bodyPost_ret (v := sv R) (by simp [results, Try.results154, go_sem, JX0, JX1, JX2, JX3, JXl, JR0, JR1, JR2, JR3, JRl, JY0, JY1, JY2, JY3, JYl, JT0, JT1, JTl]; try rfl) rfl ⟨rfl, bel_alloc (putS_below R B (by omega))⟩
end Go.Proofs.Ytoanbjnhoggpjaa

namespace Go.Proofs.Ytoanbjnhoggpjaa
set_option linter.unusedSimpArgs false
set_option linter.unusedVariables false
set_option maxRecDepth 100000
open Go.ChangeShapes Go.WideShapes Go.ChangeAt Go.RowKit

theorem BC.res {w w' : World} {r : Nat} {x : Tn} (h : BC w' r x) (hr : w.heap.size ≤ r) (hb : Below w.heap.size w w') : RsI w r w' :=
  ⟨h.lt, ⟨_, h.c0⟩, ⟨_, h.c1⟩, h.f0, h.f1, hr, hb⟩
set_option maxHeartbeats 4000000 in
theorem cShifted_any (op : Int) (c : Bool) (t : Tn) (k : Nat) (ht : tmay t = true) (hk : k < sizeW c) (w : World) : Calls Try.prog 186 #[.int .i64 op, .int .i64 (szI c), tv t, .int .i64 (k : Int)] w fun e w' => e = .returned (.tuple #[tv (shX op c t k), .int .i64 0]) ∧ Below w.heap.size w w' := by
  have h64 : k < 64 := Nat.lt_of_lt_of_le hk (sizeW_le c)
  have n1 : ¬ ((k : Int) < 0 ∨ (64 : Int) ≤ k) := by omega
  have n2 : ¬ ((k : Int) < 0 ∨ (32 : Int) ≤ k) ∨ c = true := by cases c; exact .inl (by have : k < 32 := hk; omega); exact .inr rfl
  by_cases h6 : op = 6
  · subst h6
    have X1 := fun W => tLsh_any t k W
    have eT : shT t (fun x => x <<< (k : Int).toNat) k 64 = (t.1 <<< k, t.2 <<< k) := (if_neg n1).trans ((if_pos ht).trans (by rw [Int.toNat_natCast]))
    have eE : shE t k 64 = 0 := (if_neg n1).trans (if_pos ht)
    rw [eT, eE] at X1
    rw [show shX 6 c t k = (t.1 <<< k, t.2 <<< k) from rfl]
    generalize ((t.1 <<< k, t.2 <<< k) : Tn) = R at *
    generalize szI c = SZ at *
    generalize (k : Int) = K at *
    clear eT eE n1 n2 h64 hk
    unfold tv at X1 ⊢
    replace X1 := hid X1
    go_enter Try.func186, Try.ntmps186
    go_wp2_with fail
    refine (X1.out _).mono ?_
    rintro e w1 ⟨rfl, z⟩
    have JX : BC w1 (w.heap.size) (t) := ((BC.new rfl).alloc _).below z
    have JR : BC w1 (w.heap.size + 1) (t0) := (BC.new (by simp)).below z
    have B := below_next (bel_alloc (bel_alloc (Below.refl w.heap.size w))) z
    clear z
    have JX0 := JX.c0
    have JX1 := JX.c1
    have JXl := JX.lt
    have JR0 := JR.c0
    have JR1 := JR.c1
    have JRl := JR.lt
    have JRf0 := JR.f0
    have JRf1 := JR.f1
    have lb := B.size
    go_wp2
    exact bodyPost_ret (v := .tuple #[tv R, .int .i64 0]) (by simp [results, Try.results186, go_sem, JX0, JX1, JXl, JR0, JR1, JRl]; try rfl) rfl ⟨rfl, put2_below R B (by omega)⟩
  by_cases h7 : op = 7
  · subst h7
    have X1 := fun W => tRsh_any t k W
    have eT : shT t (fun x => x >>> (k : Int).toNat) k 64 = (t.1 >>> k, t.2 >>> k) := (if_neg n1).trans ((if_pos ht).trans (by rw [Int.toNat_natCast]))
    have eE : shE t k 64 = 0 := (if_neg n1).trans (if_pos ht)
    rw [eT, eE] at X1
    rw [show shX 7 c t k = (t.1 >>> k, t.2 >>> k) from rfl]
    generalize ((t.1 >>> k, t.2 >>> k) : Tn) = R at *
    generalize szI c = SZ at *
    generalize (k : Int) = K at *
    clear eT eE n1 n2 h64 hk h6
    unfold tv at X1 ⊢
    replace X1 := hid X1
    go_enter Try.func186, Try.ntmps186
    go_wp2_with fail
    refine (X1.out _).mono ?_
    rintro e w1 ⟨rfl, z⟩
    have JX : BC w1 (w.heap.size) (t) := ((BC.new rfl).alloc _).below z
    have JR : BC w1 (w.heap.size + 1) (t0) := (BC.new (by simp)).below z
    have B := below_next (bel_alloc (bel_alloc (Below.refl w.heap.size w))) z
    clear z
    have JX0 := JX.c0
    have JX1 := JX.c1
    have JXl := JX.lt
    have JR0 := JR.c0
    have JR1 := JR.c1
    have JRl := JR.lt
    have JRf0 := JR.f0
    have JRf1 := JR.f1
    have lb := B.size
    go_wp2
    exact bodyPost_ret (v := .tuple #[tv R, .int .i64 0]) (by simp [results, Try.results186, go_sem, JX0, JX1, JXl, JR0, JR1, JRl]; try rfl) rfl ⟨rfl, put2_below R B (by omega)⟩
  by_cases h12 : op = 12
  · subst h12
    have X1 := fun W => tArsh_any t k (szI c) W
    have eT : arshT t k (szI c) = shX 12 c t k := by
      cases c
      · rcases n2 with n2 | n2
        · exact (if_pos rfl).trans ((if_neg n2).trans ((if_pos ht).trans (by rw [Int.toNat_natCast]; rfl)))
        · cases n2
      · exact (if_neg (by decide)).trans ((if_pos rfl).trans ((if_neg n1).trans ((if_pos ht).trans (by rw [Int.toNat_natCast]; rfl))))
    have eE : arshE t k (szI c) = 0 := by
      cases c
      · rcases n2 with n2 | n2
        · exact (if_pos rfl).trans ((if_neg n2).trans (if_pos ht))
        · cases n2
      · exact (if_neg (by decide)).trans ((if_pos rfl).trans ((if_neg n1).trans (if_pos ht)))
    rw [eT, eE] at X1
    generalize shX 12 c t k = R at *
    generalize szI c = SZ at *
    generalize (k : Int) = K at *
    clear eT eE n1 n2 h64 hk h6 h7
    unfold tv at X1 ⊢
    replace X1 := hid X1
    go_enter Try.func186, Try.ntmps186
    go_wp2_with fail
    refine (X1.out _).mono ?_
    rintro e w1 ⟨rfl, z⟩
    have JX : BC w1 (w.heap.size) (t) := ((BC.new rfl).alloc _).below z
    have JR : BC w1 (w.heap.size + 1) (t0) := (BC.new (by simp)).below z
    have B := below_next (bel_alloc (bel_alloc (Below.refl w.heap.size w))) z
    clear z
    have JX0 := JX.c0
    have JX1 := JX.c1
    have JXl := JX.lt
    have JR0 := JR.c0
    have JR1 := JR.c1
    have JRl := JR.lt
    have JRf0 := JR.f0
    have JRf1 := JR.f1
    have lb := B.size
    go_wp2
    exact bodyPost_ret (v := .tuple #[tv R, .int .i64 0]) (by simp [results, Try.results186, go_sem, JX0, JX1, JXl, JR0, JR1, JRl]; try rfl) rfl ⟨rfl, put2_below R B (by omega)⟩
  have e6 : (op == 6) = false := by simpa using h6
  have e7 : (op == 7) = false := by simpa using h7
  have e12 : (op == 12) = false := by simpa using h12
  have X1 := fun W => tAll_any W
  rw [show shX op c t k = allT from (if_neg h6).trans ((if_neg h7).trans (if_neg h12))]
  clear h6 h7 h12 n1 n2 h64 hk
  generalize szI c = SZ at *
  generalize (k : Int) = K at *
  unfold allT
  unfold tv at X1 ⊢
  dsimp only at X1 ⊢
  replace X1 := hid X1
  go_enter Try.func186, Try.ntmps186
  go_wp2_with fail
  refine (X1.out _).mono ?_
  rintro e w1 ⟨rfl, z⟩
  have JX : BC w1 (w.heap.size) (t) := ((BC.new rfl).alloc _).below z
  have JR : BC w1 (w.heap.size + 1) (t0) := (BC.new (by simp)).below z
  have B := below_next (bel_alloc (bel_alloc (Below.refl w.heap.size w))) z
  clear z
  have JX0 := JX.c0
  have JX1 := JX.c1
  have JXl := JX.lt
  have JR0 := JR.c0
  have JR1 := JR.c1
  have JRl := JR.lt
  have JRf0 := JR.f0
  have JRf1 := JR.f1
  have lb := B.size
  go_wp2
  exact bodyPost_ret (v := .tuple #[tv (0#64, 18446744073709551615#64), .int .i64 0]) (by simp [results, Try.results186, go_sem, JX0, JX1, JXl, JR0, JR1, JRl]; try rfl) rfl ⟨rfl, put2_below (0#64, 18446744073709551615#64) B (by omega)⟩
set_option maxHeartbeats 4000000 in
theorem cBits0 (c : Bool) (a b : Sc) (ha : tmay a.1 = true) (hb : tmay b.1 = true) (w : World) : Calls Try.prog 155 #[.int .i64 0, .int .i64 (szI c), sv a, sv b] w fun e w' => e = .returned (.tuple #[tv (bitsX 0 c a b), .int .i64 0]) ∧ Below w.heap.size w w' := by
  have X1 := fun W => tAdd_any a.1 b.1 W
  have e1 : bothT a.1 b.1 (sumT a.1 b.1) = sumT a.1 b.1 := by unfold bothT; rw [ha, hb]; rfl
  have e2 : bothE a.1 b.1 = 0 := by unfold bothE; rw [ha, hb]; rfl
  rw [e1, e2] at X1
  rw [show bitsX 0 c a b = sumT a.1 b.1 from rfl]
  generalize sumT a.1 b.1 = R at *
  generalize szI c = SZ at *
  clear e1 e2 ha hb
  obtain ⟨⟨v, m⟩, l, h⟩ := a
  obtain ⟨⟨v', m'⟩, l', h'⟩ := b
  unfold tv at X1
  unfold sv
  dsimp only at X1 ⊢
  replace X1 := hid X1
  go_enter Try.func155, Try.ntmps155
  go_wp2_with fail
  refine (X1.out _).mono ?_
  rintro e w1 ⟨rfl, z⟩
  have JX : SC w1 (w.heap.size) (((v, m), l, h)) := (((SC.new rfl).alloc _).alloc _).below z
  have JY : SC w1 (w.heap.size + 1) (((v', m'), l', h')) := ((SC.new (by simp)).alloc _).below z
  have JR : BC w1 (w.heap.size + 1 + 1) (t0) := (BC.new (by simp)).below z
  have B := below_next (bel_alloc (bel_alloc (bel_alloc (Below.refl w.heap.size w)))) z
  clear z
  have JX0 := JX.c0
  have JX1 := JX.c1
  have JX2 := JX.c2
  have JX3 := JX.c3
  have JXl := JX.lt
  have JY0 := JY.c0
  have JY1 := JY.c1
  have JY2 := JY.c2
  have JY3 := JY.c3
  have JYl := JY.lt
  have JR0 := JR.c0
  have JR1 := JR.c1
  have JRl := JR.lt
  have JRf0 := JR.f0
  have JRf1 := JR.f1
  have lb := B.size
  go_wp2
  exact bodyPost_ret (v := .tuple #[tv R, .int .i64 0]) (by simp [results, Try.results155, go_sem, JX0, JX1, JX2, JX3, JXl, JY0, JY1, JY2, JY3, JYl, JR0, JR1, JRl]; try rfl) rfl ⟨rfl, put2_below R B (by omega)⟩
set_option maxHeartbeats 4000000 in
theorem cBits1 (c : Bool) (a b : Sc) (ha : tmay a.1 = true) (hb : tmay b.1 = true) (w : World) : Calls Try.prog 155 #[.int .i64 1, .int .i64 (szI c), sv a, sv b] w fun e w' => e = .returned (.tuple #[tv (bitsX 1 c a b), .int .i64 0]) ∧ Below w.heap.size w w' := by
  have X1 := fun W => tSub_any a.1 b.1 W
  have e1 : bothT a.1 b.1 (subT a.1 b.1) = subT a.1 b.1 := by unfold bothT; rw [ha, hb]; rfl
  have e2 : bothE a.1 b.1 = 0 := by unfold bothE; rw [ha, hb]; rfl
  rw [e1, e2] at X1
  rw [show bitsX 1 c a b = subT a.1 b.1 from rfl]
  generalize subT a.1 b.1 = R at *
  generalize szI c = SZ at *
  clear e1 e2 ha hb
  obtain ⟨⟨v, m⟩, l, h⟩ := a
  obtain ⟨⟨v', m'⟩, l', h'⟩ := b
  unfold tv at X1
  unfold sv
  dsimp only at X1 ⊢
  replace X1 := hid X1
  go_enter Try.func155, Try.ntmps155
  go_wp2_with fail
  refine (X1.out _).mono ?_
  rintro e w1 ⟨rfl, z⟩
  have JX : SC w1 (w.heap.size) (((v, m), l, h)) := (((SC.new rfl).alloc _).alloc _).below z
  have JY : SC w1 (w.heap.size + 1) (((v', m'), l', h')) := ((SC.new (by simp)).alloc _).below z
  have JR : BC w1 (w.heap.size + 1 + 1) (t0) := (BC.new (by simp)).below z
  have B := below_next (bel_alloc (bel_alloc (bel_alloc (Below.refl w.heap.size w)))) z
  clear z
  have JX0 := JX.c0
  have JX1 := JX.c1
  have JX2 := JX.c2
  have JX3 := JX.c3
  have JXl := JX.lt
  have JY0 := JY.c0
  have JY1 := JY.c1
  have JY2 := JY.c2
  have JY3 := JY.c3
  have JYl := JY.lt
  have JR0 := JR.c0
  have JR1 := JR.c1
  have JRl := JR.lt
  have JRf0 := JR.f0
  have JRf1 := JR.f1
  have lb := B.size
  go_wp2
  exact bodyPost_ret (v := .tuple #[tv R, .int .i64 0]) (by simp [results, Try.results155, go_sem, JX0, JX1, JX2, JX3, JXl, JY0, JY1, JY2, JY3, JYl, JR0, JR1, JRl]; try rfl) rfl ⟨rfl, put2_below R B (by omega)⟩
set_option maxHeartbeats 4000000 in
theorem cBits2 (c : Bool) (a b : Sc) (ha : tmay a.1 = true) (hb : tmay b.1 = true) (w : World) : Calls Try.prog 155 #[.int .i64 2, .int .i64 (szI c), sv a, sv b] w fun e w' => e = .returned (.tuple #[tv (bitsX 2 c a b), .int .i64 0]) ∧ Below w.heap.size w w' := by
  have X1 := fun W => tMul_any a.1 b.1 W
  have e1 : bothT a.1 b.1 (mulT a.1 b.1) = mulT a.1 b.1 := by unfold bothT; rw [ha, hb]; rfl
  have e2 : bothE a.1 b.1 = 0 := by unfold bothE; rw [ha, hb]; rfl
  rw [e1, e2] at X1
  rw [show bitsX 2 c a b = mulT a.1 b.1 from rfl]
  generalize mulT a.1 b.1 = R at *
  generalize szI c = SZ at *
  clear e1 e2 ha hb
  obtain ⟨⟨v, m⟩, l, h⟩ := a
  obtain ⟨⟨v', m'⟩, l', h'⟩ := b
  unfold tv at X1
  unfold sv
  dsimp only at X1 ⊢
  replace X1 := hid X1
  go_enter Try.func155, Try.ntmps155
  go_wp2_with fail
  refine (X1.out _).mono ?_
  rintro e w1 ⟨rfl, z⟩
  have JX : SC w1 (w.heap.size) (((v, m), l, h)) := (((SC.new rfl).alloc _).alloc _).below z
  have JY : SC w1 (w.heap.size + 1) (((v', m'), l', h')) := ((SC.new (by simp)).alloc _).below z
  have JR : BC w1 (w.heap.size + 1 + 1) (t0) := (BC.new (by simp)).below z
  have B := below_next (bel_alloc (bel_alloc (bel_alloc (Below.refl w.heap.size w)))) z
  clear z
  have JX0 := JX.c0
  have JX1 := JX.c1
  have JX2 := JX.c2
  have JX3 := JX.c3
  have JXl := JX.lt
  have JY0 := JY.c0
  have JY1 := JY.c1
  have JY2 := JY.c2
  have JY3 := JY.c3
  have JYl := JY.lt
  have JR0 := JR.c0
  have JR1 := JR.c1
  have JRl := JR.lt
  have JRf0 := JR.f0
  have JRf1 := JR.f1
  have lb := B.size
  go_wp2
  exact bodyPost_ret (v := .tuple #[tv R, .int .i64 0]) (by simp [results, Try.results155, go_sem, JX0, JX1, JX2, JX3, JXl, JY0, JY1, JY2, JY3, JYl, JR0, JR1, JRl]; try rfl) rfl ⟨rfl, put2_below R B (by omega)⟩
set_option maxHeartbeats 4000000 in
theorem cBits4 (c : Bool) (a b : Sc) (ha : tmay a.1 = true) (hb : tmay b.1 = true) (w : World) : Calls Try.prog 155 #[.int .i64 4, .int .i64 (szI c), sv a, sv b] w fun e w' => e = .returned (.tuple #[tv (bitsX 4 c a b), .int .i64 0]) ∧ Below w.heap.size w w' := by
  have X1 := fun W => tOr_any a.1 b.1 W
  have e1 : bothT a.1 b.1 (orT a.1 b.1) = orT a.1 b.1 := by unfold bothT; rw [ha, hb]; rfl
  have e2 : bothE a.1 b.1 = 0 := by unfold bothE; rw [ha, hb]; rfl
  rw [e1, e2] at X1
  rw [show bitsX 4 c a b = orT a.1 b.1 from rfl]
  generalize orT a.1 b.1 = R at *
  generalize szI c = SZ at *
  clear e1 e2 ha hb
  obtain ⟨⟨v, m⟩, l, h⟩ := a
  obtain ⟨⟨v', m'⟩, l', h'⟩ := b
  unfold tv at X1
  unfold sv
  dsimp only at X1 ⊢
  replace X1 := hid X1
  go_enter Try.func155, Try.ntmps155
  go_wp2_with fail
  refine (X1.out _).mono ?_
  rintro e w1 ⟨rfl, z⟩
  have JX : SC w1 (w.heap.size) (((v, m), l, h)) := (((SC.new rfl).alloc _).alloc _).below z
  have JY : SC w1 (w.heap.size + 1) (((v', m'), l', h')) := ((SC.new (by simp)).alloc _).below z
  have JR : BC w1 (w.heap.size + 1 + 1) (t0) := (BC.new (by simp)).below z
  have B := below_next (bel_alloc (bel_alloc (bel_alloc (Below.refl w.heap.size w)))) z
  clear z
  have JX0 := JX.c0
  have JX1 := JX.c1
  have JX2 := JX.c2
  have JX3 := JX.c3
  have JXl := JX.lt
  have JY0 := JY.c0
  have JY1 := JY.c1
  have JY2 := JY.c2
  have JY3 := JY.c3
  have JYl := JY.lt
  have JR0 := JR.c0
  have JR1 := JR.c1
  have JRl := JR.lt
  have JRf0 := JR.f0
  have JRf1 := JR.f1
  have lb := B.size
  go_wp2
  exact bodyPost_ret (v := .tuple #[tv R, .int .i64 0]) (by simp [results, Try.results155, go_sem, JX0, JX1, JX2, JX3, JXl, JY0, JY1, JY2, JY3, JYl, JR0, JR1, JRl]; try rfl) rfl ⟨rfl, put2_below R B (by omega)⟩
set_option maxHeartbeats 4000000 in
theorem cBits5 (c : Bool) (a b : Sc) (ha : tmay a.1 = true) (hb : tmay b.1 = true) (w : World) : Calls Try.prog 155 #[.int .i64 5, .int .i64 (szI c), sv a, sv b] w fun e w' => e = .returned (.tuple #[tv (bitsX 5 c a b), .int .i64 0]) ∧ Below w.heap.size w w' := by
  have X1 := fun W => tAnd_any a.1 b.1 W
  have e1 : bothT a.1 b.1 (andT a.1 b.1) = andT a.1 b.1 := by unfold bothT; rw [ha, hb]; rfl
  have e2 : bothE a.1 b.1 = 0 := by unfold bothE; rw [ha, hb]; rfl
  rw [e1, e2] at X1
  rw [show bitsX 5 c a b = andT a.1 b.1 from rfl]
  generalize andT a.1 b.1 = R at *
  generalize szI c = SZ at *
  clear e1 e2 ha hb
  obtain ⟨⟨v, m⟩, l, h⟩ := a
  obtain ⟨⟨v', m'⟩, l', h'⟩ := b
  unfold tv at X1
  unfold sv
  dsimp only at X1 ⊢
  replace X1 := hid X1
  go_enter Try.func155, Try.ntmps155
  go_wp2_with fail
  refine (X1.out _).mono ?_
  rintro e w1 ⟨rfl, z⟩
  have JX : SC w1 (w.heap.size) (((v, m), l, h)) := (((SC.new rfl).alloc _).alloc _).below z
  have JY : SC w1 (w.heap.size + 1) (((v', m'), l', h')) := ((SC.new (by simp)).alloc _).below z
  have JR : BC w1 (w.heap.size + 1 + 1) (t0) := (BC.new (by simp)).below z
  have B := below_next (bel_alloc (bel_alloc (bel_alloc (Below.refl w.heap.size w)))) z
  clear z
  have JX0 := JX.c0
  have JX1 := JX.c1
  have JX2 := JX.c2
  have JX3 := JX.c3
  have JXl := JX.lt
  have JY0 := JY.c0
  have JY1 := JY.c1
  have JY2 := JY.c2
  have JY3 := JY.c3
  have JYl := JY.lt
  have JR0 := JR.c0
  have JR1 := JR.c1
  have JRl := JR.lt
  have JRf0 := JR.f0
  have JRf1 := JR.f1
  have lb := B.size
  go_wp2
  exact bodyPost_ret (v := .tuple #[tv R, .int .i64 0]) (by simp [results, Try.results155, go_sem, JX0, JX1, JX2, JX3, JXl, JY0, JY1, JY2, JY3, JYl, JR0, JR1, JRl]; try rfl) rfl ⟨rfl, put2_below R B (by omega)⟩
set_option maxHeartbeats 4000000 in
theorem cBits10 (c : Bool) (a b : Sc) (ha : tmay a.1 = true) (hb : tmay b.1 = true) (w : World) : Calls Try.prog 155 #[.int .i64 10, .int .i64 (szI c), sv a, sv b] w fun e w' => e = .returned (.tuple #[tv (bitsX 10 c a b), .int .i64 0]) ∧ Below w.heap.size w w' := by
  have X1 := fun W => tXor_any a.1 b.1 W
  have e1 : bothT a.1 b.1 (xorT a.1 b.1) = xorT a.1 b.1 := by unfold bothT; rw [ha, hb]; rfl
  have e2 : bothE a.1 b.1 = 0 := by unfold bothE; rw [ha, hb]; rfl
  rw [e1, e2] at X1
  rw [show bitsX 10 c a b = xorT a.1 b.1 from rfl]
  generalize xorT a.1 b.1 = R at *
  generalize szI c = SZ at *
  clear e1 e2 ha hb
  obtain ⟨⟨v, m⟩, l, h⟩ := a
  obtain ⟨⟨v', m'⟩, l', h'⟩ := b
  unfold tv at X1
  unfold sv
  dsimp only at X1 ⊢
  replace X1 := hid X1
  go_enter Try.func155, Try.ntmps155
  go_wp2_with fail
  refine (X1.out _).mono ?_
  rintro e w1 ⟨rfl, z⟩
  have JX : SC w1 (w.heap.size) (((v, m), l, h)) := (((SC.new rfl).alloc _).alloc _).below z
  have JY : SC w1 (w.heap.size + 1) (((v', m'), l', h')) := ((SC.new (by simp)).alloc _).below z
  have JR : BC w1 (w.heap.size + 1 + 1) (t0) := (BC.new (by simp)).below z
  have B := below_next (bel_alloc (bel_alloc (bel_alloc (Below.refl w.heap.size w)))) z
  clear z
  have JX0 := JX.c0
  have JX1 := JX.c1
  have JX2 := JX.c2
  have JX3 := JX.c3
  have JXl := JX.lt
  have JY0 := JY.c0
  have JY1 := JY.c1
  have JY2 := JY.c2
  have JY3 := JY.c3
  have JYl := JY.lt
  have JR0 := JR.c0
  have JR1 := JR.c1
  have JRl := JR.lt
  have JRf0 := JR.f0
  have JRf1 := JR.f1
  have lb := B.size
  go_wp2
  exact bodyPost_ret (v := .tuple #[tv R, .int .i64 0]) (by simp [results, Try.results155, go_sem, JX0, JX1, JX2, JX3, JXl, JY0, JY1, JY2, JY3, JYl, JR0, JR1, JRl]; try rfl) rfl ⟨rfl, put2_below R B (by omega)⟩
set_option maxHeartbeats 4000000 in
theorem cBits11 (c : Bool) (a b : Sc) (ha : tmay a.1 = true) (hb : tmay b.1 = true) (w : World) : Calls Try.prog 155 #[.int .i64 11, .int .i64 (szI c), sv a, sv b] w fun e w' => e = .returned (.tuple #[tv (bitsX 11 c a b), .int .i64 0]) ∧ Below w.heap.size w w' := by
  rw [show bitsX 11 c a b = b.1 from rfl]
  generalize szI c = SZ at *
  clear ha hb
  obtain ⟨⟨v, m⟩, l, h⟩ := a
  obtain ⟨⟨v', m'⟩, l', h'⟩ := b
  unfold sv
  dsimp only
  go_enter Try.func155, Try.ntmps155
  go_wp2
  exact bodyPost_ret (v := .tuple #[tv (v', m'), .int .i64 0]) (by simp [results, Try.results155, go_sem]; try rfl) rfl ⟨rfl, bel_alloc (bel_alloc (bel_alloc (Below.refl _ _)))⟩
end Go.Proofs.Ytoanbjnhoggpjaa

namespace Go.Proofs.Ytoanbjnhoggpjaa
set_option linter.unusedSimpArgs false
set_option linter.unusedVariables false
set_option maxRecDepth 100000
open Go.ChangeShapes Go.WideShapes Go.ChangeAt Go.RowKit

set_option maxHeartbeats 4000000 in
theorem cBits8 (c : Bool) (a b : Sc) (ha : tmay a.1 = true) (hb : tmay b.1 = true) (w : World) : Calls Try.prog 155 #[.int .i64 8, .int .i64 (szI c), sv a, sv b] w fun e w' => e = .returned (.tuple #[tv (bitsX 8 c a b), .int .i64 0]) ∧ Below w.heap.size w w' := by
  have X0 : ∀ W, Calls Try.prog 102 #[.int .u64 0] W fun e w' => e = .returned (tv (0#64, 0#64)) ∧ Below W.heap.size W w' := fun W => tOf_any 0#64 W
  have X1 := fun W => tSub_any t0 a.1 W
  have e1 : bothT t0 a.1 (subT t0 a.1) = subT t0 a.1 := by unfold bothT; rw [ha, show tmay t0 = true by decide]; rfl
  have e2 : bothE t0 a.1 = 0 := by unfold bothE; rw [ha, show tmay t0 = true by decide]; rfl
  rw [e1, e2] at X1
  rw [show bitsX 8 c a b = subT t0 a.1 from rfl]
  generalize subT t0 a.1 = R at *
  generalize szI c = SZ at *
  clear e1 e2 ha hb
  obtain ⟨⟨v, m⟩, l, h⟩ := a
  obtain ⟨⟨v', m'⟩, l', h'⟩ := b
  unfold t0 at X1
  unfold tv at X0 X1
  unfold sv
  dsimp only at X0 X1 ⊢
  replace X0 := hid X0
  replace X1 := hid X1
  go_enter Try.func155, Try.ntmps155
  go_wp2_with fail
  have JX : SC (((w.alloc (.cells #[.int .u64 (ub v), .int .u64 (ub m), .int .u64 (ub l), .int .u64 (ub h)] 28)).alloc (.cells #[.int .u64 (ub v'), .int .u64 (ub m'), .int .u64 (ub l'), .int .u64 (ub h')] 28)).alloc (.cells #[.int .u64 0, .int .u64 0] 24)) w.heap.size ((v, m), l, h) := ((SC.new (x := ((v, m), l, h)) rfl).alloc _).alloc _
  have JY : SC (((w.alloc (.cells #[.int .u64 (ub v), .int .u64 (ub m), .int .u64 (ub l), .int .u64 (ub h)] 28)).alloc (.cells #[.int .u64 (ub v'), .int .u64 (ub m'), .int .u64 (ub l'), .int .u64 (ub h')] 28)).alloc (.cells #[.int .u64 0, .int .u64 0] 24)) (w.heap.size + 1) ((v', m'), l', h') := (SC.new (x := ((v', m'), l', h')) (by simp)).alloc _
  have JR : BC (((w.alloc (.cells #[.int .u64 (ub v), .int .u64 (ub m), .int .u64 (ub l), .int .u64 (ub h)] 28)).alloc (.cells #[.int .u64 (ub v'), .int .u64 (ub m'), .int .u64 (ub l'), .int .u64 (ub h')] 28)).alloc (.cells #[.int .u64 0, .int .u64 0] 24)) (w.heap.size + 1 + 1) t0 := BC.new (a := t0) (by simp)
  have B : Below w.heap.size w (((w.alloc (.cells #[.int .u64 (ub v), .int .u64 (ub m), .int .u64 (ub l), .int .u64 (ub h)] 28)).alloc (.cells #[.int .u64 (ub v'), .int .u64 (ub m'), .int .u64 (ub l'), .int .u64 (ub h')] 28)).alloc (.cells #[.int .u64 0, .int .u64 0] 24)) := bel_alloc (bel_alloc (bel_alloc (Below.refl _ _)))
  generalize ((w.alloc (.cells #[.int .u64 (ub v), .int .u64 (ub m), .int .u64 (ub l), .int .u64 (ub h)] 28)).alloc (.cells #[.int .u64 (ub v'), .int .u64 (ub m'), .int .u64 (ub l'), .int .u64 (ub h')] 28)).alloc (.cells #[.int .u64 0, .int .u64 0] 24) = w0 at *
  have q9 := JR.res (by omega) B
  have q0 := JX.c0
  have q1 := JX.c1
  clear JX JY JR B
  go_region_held3 (fun w' => w'.cell? ⟨w.heap.size, 0, none⟩ = some (.int .u64 (ub v)) ∧ w'.cell? ⟨w.heap.size, 1, none⟩ = some (.int .u64 (ub m)) ∧ RsI w (w.heap.size + 1 + 1) w')
    (first
        | (go_split_ands; with_reducible exact ⟨by with_reducible assumption, by with_reducible assumption, by with_reducible assumption⟩)
        | (with_reducible exact ⟨cn bq (by with_reducible assumption), cn bq (by with_reducible assumption), RsI.next (by with_reducible assumption) bq⟩)
        | (with_reducible exact ⟨cn (below_dr w0) q0, cn (below_dr w0) q1, q9.next (below_dr w0)⟩)
        | (go_split_ands; with_reducible exact ⟨cs3 (by with_reducible assumption) (by dsimp only; omega), cs3 (by with_reducible assumption) (by dsimp only; omega), RsI.put (by with_reducible assumption) _ _⟩))
    (first | (go_at_call 102; go_split_ands; (with_reducible refine (X0.out _).mono ?_); rintro e wq ⟨rfl, bq⟩; have Rq := RsI.next (by with_reducible assumption) bq; obtain ⟨v0, rc0⟩ := Rq.c0; obtain ⟨v1, rc1⟩ := Rq.c1; have rl := Rq.lt; have rf0 := Rq.f0; have rf1 := Rq.f1) | (go_at_call 54; go_split_ands; (with_reducible refine (X1.out _).mono ?_); rintro e wq ⟨rfl, bq⟩; have Rq := RsI.next (by with_reducible assumption) bq; obtain ⟨v0, rc0⟩ := Rq.c0; obtain ⟨v1, rc1⟩ := Rq.c1; have rl := Rq.lt; have rf0 := Rq.f0; have rf1 := Rq.f1))
  go_split_ands
  have HB := hid (Rq.put (ub R.1) (ub R.2)).bel
  clear Rq bq
  go_wp2
  exact bodyPost_ret (v := .tuple #[tv R, .int .i64 0]) (by simp [results, Try.results155, go_sem, rc0, rc1, rl]; try rfl) rfl ⟨rfl, by simpa [go_sem] using HB.out⟩
set_option maxHeartbeats 4000000 in
theorem cBitsS (op : Int) (c : Bool) (a b : Sc) (ha : tmay a.1 = true) (hb : tmay b.1 = true) (ho : op ≠ 0 ∧ op ≠ 1 ∧ op ≠ 2 ∧ op ≠ 4 ∧ op ≠ 5 ∧ op ≠ 10 ∧ op ≠ 8 ∧ op ≠ 11) (w : World) : Calls Try.prog 155 #[.int .i64 op, .int .i64 (szI c), sv a, sv b] w fun e w' => e = .returned (.tuple #[tv (bitsX op c a b), .int .i64 0]) ∧ Below w.heap.size w w' := by
  obtain ⟨g0, g1, g2, g4, g5, g10, g8, g11⟩ := ho
  have eR : bitsX op c a b = if singleX b = true then shX op c a.1 (b.2.1.toNat % sizeW c) else allT := by
    unfold bitsX
    rw [if_neg g0, if_neg g1, if_neg g2, if_neg g4, if_neg g5, if_neg g10, if_neg g8, if_neg g11]
  rw [eR]
  clear eR
  have e0 : (op == 0) = false := by simpa using g0
  have e1 : (op == 1) = false := by simpa using g1
  have e2 : (op == 2) = false := by simpa using g2
  have e4 : (op == 4) = false := by simpa using g4
  have e5 : (op == 5) = false := by simpa using g5
  have e10 : (op == 10) = false := by simpa using g10
  have e8 : (op == 8) = false := by simpa using g8
  have e11 : (op == 11) = false := by simpa using g11
  clear g0 g1 g2 g4 g5 g10 g8 g11
  have X1 := fun W => cSingle_any b W
  have X2 := fun W => cShifted_any op c a.1 (b.2.1.toNat % sizeW c) ha (Nat.mod_lt _ (sizeW_pos c)) W
  have X3 := fun W => tAll_any W
  generalize shX op c a.1 (b.2.1.toNat % sizeW c) = R at *
  clear ha hb
  cases hs : singleX b
  · rw [hs] at X1
    rw [if_neg (by decide)]
    clear X2 hs
    generalize szI c = SZ at *
    obtain ⟨⟨v, m⟩, l, h⟩ := a
    obtain ⟨⟨v', m'⟩, l', h'⟩ := b
    unfold allT
    unfold tv at X3
    unfold sv at X1 ⊢
    dsimp only at X1 X3 ⊢
    replace X1 := hid X1
    replace X3 := hid X3
    go_enter Try.func155, Try.ntmps155
    go_wp2_with fail
    refine (X1.out _).mono ?_
    rintro e w1 ⟨rfl, z⟩
    have JX : SC w1 (w.heap.size) (((v, m), l, h)) := (((SC.new rfl).alloc _).alloc _).below z
    have JY : SC w1 (w.heap.size + 1) (((v', m'), l', h')) := ((SC.new (by simp)).alloc _).below z
    have JR : BC w1 (w.heap.size + 1 + 1) (t0) := (BC.new (by simp)).below z
    have B := below_next (bel_alloc (bel_alloc (bel_alloc (Below.refl w.heap.size w)))) z
    clear z
    have JX0 := JX.c0
    have JX1 := JX.c1
    have JX2 := JX.c2
    have JX3 := JX.c3
    have JXl := JX.lt
    have JY0 := JY.c0
    have JY1 := JY.c1
    have JY2 := JY.c2
    have JY3 := JY.c3
    have JYl := JY.lt
    have JR0 := JR.c0
    have JR1 := JR.c1
    have JRl := JR.lt
    have JRf0 := JR.f0
    have JRf1 := JR.f1
    have lb := B.size
    go_wp2_with fail
    refine (X3.out _).mono ?_
    rintro e w2 ⟨rfl, z⟩
    clear JX0 JX1 JX2 JX3 JXl JY0 JY1 JY2 JY3 JYl JR0 JR1 JRl JRf0 JRf1 lb
    replace JX := JX.below z
    replace JY := JY.below z
    replace JR := JR.below z
    replace B := below_next B z
    clear z
    have JX0 := JX.c0
    have JX1 := JX.c1
    have JX2 := JX.c2
    have JX3 := JX.c3
    have JXl := JX.lt
    have JY0 := JY.c0
    have JY1 := JY.c1
    have JY2 := JY.c2
    have JY3 := JY.c3
    have JYl := JY.lt
    have JR0 := JR.c0
    have JR1 := JR.c1
    have JRl := JR.lt
    have JRf0 := JR.f0
    have JRf1 := JR.f1
    have lb := B.size
    go_wp2
    exact bodyPost_ret (v := .tuple #[tv (0#64, 18446744073709551615#64), .int .i64 0]) (by simp [results, Try.results155, go_sem, JX0, JX1, JX2, JX3, JXl, JY0, JY1, JY2, JY3, JYl, JR0, JR1, JRl]; try rfl) rfl ⟨rfl, put2_below (0#64, 18446744073709551615#64) B (by omega)⟩
  · rw [hs] at X1
    rw [if_pos rfl]
    clear X3 hs
    obtain ⟨⟨v, m⟩, l, h⟩ := a
    obtain ⟨⟨v', m'⟩, l', h'⟩ := b
    unfold tv at X2
    unfold sv at X1 ⊢
    dsimp only at X1 X2 ⊢
    replace X1 := hid X1
    cases c
    · have hk : ((l'.toNat % sizeW false : Nat) : Int) = ib (l' % 32#64) := by
        rw [ib_small _ (by rw [BitVec.toNat_umod]; have : l'.toNat % 32 < 32 := Nat.mod_lt _ (by decide); show l'.toNat % 32 < 9223372036854775808; omega), BitVec.toNat_umod]; rfl
      rw [hk, show szI false = 32 from rfl] at X2
      rw [show szI false = 32 from rfl]
      clear hk
      have hw : IntKind.u64.wrap 32 = 32 := by kernel_rfl
      have ht : (ub l').tmod 32 = ub (l' % 32#64) := tmod_is l' 32#64
      replace X2 := hid X2
      go_enter Try.func155, Try.ntmps155
      go_wp2_with fail
      refine (X1.out _).mono ?_
      rintro e w1 ⟨rfl, z⟩
      have JX : SC w1 (w.heap.size) (((v, m), l, h)) := (((SC.new rfl).alloc _).alloc _).below z
      have JY : SC w1 (w.heap.size + 1) (((v', m'), l', h')) := ((SC.new (by simp)).alloc _).below z
      have JR : BC w1 (w.heap.size + 1 + 1) (t0) := (BC.new (by simp)).below z
      have B := below_next (bel_alloc (bel_alloc (bel_alloc (Below.refl w.heap.size w)))) z
      clear z
      have q9 := JR.res (by omega) B
      have q0 := JX.c0
      have q1 := JX.c1
      clear JX JY JR B
      generalize w1 = w0 at *
      go_wp2_with fail
      go_region_held3 (fun w' => w'.cell? ⟨w.heap.size, 0, none⟩ = some (.int .u64 (ub v)) ∧ w'.cell? ⟨w.heap.size, 1, none⟩ = some (.int .u64 (ub m)) ∧ RsI w (w.heap.size + 1 + 1) w')
        (first
        | (go_split_ands; with_reducible exact ⟨by with_reducible assumption, by with_reducible assumption, by with_reducible assumption⟩)
        | (with_reducible exact ⟨cn bq (by with_reducible assumption), cn bq (by with_reducible assumption), RsI.next (by with_reducible assumption) bq⟩)
        | (with_reducible exact ⟨cn (below_dr w0) q0, cn (below_dr w0) q1, q9.next (below_dr w0)⟩)
        | (go_split_ands; with_reducible exact ⟨cs3 (by with_reducible assumption) (by dsimp only; omega), cs3 (by with_reducible assumption) (by dsimp only; omega), RsI.put (by with_reducible assumption) _ _⟩))
        (first | (go_at_call 186; go_split_ands; (with_reducible refine (X2.out _).mono ?_); rintro e wq ⟨rfl, bq⟩; have Rq := RsI.next (by with_reducible assumption) bq; obtain ⟨v0, rc0⟩ := Rq.c0; obtain ⟨v1, rc1⟩ := Rq.c1; have rl := Rq.lt; have rf0 := Rq.f0; have rf1 := Rq.f1))
      go_split_ands
      have HB := hid (Rq.put (ub R.1) (ub R.2)).bel
      clear Rq bq
      go_wp2
      exact bodyPost_ret (v := .tuple #[tv R, .int .i64 0]) (by simp [results, Try.results155, go_sem, rc0, rc1, rl]; try rfl) rfl ⟨rfl, by simpa [go_sem] using HB.out⟩
    · have hk : ((l'.toNat % sizeW true : Nat) : Int) = ib (l' % 64#64) := by
        rw [ib_small _ (by rw [BitVec.toNat_umod]; have : l'.toNat % 64 < 64 := Nat.mod_lt _ (by decide); show l'.toNat % 64 < 9223372036854775808; omega), BitVec.toNat_umod]; rfl
      rw [hk, show szI true = 64 from rfl] at X2
      rw [show szI true = 64 from rfl]
      clear hk
      have hw : IntKind.u64.wrap 64 = 64 := by kernel_rfl
      have ht : (ub l').tmod 64 = ub (l' % 64#64) := tmod_is l' 64#64
      replace X2 := hid X2
      go_enter Try.func155, Try.ntmps155
      go_wp2_with fail
      refine (X1.out _).mono ?_
      rintro e w1 ⟨rfl, z⟩
      have JX : SC w1 (w.heap.size) (((v, m), l, h)) := (((SC.new rfl).alloc _).alloc _).below z
      have JY : SC w1 (w.heap.size + 1) (((v', m'), l', h')) := ((SC.new (by simp)).alloc _).below z
      have JR : BC w1 (w.heap.size + 1 + 1) (t0) := (BC.new (by simp)).below z
      have B := below_next (bel_alloc (bel_alloc (bel_alloc (Below.refl w.heap.size w)))) z
      clear z
      have q9 := JR.res (by omega) B
      have q0 := JX.c0
      have q1 := JX.c1
      clear JX JY JR B
      generalize w1 = w0 at *
      go_wp2_with fail
      go_region_held3 (fun w' => w'.cell? ⟨w.heap.size, 0, none⟩ = some (.int .u64 (ub v)) ∧ w'.cell? ⟨w.heap.size, 1, none⟩ = some (.int .u64 (ub m)) ∧ RsI w (w.heap.size + 1 + 1) w')
        (first
        | (go_split_ands; with_reducible exact ⟨by with_reducible assumption, by with_reducible assumption, by with_reducible assumption⟩)
        | (with_reducible exact ⟨cn bq (by with_reducible assumption), cn bq (by with_reducible assumption), RsI.next (by with_reducible assumption) bq⟩)
        | (with_reducible exact ⟨cn (below_dr w0) q0, cn (below_dr w0) q1, q9.next (below_dr w0)⟩)
        | (go_split_ands; with_reducible exact ⟨cs3 (by with_reducible assumption) (by dsimp only; omega), cs3 (by with_reducible assumption) (by dsimp only; omega), RsI.put (by with_reducible assumption) _ _⟩))
        (first | (go_at_call 186; go_split_ands; (with_reducible refine (X2.out _).mono ?_); rintro e wq ⟨rfl, bq⟩; have Rq := RsI.next (by with_reducible assumption) bq; obtain ⟨v0, rc0⟩ := Rq.c0; obtain ⟨v1, rc1⟩ := Rq.c1; have rl := Rq.lt; have rf0 := Rq.f0; have rf1 := Rq.f1))
      go_split_ands
      have HB := hid (Rq.put (ub R.1) (ub R.2)).bel
      clear Rq bq
      go_wp2
      exact bodyPost_ret (v := .tuple #[tv R, .int .i64 0]) (by simp [results, Try.results155, go_sem, rc0, rc1, rl]; try rfl) rfl ⟨rfl, by simpa [go_sem] using HB.out⟩
theorem cBits_any (op : Int) (c : Bool) (a b : Sc) (ha : tmay a.1 = true) (hb : tmay b.1 = true) (w : World) : Calls Try.prog 155 #[.int .i64 op, .int .i64 (szI c), sv a, sv b] w fun e w' => e = .returned (.tuple #[tv (bitsX op c a b), .int .i64 0]) ∧ Below w.heap.size w w' := by
  by_cases g0 : op = 0
  · subst g0; exact cBits0 c a b ha hb w
  by_cases g1 : op = 1
  · subst g1; exact cBits1 c a b ha hb w
  by_cases g2 : op = 2
  · subst g2; exact cBits2 c a b ha hb w
  by_cases g4 : op = 4
  · subst g4; exact cBits4 c a b ha hb w
  by_cases g5 : op = 5
  · subst g5; exact cBits5 c a b ha hb w
  by_cases g10 : op = 10
  · subst g10; exact cBits10 c a b ha hb w
  by_cases g8 : op = 8
  · subst g8; exact cBits8 c a b ha hb w
  by_cases g11 : op = 11
  · subst g11; exact cBits11 c a b ha hb w
  exact cBitsS op c a b ha hb ⟨g0, g1, g2, g4, g5, g10, g8, g11⟩ w
end Go.Proofs.Ytoanbjnhoggpjaa
