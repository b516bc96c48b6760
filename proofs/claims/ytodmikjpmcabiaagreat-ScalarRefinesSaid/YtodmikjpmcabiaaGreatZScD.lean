import Derived.Test.YtodmikjpmcabiaaGreatZScC
import Derived.Deep.RegionHeld3
namespace Go.Proofs.YtodmikjpmcabiaaGreat
set_option linter.unusedSimpArgs false
set_option linter.unusedVariables false
set_option maxRecDepth 100000
open Go.ChangeShapes Go.WideShapes Go.ChangeAt Go.RowKit

structure RsS (w : World) (r : Nat) (w' : World) : Prop where
  lt : r < w'.heap.size
  c0 : ∃ c, w'.cell? ⟨r, 0, none⟩ = some c
  c1 : ∃ c, w'.cell? ⟨r, 1, none⟩ = some c
  c2 : ∃ c, w'.cell? ⟨r, 2, none⟩ = some c
  c3 : ∃ c, w'.cell? ⟨r, 3, none⟩ = some c
  f0 : w'.frozen? ⟨r, 0, none⟩ = false
  f1 : w'.frozen? ⟨r, 1, none⟩ = false
  f2 : w'.frozen? ⟨r, 2, none⟩ = false
  f3 : w'.frozen? ⟨r, 3, none⟩ = false
  le : w.heap.size ≤ r
  bel : Below w.heap.size w w'
theorem RsS.next {w : World} {r : Nat} {w' w2 : World} (h : RsS w r w') (hb : Below w'.heap.size w' w2) : RsS w r w2 := by
  obtain ⟨h0, ⟨c0, h1⟩, ⟨c1, h2⟩, ⟨c2, h3⟩, ⟨c3, h4⟩, g0, g1, g2, g3, h6, h5⟩ := h
  exact ⟨Nat.lt_of_lt_of_le h0 hb.size, ⟨c0, (hb.cell h0).trans h1⟩, ⟨c1, (hb.cell h0).trans h2⟩, ⟨c2, (hb.cell h0).trans h3⟩, ⟨c3, (hb.cell h0).trans h4⟩, (hb.frozen (p := ⟨r, 0, none⟩) h0).trans g0, (hb.frozen (p := ⟨r, 1, none⟩) h0).trans g1, (hb.frozen (p := ⟨r, 2, none⟩) h0).trans g2, (hb.frozen (p := ⟨r, 3, none⟩) h0).trans g3, h6, h5.trans (hb.mono h5.size)⟩
theorem SC.res {w w' : World} {r : Nat} {x : Sc} (h : SC w' r x) (hr : w.heap.size ≤ r) (hb : Below w.heap.size w w') : RsS w r w' :=
  ⟨h.lt, ⟨_, h.c0⟩, ⟨_, h.c1⟩, ⟨_, h.c2⟩, ⟨_, h.c3⟩, h.f0, h.f1, h.f2, h.f3, hr, hb⟩
theorem RsS.put {w : World} {r : Nat} {w' : World} (h : RsS w r w') (a b c d : Value) : RsS w r ((((w'.setCell ⟨r, 0, none⟩ a).setCell ⟨r, 1, none⟩ b).setCell ⟨r, 2, none⟩ c).setCell ⟨r, 3, none⟩ d) := by
  obtain ⟨l, ⟨v0, h0⟩, ⟨v1, h1⟩, ⟨v2, h2⟩, ⟨v3, h3⟩, g0, g1, g2, g3, h6, h5⟩ := h
  refine ⟨by simp; exact l, ⟨a, ?_⟩, ⟨b, ?_⟩, ⟨c, ?_⟩, ⟨d, ?_⟩, by simp; exact g0, by simp; exact g1, by simp; exact g2, by simp; exact g3, h6, (((h5.setCell (p := ⟨r, 0, none⟩) h6 _).setCell (p := ⟨r, 1, none⟩) h6 _).setCell (p := ⟨r, 2, none⟩) h6 _).setCell (p := ⟨r, 3, none⟩) h6 _⟩
  · exact (World.cell?_setCell_other _ _ _ _ (by simp)).trans ((World.cell?_setCell_other _ _ _ _ (by simp)).trans ((World.cell?_setCell_other _ _ _ _ (by simp)).trans (World.cell?_setCell_same _ _ _ h0)))
  · exact (World.cell?_setCell_other _ _ _ _ (by simp)).trans ((World.cell?_setCell_other _ _ _ _ (by simp)).trans (World.cell?_setCell_same _ _ _ ((World.cell?_setCell_other _ _ _ _ (by simp)).trans h1)))
  · exact (World.cell?_setCell_other _ _ _ _ (by simp)).trans (World.cell?_setCell_same _ _ _ ((World.cell?_setCell_other _ _ _ _ (by simp)).trans ((World.cell?_setCell_other _ _ _ _ (by simp)).trans h2)))
  · exact World.cell?_setCell_same _ _ _ ((World.cell?_setCell_other _ _ _ _ (by simp)).trans ((World.cell?_setCell_other _ _ _ _ (by simp)).trans ((World.cell?_setCell_other _ _ _ _ (by simp)).trans h3)))
theorem cs4 {w : World} {p : Addr} {q : Nat} {a b c d v : Value} (h : w.cell? p = some v) (hq : p.block ≠ q) : ((((w.setCell ⟨q, 0, none⟩ a).setCell ⟨q, 1, none⟩ b).setCell ⟨q, 2, none⟩ c).setCell ⟨q, 3, none⟩ d).cell? p = some v :=
  (World.cell?_of_block (w := w) (a := p) ((((Below.heap_setCell _ _ _ _ hq).trans (Below.heap_setCell _ _ _ _ hq)).trans (Below.heap_setCell _ _ _ _ hq)).trans (Below.heap_setCell _ _ _ _ hq))).trans h
def belowI (bits : Int) : Sc := if sz4 bits then (cutT allT bits, cutK allT (clampN bits)) else sc0
theorem below32 : belowI 32 = belowX false := by decide +kernel
theorem below64 : belowI 64 = belowX true := by decide +kernel
set_option maxHeartbeats 4000000 in
theorem cBelow_any (bits : Int) (w : World) : Calls Tryz.prog 20 #[.int .i64 bits] w fun e w' => e = .returned (sv (belowI bits)) ∧ Below w.heap.size w w' := by
  have X1 := fun W => tAll_any W
  have X2 := fun W => tCut_any allT bits W
  have X3 := fun W => sAll_any W
  have X4 := fun W => sCut_any allT bits W
  by_cases hs : sz4 bits
  case neg =>
    have e1 : belowI bits = sc0 := if_neg hs
    have e2 : cutE allT bits = 1 := if_neg hs
    rw [e1]
    rw [e2] at X2
    clear X3 X4 e1 e2 hs
    generalize cutT allT bits = T at *
    unfold allT at X2
    unfold tv at X1 X2
    dsimp only at X1 X2
    replace X1 := hid X1
    replace X2 := hid X2
    go_enter Tryz.func20, Tryz.ntmps20
    go_wp2_with fail
    refine (X1.out _).mono ?_
    rintro e w1 ⟨rfl, z⟩
    have JR : SC w1 (w.heap.size) (sc0) := (SC.new rfl).below z
    have B := below_next (bel_alloc (Below.refl w.heap.size w)) z
    clear z
    obtain ⟨JRl, JR0, JR1, JR2, JR3, JRf0, JRf1, JRf2, JRf3⟩ := id JR
    have lb := B.size
    go_wp2_with fail
    refine (X2.out _).mono ?_
    rintro e w2 ⟨rfl, z⟩
    clear JR0 JR1 JR2 JR3 JRl JRf0 JRf1 JRf2 JRf3 lb
    replace JR := JR.below z
    replace B := below_next B z
    clear z
    obtain ⟨JRl, JR0, JR1, JR2, JR3, JRf0, JRf1, JRf2, JRf3⟩ := id JR
    have lb := B.size
    go_wp2
    exact bodyPost_ret (v := sv sc0) (by simp [results, Tryz.results20, go_sem, JR0, JR1, JR2, JR3, JRl]; try rfl) rfl ⟨rfl, bel_alloc (putS_below sc0 B (by omega))⟩
  have e1 : belowI bits = (cutT allT bits, cutK allT (clampN bits)) := if_pos hs
  have e2 : cutE allT bits = 0 := (if_pos hs).trans (if_pos allT_may)
  rw [e1]
  rw [e2] at X2
  clear e1 e2 hs
  generalize cutT allT bits = T at *
  generalize cutK allT (clampN bits) = K at *
  unfold allT at X2 X4
  unfold tv at X1 X2 X3 X4
  dsimp only at X1 X2 X3 X4
  replace X1 := hid X1
  replace X2 := hid X2
  replace X3 := hid X3
  replace X4 := hid X4
  go_enter Tryz.func20, Tryz.ntmps20
  go_wp2_with fail
  refine (X1.out _).mono ?_
  rintro e w1 ⟨rfl, z⟩
  have JR : SC w1 (w.heap.size) (sc0) := (SC.new rfl).below z
  have B := below_next (bel_alloc (Below.refl w.heap.size w)) z
  clear z
  obtain ⟨JRl, JR0, JR1, JR2, JR3, JRf0, JRf1, JRf2, JRf3⟩ := id JR
  have lb := B.size
  go_wp2_with fail
  refine (X2.out _).mono ?_
  rintro e w2 ⟨rfl, z⟩
  clear JR0 JR1 JR2 JR3 JRl JRf0 JRf1 JRf2 JRf3 lb
  replace JR := JR.below z
  replace B := below_next B z
  clear z
  obtain ⟨JRl, JR0, JR1, JR2, JR3, JRf0, JRf1, JRf2, JRf3⟩ := id JR
  have lb := B.size
  go_wp2_with fail
  have JT : BC (w2.alloc (.cells #[.int .u64 (ub T.1), .int .u64 (ub T.2)] 24)) w2.heap.size T := BC.new rfl
  have q9 : RsS w w.heap.size (w2.alloc (.cells #[.int .u64 (ub T.1), .int .u64 (ub T.2)] 24)) := (JR.alloc _).res (Nat.le_refl _) (bel_alloc B)
  clear JR JRf0 JRf1 JRf2 JRf3 B lb
  generalize w2.alloc (.cells #[.int .u64 (ub T.1), .int .u64 (ub T.2)] 24) = w3 at *
  have q0 := JT.c0
  have q1 := JT.c1
  clear JT
  go_region_held3 (fun w' => w'.cell? ⟨w2.heap.size, 0, none⟩ = some (.int .u64 (ub T.1)) ∧ w'.cell? ⟨w2.heap.size, 1, none⟩ = some (.int .u64 (ub T.2)) ∧ RsS w w.heap.size w')
    (first
          | (go_split_ands; with_reducible exact ⟨by with_reducible assumption, by with_reducible assumption, by with_reducible assumption⟩)
          | (with_reducible exact ⟨cn bq (by with_reducible assumption), cn bq (by with_reducible assumption), RsS.next (by with_reducible assumption) bq⟩)
          | (with_reducible exact ⟨cn (below_dr w3) q0, cn (below_dr w3) q1, q9.next (below_dr w3)⟩)
          | (go_split_ands; with_reducible exact ⟨cs4 (by with_reducible assumption) (by dsimp only; omega), cs4 (by with_reducible assumption) (by dsimp only; omega), RsS.put (by with_reducible assumption) _ _ _ _⟩))
    (first | (go_at_call 50; go_split_ands; (with_reducible refine (X3.out _).mono ?_); rintro e wq ⟨rfl, bq⟩) | (go_at_call 53; go_split_ands; (with_reducible refine (X4.out _).mono ?_); rintro e wq ⟨rfl, bq⟩; have Rq := RsS.next (by with_reducible assumption) bq; obtain ⟨v0, rc0⟩ := Rq.c0; obtain ⟨v1, rc1⟩ := Rq.c1; obtain ⟨v2, rc2⟩ := Rq.c2; obtain ⟨v3, rc3⟩ := Rq.c3; have rl := Rq.lt; have rf0 := Rq.f0; have rf1 := Rq.f1; have rf2 := Rq.f2; have rf3 := Rq.f3))
  go_split_ands
  have HB := hid (Rq.put (.int .u64 (ub T.1)) (.int .u64 (ub T.2)) (.int .u64 (ub K.1)) (.int .u64 (ub K.2))).bel
  clear Rq bq
  go_wp2
  exact bodyPost_ret (v := sv (T, K)) (by simp [results, Tryz.results20, go_sem, rc0, rc1, rc2, rc3, rl]; try rfl) rfl ⟨rfl, by simpa [go_sem] using HB.out⟩
end Go.Proofs.YtodmikjpmcabiaaGreat
