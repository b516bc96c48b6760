/-
  Contract of Join, as the landed code has it.
-/
import Derived.Test.YtodmikjpmcabiaaGreatZSoC
import Derived.Deep.RegionLaw
import Derived.Deep.RegionHeld3
namespace Go.Proofs.YtodmikjpmcabiaaGreat
set_option linter.unusedSimpArgs false
set_option linter.unusedVariables false
set_option maxRecDepth 100000
open Go.ChangeShapes Go.WideShapes Go.ChangeAt Go.RowKit

def joinX (a b : Sc) : Sc := if (mayX a && mayX b) = true then optS (settle (joinT a.1 b.1, joinSp a.2 b.2)) else sc0
def joinXE (a b : Sc) : Int := if (mayX a && mayX b) = true then 0 else 1
set_option maxHeartbeats 8000000 in
theorem cJoinX_any (a b : Sc) (w : World) : Calls Tryz.prog 12 #[sv a, sv b] w fun e w' => e = .returned (.tuple #[sv (joinX a b), .int .i64 (joinXE a b)]) ∧ Below w.heap.size w w' := by
  unfold joinX joinXE
  have X3 := fun W => cMay_any a W
  have X4 := fun W => cMay_any b W
  cases h3 : mayX a
  · rw [Bool.false_and, if_neg (by decide), if_neg (by decide)]
    rw [h3] at X3
    clear X4 h3
    obtain ⟨⟨v, m⟩, l, h⟩ := a
    obtain ⟨⟨v', m'⟩, l', h'⟩ := b
    unfold sv at X3 ⊢
    dsimp only at X3 ⊢
    replace X3 := hid X3
    go_enter Tryz.func12, Tryz.ntmps12
    go_wp2_with fail
    refine (X3.out _).mono ?_
    rintro e w1 ⟨rfl, z⟩
    have JX : SC w1 (w.heap.size) (((v, m), l, h)) := (((SC.new rfl).alloc _).alloc _).below z
    have JY : SC w1 (w.heap.size + 1) (((v', m'), l', h')) := ((SC.new (by simp)).alloc _).below z
    have JR : SC w1 (w.heap.size + 1 + 1) (sc0) := (SC.new (by simp)).below z
    have B := below_next (bel_alloc (bel_alloc (bel_alloc (Below.refl w.heap.size w)))) z
    clear z
    have JX0 := JX.c0
    have JX1 := JX.c1
    have JX2 := JX.c2
    have JX3 := JX.c3
    have JXl := JX.lt
    have JY0 := JY.c0
    have JY1 := JY.c1
    have JY2 := JY.c2
    have JY3 := JY.c3
    have JYl := JY.lt
    have JR0 := JR.c0
    have JR1 := JR.c1
    have JR2 := JR.c2
    have JR3 := JR.c3
    have JRl := JR.lt
    have JRf0 := JR.f0
    have JRf1 := JR.f1
    have JRf2 := JR.f2
    have JRf3 := JR.f3
    have lb := B.size
    go_wp2
    exact bodyPost_ret (v := .tuple #[sv sc0, .int .i64 1]) (by simp [results, Tryz.results12, go_sem, JX0, JX1, JX2, JX3, JXl, JY0, JY1, JY2, JY3, JYl, JR0, JR1, JR2, JR3, JRl]; try first | rfl | exact ⟨rfl, rfl⟩) rfl ⟨rfl, putS_below sc0 B (by omega)⟩
  rw [Bool.true_and]
  cases h4 : mayX b
  · rw [if_neg (by decide), if_neg (by decide)]
    rw [h3] at X3
    rw [h4] at X4
    clear h3 h4
    obtain ⟨⟨v, m⟩, l, h⟩ := a
    obtain ⟨⟨v', m'⟩, l', h'⟩ := b
    unfold sv at X3 X4 ⊢
    dsimp only at X3 X4 ⊢
    replace X3 := hid X3
    replace X4 := hid X4
    go_enter Tryz.func12, Tryz.ntmps12
    go_wp2_with fail
    refine (X3.out _).mono ?_
    rintro e w1 ⟨rfl, z⟩
    have JX : SC w1 (w.heap.size) (((v, m), l, h)) := (((SC.new rfl).alloc _).alloc _).below z
    have JY : SC w1 (w.heap.size + 1) (((v', m'), l', h')) := ((SC.new (by simp)).alloc _).below z
    have JR : SC w1 (w.heap.size + 1 + 1) (sc0) := (SC.new (by simp)).below z
    have B := below_next (bel_alloc (bel_alloc (bel_alloc (Below.refl w.heap.size w)))) z
    clear z
    have JX0 := JX.c0
    have JX1 := JX.c1
    have JX2 := JX.c2
    have JX3 := JX.c3
    have JXl := JX.lt
    have JY0 := JY.c0
    have JY1 := JY.c1
    have JY2 := JY.c2
    have JY3 := JY.c3
    have JYl := JY.lt
    have JR0 := JR.c0
    have JR1 := JR.c1
    have JR2 := JR.c2
    have JR3 := JR.c3
    have JRl := JR.lt
    have JRf0 := JR.f0
    have JRf1 := JR.f1
    have JRf2 := JR.f2
    have JRf3 := JR.f3
    have lb := B.size
    go_wp2_with fail
    refine (X4.out _).mono ?_
    rintro e w2 ⟨rfl, z⟩
    clear JX0 JX1 JX2 JX3 JXl JY0 JY1 JY2 JY3 JYl JR0 JR1 JR2 JR3 JRl JRf0 JRf1 JRf2 JRf3 lb
    replace JX := JX.below z
    replace JY := JY.below z
    replace JR := JR.below z
    replace B := below_next B z
    clear z
    have JX0 := JX.c0
    have JX1 := JX.c1
    have JX2 := JX.c2
    have JX3 := JX.c3
    have JXl := JX.lt
    have JY0 := JY.c0
    have JY1 := JY.c1
    have JY2 := JY.c2
    have JY3 := JY.c3
    have JYl := JY.lt
    have JR0 := JR.c0
    have JR1 := JR.c1
    have JR2 := JR.c2
    have JR3 := JR.c3
    have JRl := JR.lt
    have JRf0 := JR.f0
    have JRf1 := JR.f1
    have JRf2 := JR.f2
    have JRf3 := JR.f3
    have lb := B.size
    go_wp2
    exact bodyPost_ret (v := .tuple #[sv sc0, .int .i64 1]) (by simp [results, Tryz.results12, go_sem, JX0, JX1, JX2, JX3, JXl, JY0, JY1, JY2, JY3, JYl, JR0, JR1, JR2, JR3, JRl]; try first | rfl | exact ⟨rfl, rfl⟩) rfl ⟨rfl, putS_below sc0 B (by omega)⟩
  rw [if_pos rfl, if_pos rfl]
  have X1 := fun W => tJoin_any a.1 b.1 W
  have X6 := fun W => sJoin_any a.2 b.2 W
  have X5 := fun W => cSettle_any (joinT a.1 b.1) (joinSp a.2 b.2) W
  rw [show bothT a.1 b.1 (joinT a.1 b.1) = joinT a.1 b.1 from by unfold bothT; simp [(mayX_parts h3).1, (mayX_parts h4).1]] at X1
  rw [h3] at X3
  rw [h4] at X4
  clear h3 h4
  generalize (settle (joinT a.1 b.1, joinSp a.2 b.2)).isSome = K at *
  generalize optS (settle (joinT a.1 b.1, joinSp a.2 b.2)) = Z at *
  generalize joinT a.1 b.1 = T at *
  generalize joinSp a.2 b.2 = U at *
  generalize bothE a.1 b.1 = E at *
  obtain ⟨⟨v, m⟩, l, h⟩ := a
  obtain ⟨⟨v', m'⟩, l', h'⟩ := b
  unfold sv at X3 X4 X5 ⊢
  unfold tv at X1 X6 X5
  dsimp only at X3 X4 X1 X6 X5 ⊢
  replace X3 := hid X3
  replace X4 := hid X4
  replace X1 := hid X1
  replace X6 := hid X6
  replace X5 := hid X5
  go_enter Tryz.func12, Tryz.ntmps12
  go_wp2_with fail
  refine (X3.out _).mono ?_
  rintro e w1 ⟨rfl, z⟩
  have JX : SC w1 (w.heap.size) (((v, m), l, h)) := (((SC.new rfl).alloc _).alloc _).below z
  have JY : SC w1 (w.heap.size + 1) (((v', m'), l', h')) := ((SC.new (by simp)).alloc _).below z
  have JR : SC w1 (w.heap.size + 1 + 1) (sc0) := (SC.new (by simp)).below z
  have B := below_next (bel_alloc (bel_alloc (bel_alloc (Below.refl w.heap.size w)))) z
  clear z
  have JX0 := JX.c0
  have JX1 := JX.c1
  have JX2 := JX.c2
  have JX3 := JX.c3
  have JXl := JX.lt
  have JY0 := JY.c0
  have JY1 := JY.c1
  have JY2 := JY.c2
  have JY3 := JY.c3
  have JYl := JY.lt
  have JR0 := JR.c0
  have JR1 := JR.c1
  have JR2 := JR.c2
  have JR3 := JR.c3
  have JRl := JR.lt
  have JRf0 := JR.f0
  have JRf1 := JR.f1
  have JRf2 := JR.f2
  have JRf3 := JR.f3
  have lb := B.size
  go_wp2_with fail
  refine (X4.out _).mono ?_
  rintro e w2 ⟨rfl, z⟩
  clear JX0 JX1 JX2 JX3 JXl JY0 JY1 JY2 JY3 JYl JR0 JR1 JR2 JR3 JRl JRf0 JRf1 JRf2 JRf3 lb
  replace JX := JX.below z
  replace JY := JY.below z
  replace JR := JR.below z
  replace B := below_next B z
  clear z
  have JX0 := JX.c0
  have JX1 := JX.c1
  have JX2 := JX.c2
  have JX3 := JX.c3
  have JXl := JX.lt
  have JY0 := JY.c0
  have JY1 := JY.c1
  have JY2 := JY.c2
  have JY3 := JY.c3
  have JYl := JY.lt
  have JR0 := JR.c0
  have JR1 := JR.c1
  have JR2 := JR.c2
  have JR3 := JR.c3
  have JRl := JR.lt
  have JRf0 := JR.f0
  have JRf1 := JR.f1
  have JRf2 := JR.f2
  have JRf3 := JR.f3
  have lb := B.size
  go_wp2_with fail
  refine (X1.out _).mono ?_
  rintro e w3 ⟨rfl, z⟩
  clear JX0 JX1 JX2 JX3 JXl JY0 JY1 JY2 JY3 JYl JR0 JR1 JR2 JR3 JRl JRf0 JRf1 JRf2 JRf3 lb
  replace JX := JX.below z
  replace JY := JY.below z
  replace JR := JR.below z
  replace B := below_next B z
  clear z
  have JX0 := JX.c0
  have JX1 := JX.c1
  have JX2 := JX.c2
  have JX3 := JX.c3
  have JXl := JX.lt
  have JY0 := JY.c0
  have JY1 := JY.c1
  have JY2 := JY.c2
  have JY3 := JY.c3
  have JYl := JY.lt
  have JR0 := JR.c0
  have JR1 := JR.c1
  have JR2 := JR.c2
  have JR3 := JR.c3
  have JRl := JR.lt
  have JRf0 := JR.f0
  have JRf1 := JR.f1
  have JRf2 := JR.f2
  have JRf3 := JR.f3
  have lb := B.size
  go_wp2_with fail
  clear JX0 JX1 JX2 JX3 JXl JY0 JY1 JY2 JY3 JYl JR0 JR1 JR2 JR3 JRl JRf0 JRf1 JRf2 JRf3 lb
  have JT : BC (w3.alloc (.cells #[.int .u64 (ub T.1), .int .u64 (ub T.2)] 24)) w3.heap.size T := BC.new rfl
  have gqJX : w.heap.size < w3.heap.size := JX.lt
  replace JX := JX.alloc (.cells #[.int .u64 (ub T.1), .int .u64 (ub T.2)] 24)
  have gqJY : w.heap.size + 1 < w3.heap.size := JY.lt
  replace JY := JY.alloc (.cells #[.int .u64 (ub T.1), .int .u64 (ub T.2)] 24)
  have gqJR : w.heap.size + 1 + 1 < w3.heap.size := JR.lt
  replace JR := JR.alloc (.cells #[.int .u64 (ub T.1), .int .u64 (ub T.2)] 24)
  replace B := bel_alloc (o := (.cells #[.int .u64 (ub T.1), .int .u64 (ub T.2)] 24)) B
  generalize w3.alloc (.cells #[.int .u64 (ub T.1), .int .u64 (ub T.2)] 24) = w50 at *
  have JX0 := JX.c0
  have JX1 := JX.c1
  have JX2 := JX.c2
  have JX3 := JX.c3
  have JXl := JX.lt
  have JY0 := JY.c0
  have JY1 := JY.c1
  have JY2 := JY.c2
  have JY3 := JY.c3
  have JYl := JY.lt
  have JR0 := JR.c0
  have JR1 := JR.c1
  have JR2 := JR.c2
  have JR3 := JR.c3
  have JRl := JR.lt
  have JRf0 := JR.f0
  have JRf1 := JR.f1
  have JRf2 := JR.f2
  have JRf3 := JR.f3
  have JT0 := JT.c0
  have JT1 := JT.c1
  have JTl := JT.lt
  have lb := B.size
  go_wp2_with fail
  clear JX0 JX1 JX2 JX3 JXl JY0 JY1 JY2 JY3 JYl JR0 JR1 JR2 JR3 JRl JRf0 JRf1 JRf2 JRf3 JT0 JT1 JTl lb
  have q0 := JT.c0
  have q1 := JT.c1
  have q2 := JX.c2
  have q3 := JX.c3
  have q4 := JY.c2
  have q5 := JY.c3
  have keepB : ∀ W, Below w50.heap.size w50 W → W.cell? ⟨w3.heap.size, 0, none⟩ = some (.int .u64 (ub T.1)) ∧ W.cell? ⟨w3.heap.size, 1, none⟩ = some (.int .u64 (ub T.2)) ∧ W.cell? ⟨w.heap.size, 2, none⟩ = some (.int .u64 (ub l)) ∧ W.cell? ⟨w.heap.size, 3, none⟩ = some (.int .u64 (ub h)) ∧ W.cell? ⟨w.heap.size + 1, 2, none⟩ = some (.int .u64 (ub l')) ∧ W.cell? ⟨w.heap.size + 1, 3, none⟩ = some (.int .u64 (ub h')) ∧ Below w50.heap.size w50 W := fun W hW => ⟨cn hW q0, cn hW q1, cn hW q2, cn hW q3, cn hW q4, cn hW q5, hW⟩
  have hb0 : Below w50.heap.size w50 w50 := Below.refl _ _
  apply cutG (F := fun g W' => SC W' (w.heap.size) ((v, m), l, h) ∧ SC W' (w.heap.size + 1) ((v', m'), l', h') ∧ SC W' (w.heap.size + 1 + 1) sc0 ∧ BC W' (w3.heap.size) T ∧ SC W' g (Z) ∧ Below w.heap.size w W')
  · go_region_held3 (fun w' => w'.cell? ⟨w3.heap.size, 0, none⟩ = some (.int .u64 (ub T.1)) ∧ w'.cell? ⟨w3.heap.size, 1, none⟩ = some (.int .u64 (ub T.2)) ∧ w'.cell? ⟨w.heap.size, 2, none⟩ = some (.int .u64 (ub l)) ∧ w'.cell? ⟨w.heap.size, 3, none⟩ = some (.int .u64 (ub h)) ∧ w'.cell? ⟨w.heap.size + 1, 2, none⟩ = some (.int .u64 (ub l')) ∧ w'.cell? ⟨w.heap.size + 1, 3, none⟩ = some (.int .u64 (ub h')) ∧ Below w50.heap.size w50 w')
      ((refine keepB _ ?_; go_split_ands; first | (with_reducible assumption) | (with_reducible exact below_dr _) | (with_reducible exact below_next (by assumption) bq) | (with_reducible exact bel_alloc (by assumption)) | (with_reducible exact Below.drew (bel_alloc (by assumption))) | exact Below.setCell (Below.setCell (Below.setCell (Below.setCell (by with_reducible assumption) N.le _) N.le _) N.le _) N.le _))
      (first | (go_at_call 42; go_split_ands; (with_reducible refine (X6.out _).mono ?_); rintro e wq ⟨rfl, bq⟩; have hB7 := below_next (a := w50) (by with_reducible assumption) bq; (first | (have N : NS w50.heap.size wq _ sc0 := ⟨(by first | exact Nat.le_refl _ | exact Below.size (by assumption)), (SC.new rfl).below bq⟩) | (have N : NS w50.heap.size wq _ sc0 := ⟨(by first | exact Nat.le_refl _ | exact Below.size (by assumption)), ((SC.new rfl).below (below_dr _)).below bq⟩) | (have N : NS w50.heap.size wq _ sc0 := ⟨N.le, N.sc.below bq⟩) | skip); (try have n0 := N.sc.c0); (try have n1 := N.sc.c1); (try have n2 := N.sc.c2); (try have n3 := N.sc.c3); (try have nl := N.sc.lt); (try have nf0 := N.sc.f0); (try have nf1 := N.sc.f1); (try have nf2 := N.sc.f2); (try have nf3 := N.sc.f3)) | (go_at_call 10; go_split_ands; (with_reducible refine (X5.out _).mono ?_); rintro e wq ⟨rfl, bq⟩; have hB7 := below_next (a := w50) (by with_reducible assumption) bq; (first | (have N : NS w50.heap.size wq _ sc0 := ⟨(by first | exact Nat.le_refl _ | exact Below.size (by assumption)), (SC.new rfl).below bq⟩) | (have N : NS w50.heap.size wq _ sc0 := ⟨(by first | exact Nat.le_refl _ | exact Below.size (by assumption)), ((SC.new rfl).below (below_dr _)).below bq⟩) | (have N : NS w50.heap.size wq _ sc0 := ⟨N.le, N.sc.below bq⟩) | skip); (try have n0 := N.sc.c0); (try have n1 := N.sc.c1); (try have n2 := N.sc.c2); (try have n3 := N.sc.c3); (try have nl := N.sc.lt); (try have nf0 := N.sc.f0); (try have nf1 := N.sc.f1); (try have nf2 := N.sc.f2); (try have nf3 := N.sc.f3)))
    all_goals
      go_split_ands
      first
        | (have hE := eqS N.sc; obtain ⟨g, hg⟩ := hE)
        | (have hE : ∃ g : Nat, wq.heap.size = g := ⟨_, rfl⟩; obtain ⟨g, hg⟩ := hE)
      refine ⟨g, ⟨JX.below (by with_reducible assumption), JY.below (by with_reducible assumption), JR.below (by with_reducible assumption), JT.below (by with_reducible assumption), ?_, below_next B (by with_reducible assumption)⟩, ?_⟩
      · rw [← hg]
        first | exact N.sc.put (Z) | exact SC.new rfl
      · first | (rw [hg]; done) | (rw [hg]; exact rfl)
  clear keepB hb0 q0 q1 q2 q3 q4 q5 JX JY JR JT B
  intro g51 w51 ⟨JX, JY, JR, JT, JZ, B⟩
  have JX0 := JX.c0
  have JX1 := JX.c1
  have JX2 := JX.c2
  have JX3 := JX.c3
  have JXl := JX.lt
  have JY0 := JY.c0
  have JY1 := JY.c1
  have JY2 := JY.c2
  have JY3 := JY.c3
  have JYl := JY.lt
  have JR0 := JR.c0
  have JR1 := JR.c1
  have JR2 := JR.c2
  have JR3 := JR.c3
  have JRl := JR.lt
  have JRf0 := JR.f0
  have JRf1 := JR.f1
  have JRf2 := JR.f2
  have JRf3 := JR.f3
  have JT0 := JT.c0
  have JT1 := JT.c1
  have JTl := JT.lt
  have JZ0 := JZ.c0
  have JZ1 := JZ.c1
  have JZ2 := JZ.c2
  have JZ3 := JZ.c3
  have JZl := JZ.lt
  have lb := B.size
  go_wp2
  exact bodyPost_ret (v := .tuple #[sv Z, .int .i64 0]) (by simp [results, Tryz.results12, go_sem, JX0, JX1, JX2, JX3, JXl, JY0, JY1, JY2, JY3, JYl, JR0, JR1, JR2, JR3, JRl, JT0, JT1, JTl, JZ0, JZ1, JZ2, JZ3, JZl]; try first | rfl | exact ⟨rfl, rfl⟩) rfl ⟨rfl, putS_below Z B (by omega)⟩
end Go.Proofs.YtodmikjpmcabiaaGreat
