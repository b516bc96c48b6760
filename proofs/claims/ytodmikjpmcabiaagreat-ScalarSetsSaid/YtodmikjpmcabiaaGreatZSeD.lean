/-
  Contract of the document's Join (layer 11).
-/
import Derived.Test.YtodmikjpmcabiaaGreatZRcC
import Derived.Test.YtodmikjpmcabiaaGreatZTnRa
import Derived.Test.YtodmikjpmcabiaaGreatZSpV
import Derived.Test.YtodmikjpmcabiaaGreatZSoC
import Derived.Deep.RegionHeld3
namespace Go.Proofs.YtodmikjpmcabiaaGreat
set_option linter.unusedSimpArgs false
set_option linter.unusedVariables false
set_option maxRecDepth 100000
set_option maxRecDepth 100000
open Go.ChangeShapes Go.WideShapes Go.ChangeAt Go.RowKit

set_option maxHeartbeats 8000000 in
theorem rJoinX_any (a b : Sc) (w : World) : Calls Tryz.prog 13 #[sv a, sv b] w fun e w' => e = .returned (.tuple #[sv (if (mayX a && mayX b) = true then optS (settle (joinT a.1 b.1, joinSp a.2 b.2)) else sc0), .int .i64 (if (mayX a && mayX b) = true then 0 else 1)]) ∧ Below w.heap.size w w' := by
  have XA := fun W => rMayX_any a W
  have XB := fun W => rMayX_any b W
  have X1 := fun W => rJoin_any a.1 b.1 W
  have X2 := fun W => qJoin_any a.2 b.2 W
  have X3 := fun W => rSettle_any (joinT a.1 b.1) (joinSp a.2 b.2) W
  cases ha : mayX a
  · rw [ha] at XA
    rw [Bool.false_and, if_neg (by decide), if_neg (by decide)]
    clear X1 X2 X3 XB ha
    obtain ⟨⟨v, m⟩, l, h⟩ := a
    obtain ⟨⟨v', m'⟩, l', h'⟩ := b
    unfold sv at XA ⊢
    dsimp only at XA ⊢
    replace XA := hid XA
    go_enter Tryz.func13, Tryz.ntmps13
    go_wp2_with fail
    refine (XA.out _).mono ?_
    rintro e w1 ⟨rfl, z⟩
    have JX : SC w1 (w.heap.size) (((v, m), l, h)) := (((SC.new rfl).alloc _).alloc _).below z
    have JY : SC w1 (w.heap.size + 1) (((v', m'), l', h')) := ((SC.new (by simp)).alloc _).below z
    have JR : SC w1 (w.heap.size + 1 + 1) (sc0) := (SC.new (by simp)).below z
    have B := below_next (bel_alloc (bel_alloc (bel_alloc (Below.refl w.heap.size w)))) z
    clear z
    have JX0 := JX.c0
    have JX1 := JX.c1
    have JX2 := JX.c2
    have JX3 := JX.c3
    have JXl := JX.lt
    have JY0 := JY.c0
    have JY1 := JY.c1
    have JY2 := JY.c2
    have JY3 := JY.c3
    have JYl := JY.lt
    have JR0 := JR.c0
    have JR1 := JR.c1
    have JR2 := JR.c2
    have JR3 := JR.c3
    have JRl := JR.lt
    have JRf0 := JR.f0
    have JRf1 := JR.f1
    have JRf2 := JR.f2
    have JRf3 := JR.f3
    have lb := B.size
    go_wp2
    exact bodyPost_ret (v := .tuple #[sv sc0, .int .i64 1]) (by simp [results, Tryz.results13, go_sem, JX0, JX1, JX2, JX3, JXl, JY0, JY1, JY2, JY3, JYl, JR0, JR1, JR2, JR3, JRl]; try first | rfl | exact ⟨rfl, rfl⟩) rfl ⟨rfl, putS_below sc0 B (by omega)⟩
  rw [Bool.true_and]
  cases hb : mayX b
  · rw [ha] at XA
    rw [hb] at XB
    rw [if_neg (by decide), if_neg (by decide)]
    clear X1 X2 X3 ha hb
    obtain ⟨⟨v, m⟩, l, h⟩ := a
    obtain ⟨⟨v', m'⟩, l', h'⟩ := b
    unfold sv at XA XB ⊢
    dsimp only at XA XB ⊢
    replace XA := hid XA
    replace XB := hid XB
    go_enter Tryz.func13, Tryz.ntmps13
    go_wp2_with fail
    refine (XA.out _).mono ?_
    rintro e w1 ⟨rfl, z⟩
    have JX : SC w1 (w.heap.size) (((v, m), l, h)) := (((SC.new rfl).alloc _).alloc _).below z
    have JY : SC w1 (w.heap.size + 1) (((v', m'), l', h')) := ((SC.new (by simp)).alloc _).below z
    have JR : SC w1 (w.heap.size + 1 + 1) (sc0) := (SC.new (by simp)).below z
    have B := below_next (bel_alloc (bel_alloc (bel_alloc (Below.refl w.heap.size w)))) z
    clear z
    have JX0 := JX.c0
    have JX1 := JX.c1
    have JX2 := JX.c2
    have JX3 := JX.c3
    have JXl := JX.lt
    have JY0 := JY.c0
    have JY1 := JY.c1
    have JY2 := JY.c2
    have JY3 := JY.c3
    have JYl := JY.lt
    have JR0 := JR.c0
    have JR1 := JR.c1
    have JR2 := JR.c2
    have JR3 := JR.c3
    have JRl := JR.lt
    have JRf0 := JR.f0
    have JRf1 := JR.f1
    have JRf2 := JR.f2
    have JRf3 := JR.f3
    have lb := B.size
    go_wp2_with fail
    refine (XB.out _).mono ?_
    rintro e w2 ⟨rfl, z⟩
    clear JX0 JX1 JX2 JX3 JXl JY0 JY1 JY2 JY3 JYl JR0 JR1 JR2 JR3 JRl JRf0 JRf1 JRf2 JRf3 lb
    replace JX := JX.below z
    replace JY := JY.below z
    replace JR := JR.below z
    replace B := below_next B z
    clear z
    have JX0 := JX.c0
    have JX1 := JX.c1
    have JX2 := JX.c2
    have JX3 := JX.c3
    have JXl := JX.lt
    have JY0 := JY.c0
    have JY1 := JY.c1
    have JY2 := JY.c2
    have JY3 := JY.c3
    have JYl := JY.lt
    have JR0 := JR.c0
    have JR1 := JR.c1
    have JR2 := JR.c2
    have JR3 := JR.c3
    have JRl := JR.lt
    have JRf0 := JR.f0
    have JRf1 := JR.f1
    have JRf2 := JR.f2
    have JRf3 := JR.f3
    have lb := B.size
    go_wp2
    exact bodyPost_ret (v := .tuple #[sv sc0, .int .i64 1]) (by simp [results, Tryz.results13, go_sem, JX0, JX1, JX2, JX3, JXl, JY0, JY1, JY2, JY3, JYl, JR0, JR1, JR2, JR3, JRl]; try first | rfl | exact ⟨rfl, rfl⟩) rfl ⟨rfl, putS_below sc0 B (by omega)⟩
  rw [if_pos rfl, if_pos rfl]
  have ht : bothT a.1 b.1 (joinT a.1 b.1) = joinT a.1 b.1 := by
    unfold bothT
    rw [(scOk_may ((mayX_iff a).1 ha).1).1, (scOk_may ((mayX_iff b).1 hb).1).1]
    rfl
  rw [ht] at X1
  rw [ha] at XA
  rw [hb] at XB
  clear ht ha hb
  generalize bothE a.1 b.1 = e1 at *
  generalize optS (settle (joinT a.1 b.1, joinSp a.2 b.2)) = R at *
  generalize (settle (joinT a.1 b.1, joinSp a.2 b.2)).isSome = k at *
  generalize joinT a.1 b.1 = T at *
  generalize joinSp a.2 b.2 = S at *
  obtain ⟨⟨v, m⟩, l, h⟩ := a
  obtain ⟨⟨v', m'⟩, l', h'⟩ := b
  unfold sv at XA XB X3 ⊢
  unfold tv at X1 X2 X3
  dsimp only at XA XB X1 X2 X3 ⊢
  replace XA := hid XA
  replace XB := hid XB
  replace X1 := hid X1
  replace X2 := hid X2
  replace X3 := hid X3
  go_enter Tryz.func13, Tryz.ntmps13
  go_wp2_with fail
  refine (XA.out _).mono ?_
  rintro e w1 ⟨rfl, z⟩
  have JX : SC w1 (w.heap.size) (((v, m), l, h)) := (((SC.new rfl).alloc _).alloc _).below z
  have JY : SC w1 (w.heap.size + 1) (((v', m'), l', h')) := ((SC.new (by simp)).alloc _).below z
  have JR : SC w1 (w.heap.size + 1 + 1) (sc0) := (SC.new (by simp)).below z
  have B := below_next (bel_alloc (bel_alloc (bel_alloc (Below.refl w.heap.size w)))) z
  clear z
  have JX0 := JX.c0
  have JX1 := JX.c1
  have JX2 := JX.c2
  have JX3 := JX.c3
  have JXl := JX.lt
  have JY0 := JY.c0
  have JY1 := JY.c1
  have JY2 := JY.c2
  have JY3 := JY.c3
  have JYl := JY.lt
  have JR0 := JR.c0
  have JR1 := JR.c1
  have JR2 := JR.c2
  have JR3 := JR.c3
  have JRl := JR.lt
  have JRf0 := JR.f0
  have JRf1 := JR.f1
  have JRf2 := JR.f2
  have JRf3 := JR.f3
  have lb := B.size
  go_wp2_with fail
  refine (XB.out _).mono ?_
  rintro e w2 ⟨rfl, z⟩
  clear JX0 JX1 JX2 JX3 JXl JY0 JY1 JY2 JY3 JYl JR0 JR1 JR2 JR3 JRl JRf0 JRf1 JRf2 JRf3 lb
  replace JX := JX.below z
  replace JY := JY.below z
  replace JR := JR.below z
  replace B := below_next B z
  clear z
  have JX0 := JX.c0
  have JX1 := JX.c1
  have JX2 := JX.c2
  have JX3 := JX.c3
  have JXl := JX.lt
  have JY0 := JY.c0
  have JY1 := JY.c1
  have JY2 := JY.c2
  have JY3 := JY.c3
  have JYl := JY.lt
  have JR0 := JR.c0
  have JR1 := JR.c1
  have JR2 := JR.c2
  have JR3 := JR.c3
  have JRl := JR.lt
  have JRf0 := JR.f0
  have JRf1 := JR.f1
  have JRf2 := JR.f2
  have JRf3 := JR.f3
  have lb := B.size
  go_wp2_with fail
  refine (X1.out _).mono ?_
  rintro e w3 ⟨rfl, z⟩
  clear JX0 JX1 JX2 JX3 JXl JY0 JY1 JY2 JY3 JYl JR0 JR1 JR2 JR3 JRl JRf0 JRf1 JRf2 JRf3 lb
  replace JX := JX.below z
  replace JY := JY.below z
  replace JR := JR.below z
  replace B := below_next B z
  clear z
  have JX0 := JX.c0
  have JX1 := JX.c1
  have JX2 := JX.c2
  have JX3 := JX.c3
  have JXl := JX.lt
  have JY0 := JY.c0
  have JY1 := JY.c1
  have JY2 := JY.c2
  have JY3 := JY.c3
  have JYl := JY.lt
  have JR0 := JR.c0
  have JR1 := JR.c1
  have JR2 := JR.c2
  have JR3 := JR.c3
  have JRl := JR.lt
  have JRf0 := JR.f0
  have JRf1 := JR.f1
  have JRf2 := JR.f2
  have JRf3 := JR.f3
  have lb := B.size
  go_wp2_with fail
  clear JX0 JX1 JX2 JX3 JXl JY0 JY1 JY2 JY3 JYl JR0 JR1 JR2 JR3 JRl JRf0 JRf1 JRf2 JRf3 lb
  have g3 := JX.lt
  have g4 := JY.lt
  have g5 := JR.lt
  have g6 := B.size
  have JT : BC (w3.alloc (.cells #[.int .u64 (ub T.1), .int .u64 (ub T.2)] 24)) w3.heap.size T := BC.new rfl
  replace JX := JX.alloc (.cells #[.int .u64 (ub T.1), .int .u64 (ub T.2)] 24)
  replace JY := JY.alloc (.cells #[.int .u64 (ub T.1), .int .u64 (ub T.2)] 24)
  replace JR := JR.alloc (.cells #[.int .u64 (ub T.1), .int .u64 (ub T.2)] 24)
  replace B : Below w.heap.size w (w3.alloc (.cells #[.int .u64 (ub T.1), .int .u64 (ub T.2)] 24)) := bel_alloc B
  generalize w3.alloc (.cells #[.int .u64 (ub T.1), .int .u64 (ub T.2)] 24) = u at *
  have JX0 := JX.c0
  have JX1 := JX.c1
  have JX2 := JX.c2
  have JX3 := JX.c3
  have JXl := JX.lt
  have JY0 := JY.c0
  have JY1 := JY.c1
  have JY2 := JY.c2
  have JY3 := JY.c3
  have JYl := JY.lt
  have JR0 := JR.c0
  have JR1 := JR.c1
  have JR2 := JR.c2
  have JR3 := JR.c3
  have JRl := JR.lt
  have JRf0 := JR.f0
  have JRf1 := JR.f1
  have JRf2 := JR.f2
  have JRf3 := JR.f3
  have JT0 := JT.c0
  have JT1 := JT.c1
  have JTl := JT.lt
  have lb := B.size
  go_wp2_with fail
  clear JX0 JX1 JX2 JX3 JXl JY0 JY1 JY2 JY3 JYl JR0 JR1 JR2 JR3 JRl JRf0 JRf1 JRf2 JRf3 JT0 JT1 JTl lb
  have q0 := JT.c0
  have q1 := JT.c1
  have q2 := JX.c2
  have q3 := JX.c3
  have q4 := JY.c2
  have q5 := JY.c3
  have keepB : ∀ W, Below u.heap.size u W → W.cell? ⟨w3.heap.size, 0, none⟩ = some (.int .u64 (ub T.1)) ∧ W.cell? ⟨w3.heap.size, 1, none⟩ = some (.int .u64 (ub T.2)) ∧ W.cell? ⟨w.heap.size, 2, none⟩ = some (.int .u64 (ub l)) ∧ W.cell? ⟨w.heap.size, 3, none⟩ = some (.int .u64 (ub h)) ∧ W.cell? ⟨w.heap.size + 1, 2, none⟩ = some (.int .u64 (ub l')) ∧ W.cell? ⟨w.heap.size + 1, 3, none⟩ = some (.int .u64 (ub h')) ∧ Below u.heap.size u W := fun W hW => ⟨cn hW q0, cn hW q1, cn hW q2, cn hW q3, cn hW q4, cn hW q5, hW⟩
  have hb0 : Below u.heap.size u u := Below.refl _ _
  apply cutG (F := fun g W' => SC W' (w.heap.size) ((v, m), l, h) ∧ SC W' (w.heap.size + 1) ((v', m'), l', h') ∧ SC W' (w.heap.size + 1 + 1) sc0 ∧ BC W' (w3.heap.size) T ∧ SC W' g (R) ∧ Below w.heap.size w W')
  · go_region_held3 (fun w' => w'.cell? ⟨w3.heap.size, 0, none⟩ = some (.int .u64 (ub T.1)) ∧ w'.cell? ⟨w3.heap.size, 1, none⟩ = some (.int .u64 (ub T.2)) ∧ w'.cell? ⟨w.heap.size, 2, none⟩ = some (.int .u64 (ub l)) ∧ w'.cell? ⟨w.heap.size, 3, none⟩ = some (.int .u64 (ub h)) ∧ w'.cell? ⟨w.heap.size + 1, 2, none⟩ = some (.int .u64 (ub l')) ∧ w'.cell? ⟨w.heap.size + 1, 3, none⟩ = some (.int .u64 (ub h')) ∧ Below u.heap.size u w')
      ((refine keepB _ ?_; go_split_ands; first | (with_reducible assumption) | (with_reducible exact below_dr _) | (with_reducible exact below_next (by assumption) bq) | (with_reducible exact bel_alloc (by assumption)) | (with_reducible exact Below.drew (bel_alloc (by assumption))) | exact Below.setCell (Below.setCell (Below.setCell (Below.setCell (by with_reducible assumption) N.le _) N.le _) N.le _) N.le _))
      (first | (go_at_call 44; go_split_ands; (with_reducible refine (X2.out _).mono ?_); rintro e wq ⟨rfl, bq⟩; have hB7 := below_next (a := u) (by with_reducible assumption) bq; (first | (have N : NS u.heap.size wq _ sc0 := ⟨(by first | exact Nat.le_refl _ | exact Below.size (by assumption)), (SC.new rfl).below bq⟩) | (have N : NS u.heap.size wq _ sc0 := ⟨(by first | exact Nat.le_refl _ | exact Below.size (by assumption)), ((SC.new rfl).below (below_dr _)).below bq⟩) | (have N : NS u.heap.size wq _ sc0 := ⟨N.le, N.sc.below bq⟩) | skip); (try have n0 := N.sc.c0); (try have n1 := N.sc.c1); (try have n2 := N.sc.c2); (try have n3 := N.sc.c3); (try have nl := N.sc.lt); (try have nf0 := N.sc.f0); (try have nf1 := N.sc.f1); (try have nf2 := N.sc.f2); (try have nf3 := N.sc.f3)) | (go_at_call 11; go_split_ands; (with_reducible refine (X3.out _).mono ?_); rintro e wq ⟨rfl, bq⟩; have hB7 := below_next (a := u) (by with_reducible assumption) bq; (first | (have N : NS u.heap.size wq _ sc0 := ⟨(by first | exact Nat.le_refl _ | exact Below.size (by assumption)), (SC.new rfl).below bq⟩) | (have N : NS u.heap.size wq _ sc0 := ⟨(by first | exact Nat.le_refl _ | exact Below.size (by assumption)), ((SC.new rfl).below (below_dr _)).below bq⟩) | (have N : NS u.heap.size wq _ sc0 := ⟨N.le, N.sc.below bq⟩) | skip); (try have n0 := N.sc.c0); (try have n1 := N.sc.c1); (try have n2 := N.sc.c2); (try have n3 := N.sc.c3); (try have nl := N.sc.lt); (try have nf0 := N.sc.f0); (try have nf1 := N.sc.f1); (try have nf2 := N.sc.f2); (try have nf3 := N.sc.f3)))
    all_goals
      go_split_ands
      first
        | (have hE := eqS N.sc; obtain ⟨g, hg⟩ := hE)
        | (have hE : ∃ g : Nat, wq.heap.size = g := ⟨_, rfl⟩; obtain ⟨g, hg⟩ := hE)
      refine ⟨g, ⟨JX.below (by with_reducible assumption), JY.below (by with_reducible assumption), JR.below (by with_reducible assumption), JT.below (by with_reducible assumption), ?_, below_next B (by with_reducible assumption)⟩, ?_⟩
      · rw [← hg]
        first | exact N.sc.put (R) | exact SC.new rfl
      · first | (rw [hg]; done) | (rw [hg]; exact rfl)
  clear keepB hb0 q0 q1 q2 q3 q4 q5 JX JY JR JT B
  intro g51 w51 ⟨JX, JY, JR, JT, JZ, B⟩
  have JX0 := JX.c0
  have JX1 := JX.c1
  have JX2 := JX.c2
  have JX3 := JX.c3
  have JXl := JX.lt
  have JY0 := JY.c0
  have JY1 := JY.c1
  have JY2 := JY.c2
  have JY3 := JY.c3
  have JYl := JY.lt
  have JR0 := JR.c0
  have JR1 := JR.c1
  have JR2 := JR.c2
  have JR3 := JR.c3
  have JRl := JR.lt
  have JRf0 := JR.f0
  have JRf1 := JR.f1
  have JRf2 := JR.f2
  have JRf3 := JR.f3
  have JT0 := JT.c0
  have JT1 := JT.c1
  have JTl := JT.lt
  have JZ0 := JZ.c0
  have JZ1 := JZ.c1
  have JZ2 := JZ.c2
  have JZ3 := JZ.c3
  have JZl := JZ.lt
  have lb := B.size
  go_wp2
  exact bodyPost_ret (v := .tuple #[sv R, .int .i64 0]) (by simp [results, Tryz.results13, go_sem, JX0, JX1, JX2, JX3, JXl, JY0, JY1, JY2, JY3, JYl, JR0, JR1, JR2, JR3, JRl, JT0, JT1, JTl, JZ0, JZ1, JZ2, JZ3, JZl]; try first | rfl | exact ⟨rfl, rfl⟩) rfl ⟨rfl, putS_below R B (by omega)⟩
end Go.Proofs.YtodmikjpmcabiaaGreat
