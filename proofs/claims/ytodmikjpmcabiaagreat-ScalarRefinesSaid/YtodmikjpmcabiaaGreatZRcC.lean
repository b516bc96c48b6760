import Derived.Test.YtodmikjpmcabiaaGreatZScC
import Derived.Test.YtodmikjpmcabiaaGreatZTnRa
import Derived.Test.YtodmikjpmcabiaaGreatZSpU
namespace Go.Proofs.YtodmikjpmcabiaaGreat
set_option linter.unusedSimpArgs false
set_option linter.unusedVariables false
set_option maxRecDepth 100000
set_option maxRecDepth 100000
open Go.ChangeShapes Go.WideShapes Go.ChangeAt Go.RowKit

theorem SC.otherT {w : World} {b c : Nat} {x : Sc} (h : SC w b x) (hbc : b ≠ c) (u : Tn) : SC (put2 w c u) b x := by
  have e := put2_heap w c u hbc
  have g : ∀ k, (put2 w c u).cell? ⟨b, k, none⟩ = w.cell? ⟨b, k, none⟩ := fun k => World.cell?_of_block (w := w) (a := ⟨b, k, none⟩) e
  have f : ∀ k, (put2 w c u).frozen? ⟨b, k, none⟩ = w.frozen? ⟨b, k, none⟩ := fun k => World.frozen?_of_block (w := w) (a := ⟨b, k, none⟩) e
  exact ⟨by rw [put2_size]; exact h.lt, (g 0).trans h.c0, (g 1).trans h.c1, (g 2).trans h.c2, (g 3).trans h.c3, (f 0).trans h.f0, (f 1).trans h.f1, (f 2).trans h.f2, (f 3).trans h.f3⟩
theorem eq_tn (t : TypeId) (x y : Tn) (W : World) (hT : t = 24 ∨ t = 26) : (binOp .eql t (tv x) (tv y)).run Tryz.prog W = .ok (.bool (x == y)) W := by
  obtain ⟨a, b⟩ := x
  obtain ⟨c, d⟩ := y
  unfold tv
  have e : (((a, b) : Tn) == (c, d) : Bool) = ((a == c) && (b == d)) := rfl
  rw [e]
  rcases hT with rfl | rfl <;> (go_simp; by_cases h1 : a = c <;> by_cases h2 : b = d <;> simp [h1, h2])
theorem sum_or {t : Tn} (h : tmay t = true) : t.1 + t.2 = t.1 ||| t.2 := by
  unfold tmay at h
  rw [beq_iff_eq] at h
  exact BitVec.add_eq_or_of_and_eq_zero _ _ h
structure ReI (w : World) (y : Sc) (wr : World) : Prop where
  t : BC wr w.heap.size y.1
  s : BC wr (w.heap.size + 1) y.2
  r : SC wr (w.heap.size + 1 + 1) sc0
  bel : Below w.heap.size w wr
theorem rSettle_bad (t s : Tn) (h : (tmay t && mayS s) = false) (w : World) : Calls Tryz.prog 11 #[tv t, tv s] w fun e w' => e = .returned (.tuple #[sv sc0, .bool false]) ∧ Below w.heap.size w w' := by
  have XM := fun W => rMay_any t W
  have XS := fun W => qMay_any s W
  cases ht : tmay t
  · rw [ht] at XM
    unfold tv at XM XS ⊢
    clear XS
    replace XM := hid XM
    unfold sv
    go_enter Tryz.func11, Tryz.ntmps11
    go_wp2_with fail
    refine (XM.out _).mono ?_
    rintro e w1 ⟨rfl, z⟩
    have JT : BC w1 (w.heap.size) (t) := (((BC.new rfl).alloc _).alloc _).below z
    have JS : BC w1 (w.heap.size + 1) (s) := ((BC.new (by simp)).alloc _).below z
    have JR : SC w1 (w.heap.size + 1 + 1) (sc0) := (SC.new (by simp)).below z
    have B := below_next (bel_alloc (bel_alloc (bel_alloc (Below.refl w.heap.size w)))) z
    clear z
    have JT0 := JT.c0
    have JT1 := JT.c1
    have JTl := JT.lt
    have JS0 := JS.c0
    have JS1 := JS.c1
    have JSl := JS.lt
    obtain ⟨JRl, JR0, JR1, JR2, JR3, JRf0, JRf1, JRf2, JRf3⟩ := id JR
    have lb := B.size
    go_wp2
    exact bodyPost_ret (v := .tuple #[sv sc0, .bool false]) (by simp [results, Tryz.results11, go_sem, JT0, JT1, JTl, JS0, JS1, JSl, JR0, JR1, JR2, JR3, JRl]; try first | rfl | exact ⟨rfl, rfl⟩) rfl ⟨rfl, putS_below sc0 B (by omega)⟩
  · rw [ht, Bool.true_and] at h
    rw [ht] at XM
    rw [h] at XS
    unfold tv at XM XS ⊢
    replace XM := hid XM
    replace XS := hid XS
    unfold sv
    go_enter Tryz.func11, Tryz.ntmps11
    go_wp2_with fail
    refine (XM.out _).mono ?_
    rintro e w1 ⟨rfl, z⟩
    have JT : BC w1 (w.heap.size) (t) := (((BC.new rfl).alloc _).alloc _).below z
    have JS : BC w1 (w.heap.size + 1) (s) := ((BC.new (by simp)).alloc _).below z
    have JR : SC w1 (w.heap.size + 1 + 1) (sc0) := (SC.new (by simp)).below z
    have B := below_next (bel_alloc (bel_alloc (bel_alloc (Below.refl w.heap.size w)))) z
    clear z
    have JT0 := JT.c0
    have JT1 := JT.c1
    have JTl := JT.lt
    have JS0 := JS.c0
    have JS1 := JS.c1
    have JSl := JS.lt
    obtain ⟨JRl, JR0, JR1, JR2, JR3, JRf0, JRf1, JRf2, JRf3⟩ := id JR
    have lb := B.size
    go_wp2_with fail
    refine (XS.out _).mono ?_
    rintro e w2 ⟨rfl, z⟩
    clear JT0 JT1 JTl JS0 JS1 JSl JR0 JR1 JR2 JR3 JRl JRf0 JRf1 JRf2 JRf3 lb
    replace JT := JT.below z
    replace JS := JS.below z
    replace JR := JR.below z
    replace B := below_next B z
    clear z
    have JT0 := JT.c0
    have JT1 := JT.c1
    have JTl := JT.lt
    have JS0 := JS.c0
    have JS1 := JS.c1
    have JSl := JS.lt
    obtain ⟨JRl, JR0, JR1, JR2, JR3, JRf0, JRf1, JRf2, JRf3⟩ := id JR
    have lb := B.size
    go_wp2
    exact bodyPost_ret (v := .tuple #[sv sc0, .bool false]) (by simp [results, Tryz.results11, go_sem, JT0, JT1, JTl, JS0, JS1, JSl, JR0, JR1, JR2, JR3, JRl]; try first | rfl | exact ⟨rfl, rfl⟩) rfl ⟨rfl, putS_below sc0 B (by omega)⟩
set_option maxHeartbeats 16000000 in
theorem rSettle_ok (t s : Tn) (ht : tmay t = true) (hs : mayS s = true) (w : World) : Calls Tryz.prog 11 #[tv t, tv s] w fun e w' => e = .returned (.tuple #[sv (optS (settle (t, s))), .bool (settle (t, s)).isSome]) ∧ Below w.heap.size w w' := by
  have XM := fun W => rMay_any t W
  have XS := fun W => qMay_any s W
  rw [ht] at XM
  rw [hs] at XS
  have XQ := hid (fun (y : Sc) (W : World) => qMeet_any y.2 (y.1.1, y.1.1 + y.1.2) W)
  have XR := hid (fun (lo hi : B64) (W : World) => rRange_any lo hi W)
  have XT := hid (fun (a b : Tn) (W : World) => rMeet_any a b W)
  obtain ⟨Z, HZ⟩ : ∃ Z, Z = settle (t, s) := ⟨_, rfl⟩
  rw [← HZ]
  have hmu := mu_le (t, s)
  obtain ⟨x0, hx0⟩ : ∃ x0 : Sc, x0 = (t, s) := ⟨_, rfl⟩
  have HI0 : Hid (settle x0 = Z ∧ tmay x0.1 = true ∧ mu x0 + 0 < 300) := hid (by rw [hx0]; exact ⟨HZ.symm, ht, by omega⟩)
  clear HZ hmu ht hs
  unfold tv at XM XS ⊢
  replace XM := hid XM
  replace XS := hid XS
  go_enter Tryz.func11, Tryz.ntmps11
  go_wp2_with fail
  refine (XM.out _).mono ?_
  rintro e w1 ⟨rfl, z⟩
  have JT : BC w1 (w.heap.size) (t) := (((BC.new rfl).alloc _).alloc _).below z
  have JS : BC w1 (w.heap.size + 1) (s) := ((BC.new (by simp)).alloc _).below z
  have JR : SC w1 (w.heap.size + 1 + 1) (sc0) := (SC.new (by simp)).below z
  have B := below_next (bel_alloc (bel_alloc (bel_alloc (Below.refl w.heap.size w)))) z
  clear z
  have JT0 := JT.c0
  have JT1 := JT.c1
  have JTl := JT.lt
  have JS0 := JS.c0
  have JS1 := JS.c1
  have JSl := JS.lt
  obtain ⟨JRl, JR0, JR1, JR2, JR3, JRf0, JRf1, JRf2, JRf3⟩ := id JR
  have lb := B.size
  go_wp2_with fail
  refine (XS.out _).mono ?_
  rintro e w2 ⟨rfl, z⟩
  clear JT0 JT1 JTl JS0 JS1 JSl JR0 JR1 JR2 JR3 JRl JRf0 JRf1 JRf2 JRf3 lb
  replace JT := JT.below z
  replace JS := JS.below z
  replace JR := JR.below z
  replace B := below_next B z
  clear z
  have JT0 := JT.c0
  have JT1 := JT.c1
  have JTl := JT.lt
  have JS0 := JS.c0
  have JS1 := JS.c1
  have JSl := JS.lt
  obtain ⟨JRl, JR0, JR1, JR2, JR3, JRf0, JRf1, JRf2, JRf3⟩ := id JR
  have lb := B.size
  go_wp2_with fail
  clear JT0 JT1 JTl JS0 JS1 JSl JR0 JR1 JR2 JR3 JRl JRf0 JRf1 JRf2 JRf3 lb
  have I0 : ReI w x0 w2 := by rw [hx0]; exact ⟨JT, JS, JR, B⟩
  replace HI0 := hid (And.intro I0 HI0.out)
  clear I0 JT JS JR B
  clear hx0
  go_loopw [6] (fun i wr => ∃ n : Nat, i = .int .i64 n ∧ ∃ y : Sc, Hid (ReI w y wr ∧ settle y = Z ∧ tmay y.1 = true ∧ mu y + n < 300)) (fun i _ => 300 - (intOf i).toNat)
  case atStart => exact ⟨0, rfl, x0, HI0⟩
  case round =>
    obtain ⟨n, rfl, y, HI⟩ := hrel
    obtain ⟨wo, rfl⟩ : ∃ wo : World, wo = wr := ⟨_, rfl⟩
    have hs := settle_step y
    rw [HI.out.2.1] at hs
    have hmu := HI.out.2.2.2
    have htm := HI.out.2.2.1
    obtain ⟨JRt, JRs, JR, B⟩ := HI.out.1
    have hn : (n : Int) < 300 := by omega
    have X1 := XQ.out y
    rw [sum_or htm] at X1
    have hE : meetP y.2 (y.1.1, y.1.1 ||| y.1.2) = endsP y := rfl
    unfold meetS at X1
    rw [hE] at X1
    rw [show y.1.1 ||| y.1.2 = (hull y.1).2 from rfl, show (y.1.1, (hull y.1).2) = hull y.1 from rfl] at X1
    clear hE
    cases hm : mayS (endsP y)
    · have ho : ¬ scOk y = true := by unfold scOk; rw [hm]; simp
      rw [if_neg ho] at hs
      subst hs
      rw [hm, if_neg (by decide)] at X1
      clear XQ XR XT HI ho hm
      have hh : hull y.1 = (y.1.1, y.1.1 + y.1.2) := by unfold hull; rw [sum_or htm]
      rw [hh] at X1
      clear hh htm hmu
      obtain ⟨⟨v, m⟩, l, h⟩ := y
      unfold tv at X1
      dsimp only at X1
      replace X1 := hid X1
      have JRt0 := JRt.c0
      have JRt1 := JRt.c1
      have JRtl := JRt.lt
      have JRtf0 := JRt.f0
      have JRtf1 := JRt.f1
      have JRs0 := JRs.c0
      have JRs1 := JRs.c1
      have JRsl := JRs.lt
      have JRsf0 := JRs.f0
      have JRsf1 := JRs.f1
      obtain ⟨JRl, JR0, JR1, JR2, JR3, JRf0, JRf1, JRf2, JRf3⟩ := id JR
      have lb := B.size
      go_wp2_with fail
      refine (X1.out _).mono ?_
      rintro e w51 ⟨rfl, z⟩
      clear JRt0 JRt1 JRtl JRtf0 JRtf1 JRs0 JRs1 JRsl JRsf0 JRsf1 JR0 JR1 JR2 JR3 JRl JRf0 JRf1 JRf2 JRf3 lb
      have g51JRt : w.heap.size < wo.heap.size := JRt.lt
      have g51JRs : (w.heap.size + 1) < wo.heap.size := JRs.lt
      have g51JR : (w.heap.size + 1 + 1) < wo.heap.size := JR.lt
      have g51B := B.size
      replace JRt := (JRt.alloc _).below z
      replace JRs := (JRs.alloc _).below z
      replace JR := (JR.alloc _).below z
      have JW : SC w51 (wo.heap.size) (((v, m), l, h)) := (SC.new rfl).below z
      replace B := below_next (bel_alloc B) z
      clear z
      have JRt0 := JRt.c0
      have JRt1 := JRt.c1
      have JRtl := JRt.lt
      have JRtf0 := JRt.f0
      have JRtf1 := JRt.f1
      have JRs0 := JRs.c0
      have JRs1 := JRs.c1
      have JRsl := JRs.lt
      have JRsf0 := JRs.f0
      have JRsf1 := JRs.f1
      obtain ⟨JRl, JR0, JR1, JR2, JR3, JRf0, JRf1, JRf2, JRf3⟩ := id JR
      obtain ⟨JWl, JW0, JW1, JW2, JW3⟩ := JW.k
      have lb := B.size
      go_wp2
      exact bodyPost_ret (v := .tuple #[sv sc0, .bool false]) (by simp [results, Tryz.results11, go_sem, JRt0, JRt1, JRtl, JRs0, JRs1, JRsl, JR0, JR1, JR2, JR3, JRl, JW0, JW1, JW2, JW3, JWl]; try first | rfl | exact ⟨rfl, rfl⟩) rfl ⟨rfl, bel_alloc (putS_below sc0 B (by omega))⟩
    · rw [hm, if_pos rfl] at X1
      have hle : ¬ ub (endsP y).2 < ub (endsP y).1 := by
        unfold mayS at hm
        rw [decide_eq_true_eq] at hm
        unfold ub; omega
      have hr : rangeT (endsP y).1 (endsP y).2 = rgX y := by unfold rangeT; rw [if_neg hle]; rfl
      have X2 := XR.out (endsP y).1 (endsP y).2
      rw [hr] at X2
      generalize rangeE (endsP y).1 (endsP y).2 = E at X2
      have X3 := XT.out y.1 (rgX y)
      have hh : hull y.1 = (y.1.1, y.1.1 + y.1.2) := by unfold hull; rw [sum_or htm]
      rw [hh] at X1
      clear hr hle hh htm XQ XR XT
      cases hk : meetB y.1 (rgX y)
      · have ho : ¬ scOk y = true := by unfold scOk; rw [hm, hk]; simp
        rw [if_neg ho] at hs
        subst hs
        rw [hk, if_neg (by decide)] at X3
        clear HI ho hk hm hmu
        generalize endsP y = P at *
        generalize rgX y = Q at *
        obtain ⟨⟨v, m⟩, l, h⟩ := y
        unfold tv at X1 X2 X3
        dsimp only at X1 X2 X3
        replace X1 := hid X1
        replace X2 := hid X2
        replace X3 := hid X3
        have JRt0 := JRt.c0
        have JRt1 := JRt.c1
        have JRtl := JRt.lt
        have JRtf0 := JRt.f0
        have JRtf1 := JRt.f1
        have JRs0 := JRs.c0
        have JRs1 := JRs.c1
        have JRsl := JRs.lt
        have JRsf0 := JRs.f0
        have JRsf1 := JRs.f1
        obtain ⟨JRl, JR0, JR1, JR2, JR3, JRf0, JRf1, JRf2, JRf3⟩ := id JR
        have lb := B.size
        go_wp2_with fail
        refine (X1.out _).mono ?_
        rintro e w51 ⟨rfl, z⟩
        clear JRt0 JRt1 JRtl JRtf0 JRtf1 JRs0 JRs1 JRsl JRsf0 JRsf1 JR0 JR1 JR2 JR3 JRl JRf0 JRf1 JRf2 JRf3 lb
        have g51JRt : w.heap.size < wo.heap.size := JRt.lt
        have g51JRs : (w.heap.size + 1) < wo.heap.size := JRs.lt
        have g51JR : (w.heap.size + 1 + 1) < wo.heap.size := JR.lt
        have g51B := B.size
        replace JRt := (JRt.alloc _).below z
        replace JRs := (JRs.alloc _).below z
        replace JR := (JR.alloc _).below z
        have JW : SC w51 (wo.heap.size) (((v, m), l, h)) := (SC.new rfl).below z
        replace B := below_next (bel_alloc B) z
        clear z
        have JRt0 := JRt.c0
        have JRt1 := JRt.c1
        have JRtl := JRt.lt
        have JRtf0 := JRt.f0
        have JRtf1 := JRt.f1
        have JRs0 := JRs.c0
        have JRs1 := JRs.c1
        have JRsl := JRs.lt
        have JRsf0 := JRs.f0
        have JRsf1 := JRs.f1
        obtain ⟨JRl, JR0, JR1, JR2, JR3, JRf0, JRf1, JRf2, JRf3⟩ := id JR
        obtain ⟨JWl, JW0, JW1, JW2, JW3⟩ := JW.k
        have lb := B.size
        go_wp2_with fail
        refine (X2.out _).mono ?_
        rintro e w52 ⟨rfl, z⟩
        clear JRt0 JRt1 JRtl JRtf0 JRtf1 JRs0 JRs1 JRsl JRsf0 JRsf1 JR0 JR1 JR2 JR3 JRl JRf0 JRf1 JRf2 JRf3 JW0 JW1 JW2 JW3 JWl lb
        have g52JRt : w.heap.size < w51.heap.size := JRt.lt
        have g52JRs : (w.heap.size + 1) < w51.heap.size := JRs.lt
        have g52JR : (w.heap.size + 1 + 1) < w51.heap.size := JR.lt
        have g52JW : wo.heap.size < w51.heap.size := JW.lt
        have g52B := B.size
        have lb := B.size
        have JRtl := JRt.lt
        have JRsl := JRs.lt
        have JRl := JR.lt
        have JWl := JW.lt
        have JRtx := JRt.other (c := (w.heap.size + 1)) (by omega) (P)
        have JRx := JR.otherT (c := (w.heap.size + 1)) (by omega) (P)
        have JWx := JW.otherT (c := (w.heap.size + 1)) (by omega) (P)
        have Bx := put2_below (P) B (by omega : w.heap.size ≤ (w.heap.size + 1))
        replace JRs := JRs.put (P)
        clear lb JRtl JRsl JRl JWl B JRt JR JW
        have B := Bx
        clear Bx
        have JRt := JRtx
        clear JRtx
        have JR := JRx
        clear JRx
        have JW := JWx
        clear JWx
        replace JRt := (JRt.alloc _).below z
        replace JRs := (JRs.alloc _).below z
        replace JR := (JR.alloc _).below z
        replace JW := (JW.alloc _).below z
        have JU : BC w52 (w51.heap.size) (P) := (BC.new (by simp)).below z
        replace B := below_next (bel_alloc B) z
        clear z
        have JRt0 := JRt.c0
        have JRt1 := JRt.c1
        have JRtl := JRt.lt
        have JRtf0 := JRt.f0
        have JRtf1 := JRt.f1
        have JRs0 := JRs.c0
        have JRs1 := JRs.c1
        have JRsl := JRs.lt
        have JRsf0 := JRs.f0
        have JRsf1 := JRs.f1
        obtain ⟨JRl, JR0, JR1, JR2, JR3, JRf0, JRf1, JRf2, JRf3⟩ := id JR
        obtain ⟨JWl, JW0, JW1, JW2, JW3⟩ := JW.k
        have JU0 := JU.c0
        have JU1 := JU.c1
        have JUl := JU.lt
        have lb := B.size
        go_wp2_with fail
        refine (X3.out _).mono ?_
        rintro e w53 ⟨rfl, z⟩
        clear JRt0 JRt1 JRtl JRtf0 JRtf1 JRs0 JRs1 JRsl JRsf0 JRsf1 JR0 JR1 JR2 JR3 JRl JRf0 JRf1 JRf2 JRf3 JW0 JW1 JW2 JW3 JWl JU0 JU1 JUl lb
        have g53JRt : w.heap.size < w52.heap.size := JRt.lt
        have g53JRs : (w.heap.size + 1) < w52.heap.size := JRs.lt
        have g53JR : (w.heap.size + 1 + 1) < w52.heap.size := JR.lt
        have g53JW : wo.heap.size < w52.heap.size := JW.lt
        have g53JU : w51.heap.size < w52.heap.size := JU.lt
        have g53B := B.size
        replace JRt := (JRt.alloc _).below z
        replace JRs := (JRs.alloc _).below z
        replace JR := (JR.alloc _).below z
        replace JW := (JW.alloc _).below z
        replace JU := (JU.alloc _).below z
        have JQ : BC w53 (w52.heap.size) (Q) := (BC.new (by simp)).below z
        replace B := below_next (bel_alloc B) z
        clear z
        have JRt0 := JRt.c0
        have JRt1 := JRt.c1
        have JRtl := JRt.lt
        have JRtf0 := JRt.f0
        have JRtf1 := JRt.f1
        have JRs0 := JRs.c0
        have JRs1 := JRs.c1
        have JRsl := JRs.lt
        have JRsf0 := JRs.f0
        have JRsf1 := JRs.f1
        obtain ⟨JRl, JR0, JR1, JR2, JR3, JRf0, JRf1, JRf2, JRf3⟩ := id JR
        obtain ⟨JWl, JW0, JW1, JW2, JW3⟩ := JW.k
        have JU0 := JU.c0
        have JU1 := JU.c1
        have JUl := JU.lt
        have JQ0 := JQ.c0
        have JQ1 := JQ.c1
        have JQl := JQ.lt
        have lb := B.size
        go_wp2
        exact bodyPost_ret (v := .tuple #[sv sc0, .bool false]) (by simp [results, Tryz.results11, go_sem, JRt0, JRt1, JRtl, JRs0, JRs1, JRsl, JR0, JR1, JR2, JR3, JRl, JW0, JW1, JW2, JW3, JWl, JU0, JU1, JUl, JQ0, JQ1, JQl]; try first | rfl | exact ⟨rfl, rfl⟩) rfl ⟨rfl, bel_alloc (putS_below sc0 B (by omega))⟩
      · have ho : scOk y = true := by unfold scOk; rw [hm, hk]; rfl
        rw [if_pos ho] at hs
        rw [hk, if_pos rfl] at X3
        have hlt := fun h => mu_lt ho (x := y) h
        have hN : tmay (scN y).1 = true := meet_may (scOk_may ho).1 (rg_may _ _)
        have hE : scN y = (meetT y.1 (rgX y), endsP y) := rfl
        rw [hE] at hs hlt hN
        clear HI ho hk hm hE
        have E1 := fun W => eq_tn 24 (meetT y.1 (rgX y)) y.1 W (Or.inl rfl)
        have E2 := fun W => eq_tn 26 (endsP y) y.2 W (Or.inr rfl)
        generalize meetT y.1 (rgX y) = M at *
        generalize endsP y = P at *
        generalize rgX y = Q at *
        have hne : (M, P) ≠ y → Z = settle (M, P) ∧ mu (M, P) + (n + 1) < 300 := by
          intro h
          refine ⟨by rw [hs, if_neg h], ?_⟩
          have := hlt h
          omega
        have heq : (M, P) = y → Z = some y := by
          intro h
          rw [hs, if_pos h]
        clear hs hlt hmu
        obtain ⟨⟨v, m⟩, l, h⟩ := y
        cases h1 : (M == ((v, m) : Tn))
        · have h3 := hne (by intro h; cases h; simp at h1)
          clear hne heq E2
          unfold tv at X1 X2 X3 E1
          dsimp only at X1 X2 X3 E1
          rw [h1] at E1
          replace X1 := hid X1
          replace X2 := hid X2
          replace X3 := hid X3
          have JRt0 := JRt.c0
          have JRt1 := JRt.c1
          have JRtl := JRt.lt
          have JRtf0 := JRt.f0
          have JRtf1 := JRt.f1
          have JRs0 := JRs.c0
          have JRs1 := JRs.c1
          have JRsl := JRs.lt
          have JRsf0 := JRs.f0
          have JRsf1 := JRs.f1
          obtain ⟨JRl, JR0, JR1, JR2, JR3, JRf0, JRf1, JRf2, JRf3⟩ := id JR
          have lb := B.size
          go_wp2_with fail
          refine (X1.out _).mono ?_
          rintro e w51 ⟨rfl, z⟩
          clear JRt0 JRt1 JRtl JRtf0 JRtf1 JRs0 JRs1 JRsl JRsf0 JRsf1 JR0 JR1 JR2 JR3 JRl JRf0 JRf1 JRf2 JRf3 lb
          have g51JRt : w.heap.size < wo.heap.size := JRt.lt
          have g51JRs : (w.heap.size + 1) < wo.heap.size := JRs.lt
          have g51JR : (w.heap.size + 1 + 1) < wo.heap.size := JR.lt
          have g51B := B.size
          replace JRt := (JRt.alloc _).below z
          replace JRs := (JRs.alloc _).below z
          replace JR := (JR.alloc _).below z
          have JW : SC w51 (wo.heap.size) (((v, m), l, h)) := (SC.new rfl).below z
          replace B := below_next (bel_alloc B) z
          clear z
          have JRt0 := JRt.c0
          have JRt1 := JRt.c1
          have JRtl := JRt.lt
          have JRtf0 := JRt.f0
          have JRtf1 := JRt.f1
          have JRs0 := JRs.c0
          have JRs1 := JRs.c1
          have JRsl := JRs.lt
          have JRsf0 := JRs.f0
          have JRsf1 := JRs.f1
          obtain ⟨JRl, JR0, JR1, JR2, JR3, JRf0, JRf1, JRf2, JRf3⟩ := id JR
          obtain ⟨JWl, JW0, JW1, JW2, JW3⟩ := JW.k
          have lb := B.size
          go_wp2_with fail
          refine (X2.out _).mono ?_
          rintro e w52 ⟨rfl, z⟩
          clear JRt0 JRt1 JRtl JRtf0 JRtf1 JRs0 JRs1 JRsl JRsf0 JRsf1 JR0 JR1 JR2 JR3 JRl JRf0 JRf1 JRf2 JRf3 JW0 JW1 JW2 JW3 JWl lb
          have g52JRt : w.heap.size < w51.heap.size := JRt.lt
          have g52JRs : (w.heap.size + 1) < w51.heap.size := JRs.lt
          have g52JR : (w.heap.size + 1 + 1) < w51.heap.size := JR.lt
          have g52JW : wo.heap.size < w51.heap.size := JW.lt
          have g52B := B.size
          have lb := B.size
          have JRtl := JRt.lt
          have JRsl := JRs.lt
          have JRl := JR.lt
          have JWl := JW.lt
          have JRtx := JRt.other (c := (w.heap.size + 1)) (by omega) (P)
          have JRx := JR.otherT (c := (w.heap.size + 1)) (by omega) (P)
          have JWx := JW.otherT (c := (w.heap.size + 1)) (by omega) (P)
          have Bx := put2_below (P) B (by omega : w.heap.size ≤ (w.heap.size + 1))
          replace JRs := JRs.put (P)
          clear lb JRtl JRsl JRl JWl B JRt JR JW
          have B := Bx
          clear Bx
          have JRt := JRtx
          clear JRtx
          have JR := JRx
          clear JRx
          have JW := JWx
          clear JWx
          replace JRt := (JRt.alloc _).below z
          replace JRs := (JRs.alloc _).below z
          replace JR := (JR.alloc _).below z
          replace JW := (JW.alloc _).below z
          have JU : BC w52 (w51.heap.size) (P) := (BC.new (by simp)).below z
          replace B := below_next (bel_alloc B) z
          clear z
          have JRt0 := JRt.c0
          have JRt1 := JRt.c1
          have JRtl := JRt.lt
          have JRtf0 := JRt.f0
          have JRtf1 := JRt.f1
          have JRs0 := JRs.c0
          have JRs1 := JRs.c1
          have JRsl := JRs.lt
          have JRsf0 := JRs.f0
          have JRsf1 := JRs.f1
          obtain ⟨JRl, JR0, JR1, JR2, JR3, JRf0, JRf1, JRf2, JRf3⟩ := id JR
          obtain ⟨JWl, JW0, JW1, JW2, JW3⟩ := JW.k
          have JU0 := JU.c0
          have JU1 := JU.c1
          have JUl := JU.lt
          have lb := B.size
          go_wp2_with fail
          refine (X3.out _).mono ?_
          rintro e w53 ⟨rfl, z⟩
          clear JRt0 JRt1 JRtl JRtf0 JRtf1 JRs0 JRs1 JRsl JRsf0 JRsf1 JR0 JR1 JR2 JR3 JRl JRf0 JRf1 JRf2 JRf3 JW0 JW1 JW2 JW3 JWl JU0 JU1 JUl lb
          have g53JRt : w.heap.size < w52.heap.size := JRt.lt
          have g53JRs : (w.heap.size + 1) < w52.heap.size := JRs.lt
          have g53JR : (w.heap.size + 1 + 1) < w52.heap.size := JR.lt
          have g53JW : wo.heap.size < w52.heap.size := JW.lt
          have g53JU : w51.heap.size < w52.heap.size := JU.lt
          have g53B := B.size
          replace JRt := (JRt.alloc _).below z
          replace JRs := (JRs.alloc _).below z
          replace JR := (JR.alloc _).below z
          replace JW := (JW.alloc _).below z
          replace JU := (JU.alloc _).below z
          have JQ : BC w53 (w52.heap.size) (Q) := (BC.new (by simp)).below z
          replace B := below_next (bel_alloc B) z
          clear z
          have JRt0 := JRt.c0
          have JRt1 := JRt.c1
          have JRtl := JRt.lt
          have JRtf0 := JRt.f0
          have JRtf1 := JRt.f1
          have JRs0 := JRs.c0
          have JRs1 := JRs.c1
          have JRsl := JRs.lt
          have JRsf0 := JRs.f0
          have JRsf1 := JRs.f1
          obtain ⟨JRl, JR0, JR1, JR2, JR3, JRf0, JRf1, JRf2, JRf3⟩ := id JR
          obtain ⟨JWl, JW0, JW1, JW2, JW3⟩ := JW.k
          have JU0 := JU.c0
          have JU1 := JU.c1
          have JUl := JU.lt
          have JQ0 := JQ.c0
          have JQ1 := JQ.c1
          have JQl := JQ.lt
          have lb := B.size
          go_wp2
          refine ⟨⟨n + 1, by simp, (M, P), hid ⟨⟨(JRt.put M).alloc _, (JRs.other (c := w.heap.size) (by omega) M).alloc _, (JR.otherT (c := w.heap.size) (by omega) M).alloc _, bel_alloc (put2_below M B (Nat.le_refl _))⟩, h3.1.symm, hN, h3.2⟩⟩, ?_⟩
          simp [intOf]
          omega
        · have hM : M = (v, m) := by rw [beq_iff_eq] at h1; exact h1
          cases h2 : (P == ((l, h) : Tn))
          · have h3 := hne (by intro h; cases h; simp at h2)
            clear hne heq hM
            unfold tv at X1 X2 X3 E1 E2
            dsimp only at X1 X2 X3 E1 E2
            rw [h1] at E1
            rw [h2] at E2
            replace X1 := hid X1
            replace X2 := hid X2
            replace X3 := hid X3
            have JRt0 := JRt.c0
            have JRt1 := JRt.c1
            have JRtl := JRt.lt
            have JRtf0 := JRt.f0
            have JRtf1 := JRt.f1
            have JRs0 := JRs.c0
            have JRs1 := JRs.c1
            have JRsl := JRs.lt
            have JRsf0 := JRs.f0
            have JRsf1 := JRs.f1
            obtain ⟨JRl, JR0, JR1, JR2, JR3, JRf0, JRf1, JRf2, JRf3⟩ := id JR
            have lb := B.size
            go_wp2_with fail
            refine (X1.out _).mono ?_
            rintro e w51 ⟨rfl, z⟩
            clear JRt0 JRt1 JRtl JRtf0 JRtf1 JRs0 JRs1 JRsl JRsf0 JRsf1 JR0 JR1 JR2 JR3 JRl JRf0 JRf1 JRf2 JRf3 lb
            have g51JRt : w.heap.size < wo.heap.size := JRt.lt
            have g51JRs : (w.heap.size + 1) < wo.heap.size := JRs.lt
            have g51JR : (w.heap.size + 1 + 1) < wo.heap.size := JR.lt
            have g51B := B.size
            replace JRt := (JRt.alloc _).below z
            replace JRs := (JRs.alloc _).below z
            replace JR := (JR.alloc _).below z
            have JW : SC w51 (wo.heap.size) (((v, m), l, h)) := (SC.new rfl).below z
            replace B := below_next (bel_alloc B) z
            clear z
            have JRt0 := JRt.c0
            have JRt1 := JRt.c1
            have JRtl := JRt.lt
            have JRtf0 := JRt.f0
            have JRtf1 := JRt.f1
            have JRs0 := JRs.c0
            have JRs1 := JRs.c1
            have JRsl := JRs.lt
            have JRsf0 := JRs.f0
            have JRsf1 := JRs.f1
            obtain ⟨JRl, JR0, JR1, JR2, JR3, JRf0, JRf1, JRf2, JRf3⟩ := id JR
            obtain ⟨JWl, JW0, JW1, JW2, JW3⟩ := JW.k
            have lb := B.size
            go_wp2_with fail
            refine (X2.out _).mono ?_
            rintro e w52 ⟨rfl, z⟩
            clear JRt0 JRt1 JRtl JRtf0 JRtf1 JRs0 JRs1 JRsl JRsf0 JRsf1 JR0 JR1 JR2 JR3 JRl JRf0 JRf1 JRf2 JRf3 JW0 JW1 JW2 JW3 JWl lb
            have g52JRt : w.heap.size < w51.heap.size := JRt.lt
            have g52JRs : (w.heap.size + 1) < w51.heap.size := JRs.lt
            have g52JR : (w.heap.size + 1 + 1) < w51.heap.size := JR.lt
            have g52JW : wo.heap.size < w51.heap.size := JW.lt
            have g52B := B.size
            have lb := B.size
            have JRtl := JRt.lt
            have JRsl := JRs.lt
            have JRl := JR.lt
            have JWl := JW.lt
            have JRtx := JRt.other (c := (w.heap.size + 1)) (by omega) (P)
            have JRx := JR.otherT (c := (w.heap.size + 1)) (by omega) (P)
            have JWx := JW.otherT (c := (w.heap.size + 1)) (by omega) (P)
            have Bx := put2_below (P) B (by omega : w.heap.size ≤ (w.heap.size + 1))
            replace JRs := JRs.put (P)
            clear lb JRtl JRsl JRl JWl B JRt JR JW
            have B := Bx
            clear Bx
            have JRt := JRtx
            clear JRtx
            have JR := JRx
            clear JRx
            have JW := JWx
            clear JWx
            replace JRt := (JRt.alloc _).below z
            replace JRs := (JRs.alloc _).below z
            replace JR := (JR.alloc _).below z
            replace JW := (JW.alloc _).below z
            have JU : BC w52 (w51.heap.size) (P) := (BC.new (by simp)).below z
            replace B := below_next (bel_alloc B) z
            clear z
            have JRt0 := JRt.c0
            have JRt1 := JRt.c1
            have JRtl := JRt.lt
            have JRtf0 := JRt.f0
            have JRtf1 := JRt.f1
            have JRs0 := JRs.c0
            have JRs1 := JRs.c1
            have JRsl := JRs.lt
            have JRsf0 := JRs.f0
            have JRsf1 := JRs.f1
            obtain ⟨JRl, JR0, JR1, JR2, JR3, JRf0, JRf1, JRf2, JRf3⟩ := id JR
            obtain ⟨JWl, JW0, JW1, JW2, JW3⟩ := JW.k
            have JU0 := JU.c0
            have JU1 := JU.c1
            have JUl := JU.lt
            have lb := B.size
            go_wp2_with fail
            refine (X3.out _).mono ?_
            rintro e w53 ⟨rfl, z⟩
            clear JRt0 JRt1 JRtl JRtf0 JRtf1 JRs0 JRs1 JRsl JRsf0 JRsf1 JR0 JR1 JR2 JR3 JRl JRf0 JRf1 JRf2 JRf3 JW0 JW1 JW2 JW3 JWl JU0 JU1 JUl lb
            have g53JRt : w.heap.size < w52.heap.size := JRt.lt
            have g53JRs : (w.heap.size + 1) < w52.heap.size := JRs.lt
            have g53JR : (w.heap.size + 1 + 1) < w52.heap.size := JR.lt
            have g53JW : wo.heap.size < w52.heap.size := JW.lt
            have g53JU : w51.heap.size < w52.heap.size := JU.lt
            have g53B := B.size
            replace JRt := (JRt.alloc _).below z
            replace JRs := (JRs.alloc _).below z
            replace JR := (JR.alloc _).below z
            replace JW := (JW.alloc _).below z
            replace JU := (JU.alloc _).below z
            have JQ : BC w53 (w52.heap.size) (Q) := (BC.new (by simp)).below z
            replace B := below_next (bel_alloc B) z
            clear z
            have JRt0 := JRt.c0
            have JRt1 := JRt.c1
            have JRtl := JRt.lt
            have JRtf0 := JRt.f0
            have JRtf1 := JRt.f1
            have JRs0 := JRs.c0
            have JRs1 := JRs.c1
            have JRsl := JRs.lt
            have JRsf0 := JRs.f0
            have JRsf1 := JRs.f1
            obtain ⟨JRl, JR0, JR1, JR2, JR3, JRf0, JRf1, JRf2, JRf3⟩ := id JR
            obtain ⟨JWl, JW0, JW1, JW2, JW3⟩ := JW.k
            have JU0 := JU.c0
            have JU1 := JU.c1
            have JUl := JU.lt
            have JQ0 := JQ.c0
            have JQ1 := JQ.c1
            have JQl := JQ.lt
            have lb := B.size
            go_wp2
            refine ⟨⟨n + 1, by simp, (M, P), hid ⟨⟨(JRt.put M).alloc _, (JRs.other (c := w.heap.size) (by omega) M).alloc _, (JR.otherT (c := w.heap.size) (by omega) M).alloc _, bel_alloc (put2_below M B (Nat.le_refl _))⟩, h3.1.symm, hN, h3.2⟩⟩, ?_⟩
            simp [intOf]
            omega
          · have hP : P = (l, h) := by rw [beq_iff_eq] at h2; exact h2
            have h3 := heq (by rw [hM, hP])
            subst h3
            clear hne heq hM hP
            unfold tv at X1 X2 X3 E1 E2
            dsimp only at X1 X2 X3 E1 E2
            rw [h1] at E1
            rw [h2] at E2
            replace X1 := hid X1
            replace X2 := hid X2
            replace X3 := hid X3
            have JRt0 := JRt.c0
            have JRt1 := JRt.c1
            have JRtl := JRt.lt
            have JRtf0 := JRt.f0
            have JRtf1 := JRt.f1
            have JRs0 := JRs.c0
            have JRs1 := JRs.c1
            have JRsl := JRs.lt
            have JRsf0 := JRs.f0
            have JRsf1 := JRs.f1
            obtain ⟨JRl, JR0, JR1, JR2, JR3, JRf0, JRf1, JRf2, JRf3⟩ := id JR
            have lb := B.size
            go_wp2_with fail
            refine (X1.out _).mono ?_
            rintro e w51 ⟨rfl, z⟩
            clear JRt0 JRt1 JRtl JRtf0 JRtf1 JRs0 JRs1 JRsl JRsf0 JRsf1 JR0 JR1 JR2 JR3 JRl JRf0 JRf1 JRf2 JRf3 lb
            have g51JRt : w.heap.size < wo.heap.size := JRt.lt
            have g51JRs : (w.heap.size + 1) < wo.heap.size := JRs.lt
            have g51JR : (w.heap.size + 1 + 1) < wo.heap.size := JR.lt
            have g51B := B.size
            replace JRt := (JRt.alloc _).below z
            replace JRs := (JRs.alloc _).below z
            replace JR := (JR.alloc _).below z
            have JW : SC w51 (wo.heap.size) (((v, m), l, h)) := (SC.new rfl).below z
            replace B := below_next (bel_alloc B) z
            clear z
            have JRt0 := JRt.c0
            have JRt1 := JRt.c1
            have JRtl := JRt.lt
            have JRtf0 := JRt.f0
            have JRtf1 := JRt.f1
            have JRs0 := JRs.c0
            have JRs1 := JRs.c1
            have JRsl := JRs.lt
            have JRsf0 := JRs.f0
            have JRsf1 := JRs.f1
            obtain ⟨JRl, JR0, JR1, JR2, JR3, JRf0, JRf1, JRf2, JRf3⟩ := id JR
            obtain ⟨JWl, JW0, JW1, JW2, JW3⟩ := JW.k
            have lb := B.size
            go_wp2_with fail
            refine (X2.out _).mono ?_
            rintro e w52 ⟨rfl, z⟩
            clear JRt0 JRt1 JRtl JRtf0 JRtf1 JRs0 JRs1 JRsl JRsf0 JRsf1 JR0 JR1 JR2 JR3 JRl JRf0 JRf1 JRf2 JRf3 JW0 JW1 JW2 JW3 JWl lb
            have g52JRt : w.heap.size < w51.heap.size := JRt.lt
            have g52JRs : (w.heap.size + 1) < w51.heap.size := JRs.lt
            have g52JR : (w.heap.size + 1 + 1) < w51.heap.size := JR.lt
            have g52JW : wo.heap.size < w51.heap.size := JW.lt
            have g52B := B.size
            have lb := B.size
            have JRtl := JRt.lt
            have JRsl := JRs.lt
            have JRl := JR.lt
            have JWl := JW.lt
            have JRtx := JRt.other (c := (w.heap.size + 1)) (by omega) (P)
            have JRx := JR.otherT (c := (w.heap.size + 1)) (by omega) (P)
            have JWx := JW.otherT (c := (w.heap.size + 1)) (by omega) (P)
            have Bx := put2_below (P) B (by omega : w.heap.size ≤ (w.heap.size + 1))
            replace JRs := JRs.put (P)
            clear lb JRtl JRsl JRl JWl B JRt JR JW
            have B := Bx
            clear Bx
            have JRt := JRtx
            clear JRtx
            have JR := JRx
            clear JRx
            have JW := JWx
            clear JWx
            replace JRt := (JRt.alloc _).below z
            replace JRs := (JRs.alloc _).below z
            replace JR := (JR.alloc _).below z
            replace JW := (JW.alloc _).below z
            have JU : BC w52 (w51.heap.size) (P) := (BC.new (by simp)).below z
            replace B := below_next (bel_alloc B) z
            clear z
            have JRt0 := JRt.c0
            have JRt1 := JRt.c1
            have JRtl := JRt.lt
            have JRtf0 := JRt.f0
            have JRtf1 := JRt.f1
            have JRs0 := JRs.c0
            have JRs1 := JRs.c1
            have JRsl := JRs.lt
            have JRsf0 := JRs.f0
            have JRsf1 := JRs.f1
            obtain ⟨JRl, JR0, JR1, JR2, JR3, JRf0, JRf1, JRf2, JRf3⟩ := id JR
            obtain ⟨JWl, JW0, JW1, JW2, JW3⟩ := JW.k
            have JU0 := JU.c0
            have JU1 := JU.c1
            have JUl := JU.lt
            have lb := B.size
            go_wp2_with fail
            refine (X3.out _).mono ?_
            rintro e w53 ⟨rfl, z⟩
            clear JRt0 JRt1 JRtl JRtf0 JRtf1 JRs0 JRs1 JRsl JRsf0 JRsf1 JR0 JR1 JR2 JR3 JRl JRf0 JRf1 JRf2 JRf3 JW0 JW1 JW2 JW3 JWl JU0 JU1 JUl lb
            have g53JRt : w.heap.size < w52.heap.size := JRt.lt
            have g53JRs : (w.heap.size + 1) < w52.heap.size := JRs.lt
            have g53JR : (w.heap.size + 1 + 1) < w52.heap.size := JR.lt
            have g53JW : wo.heap.size < w52.heap.size := JW.lt
            have g53JU : w51.heap.size < w52.heap.size := JU.lt
            have g53B := B.size
            replace JRt := (JRt.alloc _).below z
            replace JRs := (JRs.alloc _).below z
            replace JR := (JR.alloc _).below z
            replace JW := (JW.alloc _).below z
            replace JU := (JU.alloc _).below z
            have JQ : BC w53 (w52.heap.size) (Q) := (BC.new (by simp)).below z
            replace B := below_next (bel_alloc B) z
            clear z
            have JRt0 := JRt.c0
            have JRt1 := JRt.c1
            have JRtl := JRt.lt
            have JRtf0 := JRt.f0
            have JRtf1 := JRt.f1
            have JRs0 := JRs.c0
            have JRs1 := JRs.c1
            have JRsl := JRs.lt
            have JRsf0 := JRs.f0
            have JRsf1 := JRs.f1
            obtain ⟨JRl, JR0, JR1, JR2, JR3, JRf0, JRf1, JRf2, JRf3⟩ := id JR
            obtain ⟨JWl, JW0, JW1, JW2, JW3⟩ := JW.k
            have JU0 := JU.c0
            have JU1 := JU.c1
            have JUl := JU.lt
            have JQ0 := JQ.c0
            have JQ1 := JQ.c1
            have JQl := JQ.lt
            have lb := B.size
            go_wp2
            exact bodyPost_ret (v := .tuple #[sv ((v, m), l, h), .bool true]) (by simp [results, Tryz.results11, go_sem, JRt0, JRt1, JRtl, JRs0, JRs1, JRsl, JR0, JR1, JR2, JR3, JRl, JW0, JW1, JW2, JW3, JWl, JU0, JU1, JUl, JQ0, JQ1, JQl]; try first | rfl | exact ⟨rfl, rfl⟩) rfl ⟨rfl, bel_alloc (putS_below ((v, m), l, h) (put2_below M B (Nat.le_refl _)) (by omega))⟩
end Go.Proofs.YtodmikjpmcabiaaGreat

namespace Go.Proofs.YtodmikjpmcabiaaGreat
set_option linter.unusedSimpArgs false
set_option linter.unusedVariables false
set_option maxRecDepth 100000
set_option maxRecDepth 100000
open Go.ChangeShapes Go.WideShapes Go.ChangeAt Go.RowKit

theorem settle_bad {t s : Tn} (h : (tmay t && mayS s) = false) : settle (t, s) = none := by
  apply settle_none
  intro hk
  obtain ⟨h1, _, h3⟩ := scOk_may hk
  have e := meetP_toNat s (hull t)
  have h4 : mayS s = true := by
    unfold mayS
    rw [decide_eq_true_eq]
    change (meetP s (hull t)).1.toNat ≤ (meetP s (hull t)).2.toNat at h3
    omega
  change tmay t = true at h1
  rw [h1, h4] at h
  cases h
theorem rSettle_any (t s : Tn) (w : World) : Calls Tryz.prog 11 #[tv t, tv s] w fun e w' => e = .returned (.tuple #[sv (optS (settle (t, s))), .bool (settle (t, s)).isSome]) ∧ Below w.heap.size w w' := by
  cases h : (tmay t && mayS s)
  · rw [settle_bad h]
    exact rSettle_bad t s h w
  · rw [Bool.and_eq_true] at h
    exact rSettle_ok t s h.1 h.2 w
set_option maxHeartbeats 4000000 in
theorem rMayX_any (x : Sc) (w : World) : Calls Tryz.prog 23 #[sv x] w fun e w' => e = .returned (.bool (mayX x)) ∧ Below w.heap.size w w' := by
  rw [mayX_is]
  have X1 := fun W => rSettle_any x.1 x.2 W
  rw [show (x.1, x.2) = x from rfl] at X1
  generalize optS (settle x) = r at *
  have E := fun W => eq_sc r x W
  generalize (settle x).isSome = k at *
  obtain ⟨⟨v, m⟩, l, h⟩ := x
  cases k
  · unfold sv tv at X1
    unfold sv at E
    dsimp only at X1 E
    rw [Bool.false_and]
    replace X1 := hid X1
    unfold sv
    go_enter Tryz.func23, Tryz.ntmps23
    go_wp2_with fail
    refine (X1.out _).mono ?_
    rintro e w1 ⟨rfl, z⟩
    have JX : SC w1 (w.heap.size) (((v, m), l, h)) := (SC.new rfl).below z
    have B := below_next (bel_alloc (Below.refl w.heap.size w)) z
    clear z
    obtain ⟨JXl, JX0, JX1, JX2, JX3⟩ := JX.k
    have lb := B.size
    go_wp2
    go_ret
    exact ⟨rfl, bel_alloc B⟩
  · unfold sv tv at X1
    unfold sv at E
    dsimp only at X1 E
    rw [Bool.true_and]
    replace X1 := hid X1
    unfold sv
    go_enter Tryz.func23, Tryz.ntmps23
    go_wp2_with fail
    refine (X1.out _).mono ?_
    rintro e w1 ⟨rfl, z⟩
    have JX : SC w1 (w.heap.size) (((v, m), l, h)) := (SC.new rfl).below z
    have B := below_next (bel_alloc (Below.refl w.heap.size w)) z
    clear z
    obtain ⟨JXl, JX0, JX1, JX2, JX3⟩ := JX.k
    have lb := B.size
    go_wp2
    go_ret
    exact ⟨rfl, bel_alloc B⟩
end Go.Proofs.YtodmikjpmcabiaaGreat

namespace Go.Proofs.YtodmikjpmcabiaaGreat
set_option linter.unusedSimpArgs false
set_option linter.unusedVariables false
set_option maxRecDepth 100000
set_option maxRecDepth 100000
open Go.ChangeShapes Go.WideShapes Go.ChangeAt Go.RowKit

end Go.Proofs.YtodmikjpmcabiaaGreat
