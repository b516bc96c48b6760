/-
  Contract of the document's Mul.
-/
import Derived.Test.YtodmikjpmcabiaaTTsB
import Derived.Test.YtodmikjpmcabiaaTTnY
import Derived.Test.YtodmikjpmcabiaaTScA
namespace Go.Proofs.Ytodmikjpmcabiaa
set_option linter.unusedSimpArgs false
set_option linter.unusedVariables false
set_option maxRecDepth 100000
set_option maxRecDepth 100000
open Go.ChangeShapes Go.WideShapes Go.ChangeAt Go.RowKit

theorem sumT_may (a b : Tn) : tmay (sumT a b) = true := but_may _ _
theorem mlN_may (a b : Tn) : ∀ k, tmay (mulN a b k) = true
  | 0 => by show tmay t0 = true; decide
  | k + 1 => by
    unfold mulN mulStep
    dsimp only
    split
    · exact sumT_may _ _
    · split
      · exact sumT_may _ _
      · exact mlN_may a b k
theorem free_may (x : B64) : tmay ((0#64, x) : Tn) = true := by unfold tmay; simp
theorem free_but (x : B64) : butT 0#64 x = (0#64, x) := by unfold butT; simp
theorem upB_may {b : Tn} (hb : tmay b = true) (i : Nat) : tmay (upT b i) = true := may_of fun j hj => by
  unfold upT
  dsimp only
  rw [bt_shl _ _ _ hj, bt_shl _ _ _ hj]
  have := may_bits hb (j - i)
  revert this
  cases bt b.1 (j - i) <;> cases bt b.2 (j - i) <;> simp
/-- The memory of Mul between two rounds. -/
structure MlI (w : World) (a b : Tn) (g : Nat) (S : Tn) (wr : World) : Prop where
  ca : TC wr w.heap.size a
  cb : TC wr (w.heap.size + 1) b
  res : TB wr (w.heap.size + 1 + 1) t0
  sum : TB wr g S
  bel : Below w.heap.size w wr
  big : w.heap.size + 1 + 1 < g
theorem MlI.next {w : World} {a b : Tn} {g : Nat} {S : Tn} {wr w' : World} (h : MlI w a b g S wr) (hb : Below wr.heap.size wr w') : MlI w a b g S w' :=
  ⟨h.ca.below hb, h.cb.below hb, h.res.below hb, h.sum.below hb, h.bel.trans (hb.mono h.bel.size), h.big⟩
theorem MlI.put {w : World} {a b : Tn} {g : Nat} {S : Tn} {wr : World} (h : MlI w a b g S wr) (u : Tn) : MlI w a b g u ((wr.setCell ⟨g, 0, none⟩ (.int .u64 (ub u.1))).setCell ⟨g, 1, none⟩ (.int .u64 (ub u.2))) := by
  have hbig := h.big
  exact ⟨(h.ca.other (by omega) _ _).other (by omega) _ _, (h.cb.other (by omega) _ _).other (by omega) _ _, (h.res.other1 (by omega) _ _).other1 (by omega) _ _, h.sum.put u, (h.bel.setCell (by simp; omega) _).setCell (by simp; omega) _, h.big⟩
set_option maxHeartbeats 16000000 in
theorem rMul_any (a b : Tn) (w : World) : Calls Try.prog 18 #[tv a, tv b] w fun e w' => e = .returned (.tuple #[tv (bothT a b (mulT a b)), .int .i64 (bothE a b)]) ∧ Below w.heap.size w w' := by
  have HA := fun W => rMay_any a W
  have HB := fun W => rMay_any b W
  have HM := hid fun (t : Tn) i hi W => rMk t i hi W
  have HL := hid fun (i : Int) W => rLsh_any b i W
  have HD := hid fun (x y : Tn) W => rAdd_any x y W
  obtain ⟨R, hR⟩ : ∃ R, R = bothT a b (mulT a b) := ⟨_, rfl⟩
  obtain ⟨E, hE⟩ : ∃ E, E = bothE a b := ⟨_, rfl⟩
  rw [← hR, ← hE]
  unfold tv at HA HB HM HL HD ⊢
  cases ha : tmay a
  · rw [ha] at HA
    obtain rfl : E = 1 := by rw [hE]; unfold bothE; rw [ha]; rfl
    obtain rfl : R = t0 := by rw [hR]; unfold bothT; rw [ha]; rfl
    have HA' := hid HA
    clear HA HB HM HL HD ha hR hE
    go_enter Try.func18, Try.ntmps18
    go_wp2_with fail
    refine (HA'.out _).mono ?_
    rintro e w1 ⟨rfl, b1⟩
    have hb : Below w.heap.size w w1 := (((((Below.refl _ _).alloc (Nat.le_refl _) _).alloc (by simp) _).alloc (by simp; omega) _).trans (b1.mono (by simp; omega)))
    obtain ⟨hc, hf⟩ := bcell b1
    have hz : w.heap.size + 1 + 1 < w1.heap.size := by have := b1.size; simp at this; omega
    have hy : w.heap.size + 1 < w1.heap.size := by omega
    have hx : w.heap.size < w1.heap.size := by omega
    have HW := hid hb
    clear b1 hb
    go_wp2
    refine bodyPost_ret (v := .tuple #[.agg #[.int .u64 0, .int .u64 0], .int .i64 1]) (by simp [results, Try.results18, go_sem, hc, hz]; try rfl) rfl ⟨rfl, ?_⟩
    exact (HW.out.setCell (by simp; omega) _).setCell (by simp; omega) _
  rw [ha] at HA
  have HA' := hid HA
  cases hb : tmay b
  · rw [hb] at HB
    obtain rfl : E = 1 := by rw [hE]; unfold bothE; rw [ha, hb]; rfl
    obtain rfl : R = t0 := by rw [hR]; unfold bothT; rw [ha, hb]; rfl
    have HB' := hid HB
    clear HA HB HM HL HD ha hb hR hE
    go_enter Try.func18, Try.ntmps18
    go_wp2_with fail
    refine (HA'.out _).mono ?_
    rintro e w1 ⟨rfl, b1⟩
    have hb : Below w.heap.size w w1 := (((((Below.refl _ _).alloc (Nat.le_refl _) _).alloc (by simp) _).alloc (by simp; omega) _).trans (b1.mono (by simp; omega)))
    obtain ⟨hc, hf⟩ := bcell b1
    have hz : w.heap.size + 1 + 1 < w1.heap.size := by have := b1.size; simp at this; omega
    have hy : w.heap.size + 1 < w1.heap.size := by omega
    have hx : w.heap.size < w1.heap.size := by omega
    have HW := hid hb
    clear b1 hb
    go_wp2_with fail
    refine (HB'.out _).mono ?_
    rintro e w2 ⟨rfl, b2⟩
    have hb : Below w.heap.size w w2 := HW.out.trans (b2.mono (by omega))
    obtain ⟨hc2, hf2⟩ := bcell b2
    have hz2 : w.heap.size + 1 + 1 < w2.heap.size := by have := b2.size; omega
    have HW := hid hb
    clear b2 hb
    go_wp2
    refine bodyPost_ret (v := .tuple #[.agg #[.int .u64 0, .int .u64 0], .int .i64 1]) (by simp [results, Try.results18, go_sem, hc, hz, hc2, hz2]; try rfl) rfl ⟨rfl, ?_⟩
    exact (HW.out.setCell (by simp; omega) _).setCell (by simp; omega) _
  rw [hb] at HB
  have HB' := hid HB
  obtain rfl : E = 0 := by rw [hE]; unfold bothE; rw [ha, hb]; rfl
  have hR' : R = mulN a b 64 := by rw [hR]; unfold bothT; rw [ha, hb]; rfl
  have HR := hid hR'
  have HAm := hid ha
  have HBm := hid hb
  clear HA HB ha hb hR hE hR'
  go_enter Try.func18, Try.ntmps18
  go_wp2_with fail
  refine (HA'.out _).mono ?_
  rintro e w1 ⟨rfl, b1⟩
  have T0 : TC w1 w.heap.size a := (((TC.new rfl).alloc _).alloc _).below b1
  have T1 : TC w1 (w.heap.size + 1) b := ((TC.new (by simp)).alloc _).below b1
  have T2 : TB w1 (w.heap.size + 1 + 1) t0 := (TB.new (a := t0) (by simp)).below b1
  have B : Below w.heap.size w w1 := (((((Below.refl _ _).alloc (Nat.le_refl _) _).alloc (by simp) _).alloc (by simp; omega) _).trans (b1.mono (by simp; omega)))
  have p0 := T1.1
  have q0 := T1.2.1
  have r0 := T1.2.2
  clear b1
  go_wp2_with fail
  refine (HB'.out _).mono ?_
  rintro e w2 ⟨rfl, b2⟩
  clear p0 q0 r0
  replace T0 := T0.below b2
  replace T1 := T1.below b2
  replace T2 := T2.below b2
  replace B := B.trans (b2.mono B.size)
  clear b2
  obtain ⟨g, hg⟩ : ∃ g : Nat, g = w2.heap.size := ⟨_, rfl⟩
  have X0 : MlI w a b g (mulN a b 0) (w2.alloc (.cells #[.int .u64 0, .int .u64 0] 24)) := by
    have ba := (Below.refl w2.heap.size w2).alloc (Nat.le_refl _) (.cells #[.int .u64 0, .int .u64 0] 24)
    exact ⟨T0.below ba, T1.below ba, T2.below ba, TB.new (a := t0) hg, B.alloc B.size _, by rw [hg]; exact T2.1.1⟩
  have I00 := hid X0
  clear X0 T0 T1 T2 B
  have hg' := hid hg
  clear hg
  go_wp2_with fail
  rw [← hg'.out]
  go_loopw [7] (fun i wr => ∃ k : Nat, k ≤ 64 ∧ i = .int .i64 k ∧ Hid (MlI w a b g (mulN a b k) wr)) (fun i _ => 64 - (intOf i).toNat)
  case atStart => exact ⟨0, by omega, rfl, I00⟩
  case round =>
    clear I00
    obtain ⟨k, hk, rfl, I0⟩ := hrel
    obtain ⟨wo, rfl⟩ : ∃ wo : World, wo = wr := ⟨_, rfl⟩
    by_cases hlt : k < 64
    · have hlt' : (k : Int) < 64 := by omega
      have hk0 : (0 : Int) ≤ k := by omega
      have HMa := hid (HM.out a k hlt)
      have HLk := HL.out (k : Int)
      have hLs : shT b (fun x => x <<< (k : Int).toNat) (k : Int) 64 = upT b k ∧ shE b (k : Int) 64 = 0 := by
        have hm := HBm.out
        constructor
        · unfold shT eachT upT
          rw [if_neg (by omega), hm, Int.toNat_natCast]
          rfl
        · unfold shE eachE
          rw [if_neg (by omega), hm]
          rfl
      rw [hLs.1, hLs.2] at HLk
      replace HLk := hid HLk
      have HST : Hid (mulN a b (k + 1) = mulStep a b k (mulN a b k)) := hid rfl
      have hSm := hid (mlN_may a b k)
      have hUm := hid (upB_may HBm.out k)
      clear hLs
      generalize hU : upT b k = U at HLk hUm
      generalize hSk : mulN a b k = S at *
      have hSt : Hid (mulN a b (k + 1) = if bt a.1 k then (if bt a.2 k then sumT (sumT S U) (butT 0#64 (U.1 ||| U.2)) else sumT S U) else (if bt a.2 k then sumT S (butT 0#64 (U.1 ||| U.2)) else S)) := hid (by
        rw [HST.out]
        unfold mulStep
        dsimp only
        rw [hU]
        cases bt a.1 k <;> cases bt a.2 k <;> rfl)
      have hab := may_bits HAm.out k
      have hkz : kz a k = (bt a.2 k || !bt a.1 k) := rfl
      have hko : ko a k = (bt a.2 k || bt a.1 k) := rfl
      rw [hkz, hko] at HMa
      have X1 := HD.out S U
      have X2 := HD.out S (0#64, U.1 ||| U.2)
      rw [show bothT S U (sumT S U) = sumT S U by unfold bothT; rw [hSm.out, hUm.out]; rfl, show bothE S U = 0 by unfold bothE; rw [hSm.out, hUm.out]; rfl] at X1
      rw [show bothT S (0#64, U.1 ||| U.2) (sumT S (0#64, U.1 ||| U.2)) = sumT S (0#64, U.1 ||| U.2) by unfold bothT; rw [hSm.out, free_may]; rfl, show bothE S (0#64, U.1 ||| U.2) = 0 by unfold bothE; rw [hSm.out, free_may]; rfl] at X2
      dsimp only at X1 X2
      rw [show ub 0#64 = 0 from rfl] at X2
      rw [free_but] at hSt
      replace X1 := hid X1
      replace X2 := hid X2
      generalize bt a.1 k = v at *
      generalize bt a.2 k = m at *
      clear hkz hko HST hU hSk
      have q0 := I0.out.cb.2.1
      have q1 := I0.out.cb.2.2
      have q2 := I0.out.cb.1
      go_wp2_with fail
      refine (HLk.out _).mono ?_
      rintro e wL ⟨rfl, z⟩
      have I1 := hid (I0.out.next z)
      clear I0 z q0 q1 q2
      have q0 := I1.out.ca.2.1
      have q1 := I1.out.ca.2.2
      have q2 := I1.out.ca.1
      go_wp2_with fail
      refine (HMa.out _).mono ?_
      rintro e wM ⟨rfl, z⟩
      have JU := hid (show TC wM wL.heap.size U from (TC.new rfl).below z)
      have I2 := hid ((I1.out.next ((Below.refl wL.heap.size wL).alloc (Nat.le_refl _) (.cells #[.int .u64 (ub U.1), .int .u64 (ub U.2)] 24))).next z)
      clear I1 z q0 q1 q2
      cases v
      · cases m
        · have e2 : (mM (false || !false) (false || false) == 2) = false := by decide
          have e3 : (mM (false || !false) (false || false) == 3) = false := by decide
          simp only [Bool.false_eq_true, if_false] at hSt
          generalize mM (false || !false) (false || false) = MV at *
          clear X1 X2 hab
          go_wp2
          go_roundw
          case rel => first | exact ⟨k + 1, by omega, by go_num, by rw [hSt.out]; exact I2⟩ | ((repeat apply Exists.intro); exact ⟨⟨k + 1, by omega, by go_num, by rw [hSt.out]; exact I2⟩, rfl⟩)
          case measure => simp [intOf]; omega
        · have e2 : (mM (true || !false) (true || false) == 2) = false := by decide
          have e3 : (mM (true || !false) (true || false) == 3) = true := by decide
          simp only [Bool.false_eq_true, if_false, if_true] at hSt
          generalize mM (true || !false) (true || false) = MV at *
          clear X1 hab
          have q0 := I2.out.sum.1.2.1
          have q1 := I2.out.sum.1.2.2
          have q2 := I2.out.sum.1.1
          have r0 := JU.out.2.1
          have r1 := JU.out.2.2
          have r2 := JU.out.1
          go_wp2_with fail
          refine (X2.out _).mono ?_
          rintro e wA ⟨rfl, z⟩
          have I3 := hid (I2.out.next z)
          clear I2 z q0 q1 q2 r0 r1 r2 X2
          have q0 := I3.out.sum.1.2.1
          have q1 := I3.out.sum.1.2.2
          have q2 := I3.out.sum.1.1
          have q3 := I3.out.sum.2.1
          have q4 := I3.out.sum.2.2
          have RR := hid (I3.out.put (sumT S (0#64, U.1 ||| U.2)))
          generalize sumT S (0#64, U.1 ||| U.2) = T at *
          go_wp2
          go_roundw
          case rel => first | exact ⟨k + 1, by omega, by go_num, by rw [hSt.out]; exact RR⟩ | ((repeat apply Exists.intro); exact ⟨⟨k + 1, by omega, by go_num, by rw [hSt.out]; exact RR⟩, rfl⟩)
          case measure => simp [intOf]; omega
      · cases m
        · have e2 : (mM (false || !true) (false || true) == 2) = true := by decide
          have e3 : (mM (false || !true) (false || true) == 3) = false := by decide
          simp only [Bool.false_eq_true, if_false, if_true] at hSt
          generalize mM (false || !true) (false || true) = MV at *
          clear X2 hab
          have q0 := I2.out.sum.1.2.1
          have q1 := I2.out.sum.1.2.2
          have q2 := I2.out.sum.1.1
          have r0 := JU.out.2.1
          have r1 := JU.out.2.2
          have r2 := JU.out.1
          go_wp2_with fail
          refine (X1.out _).mono ?_
          rintro e wA ⟨rfl, z⟩
          have I3 := hid (I2.out.next z)
          clear I2 z q0 q1 q2 r0 r1 r2 X1
          have q0 := I3.out.sum.1.2.1
          have q1 := I3.out.sum.1.2.2
          have q2 := I3.out.sum.1.1
          have q3 := I3.out.sum.2.1
          have q4 := I3.out.sum.2.2
          have RR := hid (I3.out.put (sumT S U))
          generalize sumT S U = T at *
          go_wp2
          go_roundw
          case rel => first | exact ⟨k + 1, by omega, by go_num, by rw [hSt.out]; exact RR⟩ | ((repeat apply Exists.intro); exact ⟨⟨k + 1, by omega, by go_num, by rw [hSt.out]; exact RR⟩, rfl⟩)
          case measure => simp [intOf]; omega
        · cases hab
    · have hk64 : k = 64 := by omega
      subst hk64
      rw [← HR.out] at I0
      have I0 := hid I0
      have q0 := I0.out.out.sum.1.2.1
      have q1 := I0.out.out.sum.1.2.2
      have q2 := I0.out.out.sum.1.1
      have e1 := I0.out.out.res.1.2.1
      have e2 := I0.out.out.res.1.2.2
      have e3 := I0.out.out.res.2.1
      have e4 := I0.out.out.res.2.2
      have e5 := I0.out.out.res.1.1
      have HW := hid I0.out.out.bel
      clear I0
      go_wp2
      refine bodyPost_ret (v := .tuple #[.agg #[.int .u64 (ub R.1), .int .u64 (ub R.2)], .int .i64 0]) (by simp [results, Try.results18, go_sem, e1, e2, e5]; try rfl) rfl ⟨rfl, ?_⟩
      exact (HW.out.setCell (by simp; omega) _).setCell (by simp; omega) _
end Go.Proofs.Ytodmikjpmcabiaa
