/-
  The closure that chooses a way, as the landed code has it.
-/
import Derived.Test.YtoanbjnhoggpjaaSpF
namespace Go.Proofs.Ytoanbjnhoggpjaa
set_option linter.unusedSimpArgs false
set_option linter.unusedVariables false
set_option maxRecDepth 100000
open Go.ChangeShapes Go.WideShapes Go.ChangeAt Go.RowKit

theorem way_at (bit : B64) (k : Nat) (hk : k < 4) (w : World) : (Instr.index 215 (.agg #[.int .u64 (ub bit), .int .u64 (ub bit), .int .u64 (ub bit), .int .u64 0, .int .u64 0, .int .u64 (ub bit), .int .u64 0, .int .u64 0]) (.int .i64 (k : Int))).run Try.prog w = .ok (.agg #[.int .u64 (ub (wx bit k)), .int .u64 (ub (wy bit k))]) w := by
  obtain rfl | rfl | rfl | rfl : k = 0 ∨ k = 1 ∨ k = 2 ∨ k = 3 := by omega
  · kernel_rfl
  · kernel_rfl
  · kernel_rfl
  · kernel_rfl
set_option maxRecDepth 20000 in
set_option maxHeartbeats 4000000 in
theorem cWay (D : FuncId) (f : B64 → B64 → B64) (HE0 : ∀ (args : Array Value) (w : World), (callFunc D args).run Try.prog w = .ok (.enter D args) w) (HD0 : ∀ x y W, Calls Try.prog D #[.int .u64 (ub x), .int .u64 (ub y)] W fun e w' => e = .returned (.int .u64 (ub (f x y))) ∧ w' = W)
    (K : Tn × Tn) (bit : B64) (q : Nat) (w : World) (hf : FC w q D) :
    Calls Try.prog 215 #[pv K, .int .u64 (ub bit), .pointer (some ⟨q, 0, none⟩)] w fun e w' => e = .returned (pv (stepS f K bit)) ∧ Below w.heap.size w w' := by
  have HD := hid HD0
  have HE := hid HE0
  clear HD0 HE0
  have hq := hf.1
  have HF := hid hf
  clear hf
  rw [← stN_four]
  have HX := hid (way_at bit)
  obtain ⟨R, HR⟩ : ∃ R : Tn × Tn, R = (stN f K bit 4).1 := ⟨_, rfl⟩
  rw [← HR]
  replace HR := hid HR
  unfold pv
  go_enter Try.func215, Try.ntmps215
  go_wp2_with fail
  go_loopw [7, 25] (fun l i wr => ∃ k : Nat, k ≤ 4 ∧ i = .int .i64 k ∧ l = .int .u64 (ub (stN f K bit k).2) ∧ Hid (LeI w q D K (stN f K bit k).1 wr)) (fun l i _ => 4 - (intOf i).toNat)
  case atStart =>
    refine ⟨0, by omega, rfl, rfl, hid ?_⟩
    have e1 := PC.new (w := w) (K := K) (t := 212) rfl
    have s1 : (w.alloc (.cells #[.int .u64 (ub K.1.1), .int .u64 (ub K.1.2), .int .u64 (ub K.2.1), .int .u64 (ub K.2.2)] 212)).heap.size = w.heap.size + 1 := by simp
    have e2 := PC.new (w := w.alloc (.cells #[.int .u64 (ub K.1.1), .int .u64 (ub K.1.2), .int .u64 (ub K.2.1), .int .u64 (ub K.2.2)] 212)) (K := (t0, t0)) (t := 212) s1.symm
    have b1 : Below w.heap.size w (w.alloc (.cells #[.int .u64 (ub K.1.1), .int .u64 (ub K.1.2), .int .u64 (ub K.2.1), .int .u64 (ub K.2.2)] 212)) := (Below.refl _ _).alloc (Nat.le_refl _) _
    generalize w.alloc (.cells #[.int .u64 (ub K.1.1), .int .u64 (ub K.1.2), .int .u64 (ub K.2.1), .int .u64 (ub K.2.2)] 212) = u1 at *
    have b2 : Below u1.heap.size u1 (u1.alloc (.cells #[.int .u64 0, .int .u64 0, .int .u64 0, .int .u64 0] 212)) := (Below.refl _ _).alloc (Nat.le_refl _) _
    have s2 : (u1.alloc (.cells #[.int .u64 0, .int .u64 0, .int .u64 0, .int .u64 0] 212)).heap.size = w.heap.size + 2 := by simp; omega
    have e2' : PC (u1.alloc (.cells #[.int .u64 0, .int .u64 0, .int .u64 0, .int .u64 0] 212)) (w.heap.size + 1) (t0, t0) := e2
    generalize u1.alloc (.cells #[.int .u64 0, .int .u64 0, .int .u64 0, .int .u64 0] 212) = u2 at *
    have e3 := PC.new (w := u2) (K := K) (t := 212) s2.symm
    have b3 : Below u2.heap.size u2 (u2.alloc (.cells #[.int .u64 (ub K.1.1), .int .u64 (ub K.1.2), .int .u64 (ub K.2.1), .int .u64 (ub K.2.2)] 212)) := (Below.refl _ _).alloc (Nat.le_refl _) _
    exact ⟨(e1.below b2).below b3, e3, e2'.below b3, ((HF.out.below b1).below b2).below b3, (b1.trans (b2.mono b1.size)).trans (b3.mono (by omega))⟩
  case round =>
    obtain ⟨k, hk, rfl, rfl, HI⟩ := hrel
    obtain ⟨wo, rfl⟩ : ∃ wo : World, wo = wr := ⟨_, rfl⟩
    by_cases hlt : k < 4
    · have hlt' : (k : Int) < 4 := by omega
      have HXk := HX.out k hlt
      have HS : stN f K bit (k + 1) = wayS f K bit (stN f K bit k) (wx bit k) (wy bit k) := rfl
      generalize stN f K bit k = st at *
      obtain ⟨st', hst⟩ : ∃ st', st' = stN f K bit (k + 1) := ⟨_, rfl⟩
      rw [← hst] at HS
      have HST := hid hst
      clear hst
      generalize wx bit k = x at *
      generalize wy bit k = y at *
      have H1 := fun W => sHalf_any K.1 bit x W
      have H2 := fun W => sHalf_any K.2 bit y W
      unfold wayS at HS
      generalize halfS K.1 bit x = h1 at *
      generalize halfS K.2 bit y = h2 at *
      generalize halfOk K.1 bit x = c1 at *
      generalize halfOk K.2 bit y = c2 at *
      unfold tv at H1 H2
      replace H1 := hid H1
      replace H2 := hid H2
      replace HXk := hid HXk
      replace HS := hid HS
      have HDxy := hid (HD.out x y)
      generalize f x y = n at *
      have k1 := HI.out.kc.1
      have k2 := HI.out.kc.2.1
      have k3 := HI.out.kc.2.2.1
      have hX := HXk.out
      go_wp2_with fail
      refine (H1.out _).mono ?_
      rintro e w1 ⟨rfl, z1⟩
      have ba : Below wo.heap.size wo (wo.alloc (.cells #[.int .u64 (ub x), .int .u64 (ub y)] 214)) := (Below.refl _ _).alloc (Nat.le_refl _) _
      have W1 : WC w1 wo.heap.size x y := (WC.new rfl).below z1
      have I1 := (HI.out.next ba).next z1
      have n1 : w.heap.size + 2 < wo.heap.size := HI.out.bc.1
      clear k1 k2 k3 HI ba z1
      generalize wo.heap.size = g9 at *
      have k1 := I1.kc.1
      have k2 := I1.kc.2.2.2.1
      have k3 := I1.kc.2.2.2.2.1
      have v1 := W1.1
      have v2 := W1.2.1
      have v3 := W1.2.2
      go_wp2_with fail
      refine (H2.out _).mono ?_
      rintro e w2 ⟨rfl, z2⟩
      have ba : Below w1.heap.size w1 (w1.alloc (.cells #[.int .u64 (ub h1.1), .int .u64 (ub h1.2)] 26)) := (Below.refl _ _).alloc (Nat.le_refl _) _
      have W2 := (W1.below ba).below z2
      have X2 : WC w2 w1.heap.size h1.1 h1.2 := (WC.new rfl).below z2
      have I2 := (I1.next ba).next z2
      have n2 : w.heap.size + 2 < w1.heap.size := by omega
      clear k1 k2 k3 v1 v2 v3 I1 W1 ba z2
      generalize w1.heap.size = g10 at *
      have ba : Below w2.heap.size w2 (w2.alloc (.cells #[.int .u64 (ub h2.1), .int .u64 (ub h2.2)] 26)) := (Below.refl _ _).alloc (Nat.le_refl _) _
      have f1 := I2.fc.1
      have f2 := I2.fc.2
      have v1 := W2.1
      have v2 := W2.2.1
      have v3 := W2.2.2
      go_wp2_with fail
      rw [HE.out, Oper.upon_enter]
      refine (HDxy.out _).mono ?_
      rintro e w3 ⟨rfl, rfl⟩
      have I3 := I2.next ba
      have X3 := X2.below ba
      have Y3 : WC (w2.alloc (.cells #[.int .u64 (ub h2.1), .int .u64 (ub h2.2)] 26)) w2.heap.size h2.1 h2.2 := WC.new rfl
      have n3 : w.heap.size + 2 < w2.heap.size := I2.bc.1
      clear f1 f2 v1 v2 v3 I2 W2 X2 ba
      generalize w2.alloc (.cells #[.int .u64 (ub h2.1), .int .u64 (ub h2.2)] 26) = w4 at *
      generalize w2.heap.size = g12 at *
      cases c1
      · have hs : st' = st := HS.out
        clear HS
        go_wp2
        go_roundw
        case rel => exact ⟨k + 1, by omega, by go_num, by rw [← HST.out, hs], hid (by rw [← HST.out, hs]; exact I3)⟩
        case measure => simp [intOf]; omega
      · cases c2
        · have hs : st' = st := HS.out
          clear HS
          go_wp2
          go_roundw
          case rel => exact ⟨k + 1, by omega, by go_num, by rw [← HST.out, hs], hid (by rw [← HST.out, hs]; exact I3)⟩
          case measure => simp [intOf]; omega
        · by_cases hn : n.toNat < st.2.toNat
          · have hs : st' = ((h1, h2), n) := by rw [HS.out, decide_eq_true hn]; rfl
            have hn' := of_ltn hn
            clear HS hn
            have i0 := I3.bc.1
            obtain ⟨b0, b1, b2, b3, b4, b5, b6, b7, b8⟩ := I3.bc
            have x0 := X3.1
            have x1 := X3.2.1
            have x2 := X3.2.2
            have y0 := Y3.1
            have y1 := Y3.2.1
            have y2 := Y3.2.2
            have I4 := hid (I3.put hq (h1, h2))
            clear I3 X3 Y3
            go_wp2
            go_roundw
            case rel => exact ⟨k + 1, by omega, by go_num, by rw [← HST.out, hs], hid (by rw [← HST.out, hs]; exact I4.out)⟩
            case measure => simp [intOf]; omega
          · have hs : st' = st := by rw [HS.out, decide_eq_false hn]; rfl
            have hn' := of_nltn hn
            clear HS hn
            go_wp2
            go_roundw
            case rel => exact ⟨k + 1, by omega, by go_num, by rw [← HST.out, hs], hid (by rw [← HST.out, hs]; exact I3)⟩
            case measure => simp [intOf]; omega
    · obtain rfl : k = 4 := by omega
      have hlt' : ¬ ((4 : Nat) : Int) < 4 := by decide
      have I := HI.out
      have e1 : (stN f K bit 4).1 = R := HR.out.symm
      rw [e1] at I
      have c1 := I.bc.2.1
      have c2 := I.bc.2.2.1
      have c3 := I.bc.2.2.2.1
      have c4 := I.bc.2.2.2.2.1
      obtain ⟨r0, r1, r2, r3, r4, r5, r6, r7, r8⟩ := I.rc
      have HB := hid I.bel
      clear I HI e1 HR
      go_wp2
      refine bodyPost_ret (v := pv R) (by simp [results, Try.results215, go_sem, r0, r5, r6, r7, r8, r1, r2, r3, r4]; try rfl) rfl ⟨rfl, ?_⟩
      exact put4_below R HB.out (by omega)
end Go.Proofs.Ytoanbjnhoggpjaa
