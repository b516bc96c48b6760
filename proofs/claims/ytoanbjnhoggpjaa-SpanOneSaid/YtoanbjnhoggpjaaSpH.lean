/-
  Contracts of fromTop, least, bitwise, as the landed code has them.
-/
import Derived.Test.YtoanbjnhoggpjaaSpG
import Derived.Deep.RegionHeld3
namespace Go.Proofs.Ytoanbjnhoggpjaa
set_option linter.unusedSimpArgs false
set_option linter.unusedVariables false
set_option maxRecDepth 100000
open Go.ChangeShapes Go.WideShapes Go.ChangeAt Go.RowKit

theorem bitAt_lt (j : Nat) (h : j < 64) : (bitAt j == 0#64) = false ∧ (ub (bitAt (j + 1))).toNat < (ub (bitAt j)).toNat ∧ bitAt (j + 1) = bitAt j >>> 1 := by
  have e := toNat_bit (63 - j) (by omega)
  rw [← bitAt_eq j h] at e
  have hp := Nat.two_pow_pos (63 - j)
  have e3 : bitAt (j + 1) = bitAt j >>> 1 := by unfold bitAt; rw [BitVec.shiftRight_add]
  refine ⟨by rw [beq_eq_false_iff_ne]; intro h0; rw [h0] at e; simp at e; omega, ?_, e3⟩
  rw [e3, ub_nat, ub_nat, BitVec.toNat_ushiftRight, Nat.shiftRight_eq_div_pow]
  omega
structure TpI (w : World) (q : Nat) (D : FuncId) (K : Tn × Tn) (wr : World) : Prop where
  kc : PC wr w.heap.size K
  rc : PC wr (w.heap.size + 1) (t0, t0)
  fc : FC wr q D
  bel : Below w.heap.size w wr
theorem TpI.next {w : World} {q : Nat} {D : FuncId} {K : Tn × Tn} {wr w' : World} (h : TpI w q D K wr) (hb : Below wr.heap.size wr w') : TpI w q D K w' :=
  ⟨h.kc.below hb, h.rc.below hb, h.fc.below hb, h.bel.trans (hb.mono h.bel.size)⟩
theorem TpI.put {w : World} {q : Nat} {D : FuncId} {K : Tn × Tn} {wr : World} (h : TpI w q D K wr) (hq : q < w.heap.size) (U : Tn × Tn) : TpI w q D U (put4 wr w.heap.size U) :=
  ⟨h.kc.put U, h.rc.other (by omega) U, h.fc.other (by omega) U, put4_below U h.bel (Nat.le_refl _)⟩
set_option maxRecDepth 20000 in
set_option maxHeartbeats 4000000 in
theorem sTopAll_any (D : FuncId) (f : B64 → B64 → B64) (HE0 : ∀ (args : Array Value) (w : World), (callFunc D args).run Try.prog w = .ok (.enter D args) w) (HD0 : ∀ x y W, Calls Try.prog D #[.int .u64 (ub x), .int .u64 (ub y)] W fun e w' => e = .returned (.int .u64 (ub (f x y))) ∧ w' = W)
    (K : Tn × Tn) (q : Nat) (w : World) (hf : FC w q D) :
    Calls Try.prog 214 #[pv K, .func (.func 215) #[] #[.pointer (some ⟨q, 0, none⟩)]] w fun e w' => e = .returned (pv (topS f K 64)) ∧ Below w.heap.size w w' := by
  have HC := hid fun K' bit W (h : FC W q D) => cWay D f HE0 HD0 K' bit q W h
  clear HE0 HD0
  have hq := hf.1
  have HF := hid hf
  clear hf
  obtain ⟨R, HR⟩ : ∃ R : Tn × Tn, R = topS f K 64 := ⟨_, rfl⟩
  rw [← HR]
  replace HR := hid HR
  unfold pv at HC ⊢
  go_enter Try.func214, Try.ntmps214
  go_wp2_with fail
  go_loopw [5] (fun b wr => ∃ j : Nat, j ≤ 64 ∧ b = .int .u64 (ub (bitAt j)) ∧ Hid (TpI w q D (topS f K j) wr)) (fun b _ => (intOf b).toNat)
  case atStart =>
    refine ⟨0, by omega, rfl, hid ?_⟩
    have e1 := PC.new (w := w) (K := K) (t := 212) rfl
    have s1 : (w.alloc (.cells #[.int .u64 (ub K.1.1), .int .u64 (ub K.1.2), .int .u64 (ub K.2.1), .int .u64 (ub K.2.2)] 212)).heap.size = w.heap.size + 1 := by simp
    have e2 := PC.new (w := w.alloc (.cells #[.int .u64 (ub K.1.1), .int .u64 (ub K.1.2), .int .u64 (ub K.2.1), .int .u64 (ub K.2.2)] 212)) (K := (t0, t0)) (t := 212) s1.symm
    have b1 : Below w.heap.size w (w.alloc (.cells #[.int .u64 (ub K.1.1), .int .u64 (ub K.1.2), .int .u64 (ub K.2.1), .int .u64 (ub K.2.2)] 212)) := (Below.refl _ _).alloc (Nat.le_refl _) _
    generalize w.alloc (.cells #[.int .u64 (ub K.1.1), .int .u64 (ub K.1.2), .int .u64 (ub K.2.1), .int .u64 (ub K.2.2)] 212) = u1 at *
    have b2 : Below u1.heap.size u1 (u1.alloc (.cells #[.int .u64 0, .int .u64 0, .int .u64 0, .int .u64 0] 212)) := (Below.refl _ _).alloc (Nat.le_refl _) _
    exact ⟨e1.below b2, e2, (HF.out.below b1).below b2, b1.trans (b2.mono b1.size)⟩
  case round =>
    obtain ⟨j, hj, rfl, HI⟩ := hrel
    obtain ⟨wo, rfl⟩ : ∃ wo : World, wo = wr := ⟨_, rfl⟩
    by_cases hlt : j < 64
    · obtain ⟨hb0, hb1, hb2⟩ := bitAt_lt j hlt
      have HS := hid (show topS f K (j + 1) = stepS f (topS f K j) (bitAt j) from rfl)
      replace hb1 := hid hb1
      replace hb2 := hid hb2
      generalize topS f K j = Kj at *
      have HCj := hid (fun W h => HC.out Kj (bitAt j) W h)
      obtain ⟨b, hbb⟩ : ∃ b, b = bitAt j := ⟨_, rfl⟩
      rw [← hbb] at hb0 HCj HS hb1 hb2 ⊢
      clear hbb
      generalize stepS f Kj b = Kn at *
      obtain ⟨k0, k1, k2, k3, k4, f1, f2, f3, f4⟩ := HI.out.kc
      go_wp2_with fail
      refine (HCj.out _ HI.out.fc).mono ?_
      rintro e w1 ⟨rfl, z1⟩
      have I1 := HI.out.next z1
      clear k0 k1 k2 k3 k4 f1 f2 f3 f4 HI z1
      obtain ⟨k0, k1, k2, k3, k4, f1, f2, f3, f4⟩ := I1.kc
      have I2 := hid (I1.put hq Kn)
      clear I1
      go_wp2
      go_roundw
      case rel => exact ⟨j + 1, by omega, by rw [hb2.out], hid (by rw [HS.out]; exact I2.out)⟩
      case measure => have := hb1.out; rw [hb2.out] at this; simpa [intOf] using this
    · obtain rfl : j = 64 := by omega
      have hb0 : (bitAt 64 == 0#64) = true := by decide
      generalize bitAt 64 = b at *
      have I := HI.out
      have e1 : topS f K 64 = R := HR.out.symm
      rw [e1] at I
      obtain ⟨k0, k1, k2, k3, k4, f1, f2, f3, f4⟩ := I.kc
      obtain ⟨r0, r1, r2, r3, r4, r5, r6, r7, r8⟩ := I.rc
      have HB := hid I.bel
      clear I HI e1 HR
      go_wp2
      refine bodyPost_ret (v := pv R) (by simp [results, Try.results214, go_sem, r0, r5, r6, r7, r8, r1, r2, r3, r4]; try rfl) rfl ⟨rfl, ?_⟩
      exact put4_below R HB.out (by omega)
theorem FC.new {w : World} {D : FuncId} {t : TypeId} {b : Nat} (hb : b = w.heap.size) : FC (w.alloc (.cells #[.func (.func D) #[] #[]] t)) b D := by
  subst hb
  exact ⟨by simp, by simp⟩
set_option maxRecDepth 20000 in
set_option maxHeartbeats 4000000 in
theorem sLeast_any (D : FuncId) (f : B64 → B64 → B64) (HE0 : ∀ (args : Array Value) (w : World), (callFunc D args).run Try.prog w = .ok (.enter D args) w) (HD0 : ∀ x y W, Calls Try.prog D #[.int .u64 (ub x), .int .u64 (ub y)] W fun e w' => e = .returned (.int .u64 (ub (f x y))) ∧ w' = W)
    (a b : Tn) (w : World) :
    Calls Try.prog 201 #[tv a, tv b, .func (.func D) #[] #[]] w fun e w' => e = .returned (.int .u64 (ub (leastS f a b))) ∧ Below w.heap.size w w' := by
  have HT := hid fun q W (h : FC W q D) => sTopAll_any D f HE0 HD0 (a, b) q W h
  have HE := hid HE0
  have HD := hid (HD0 (topS f (a, b) 64).1.1 (topS f (a, b) 64).2.1)
  rw [show f (topS f (a, b) 64).1.1 (topS f (a, b) 64).2.1 = leastS f a b from rfl] at HD
  clear HD0 HE0
  generalize leastS f a b = R at *
  generalize topS f (a, b) 64 = K at *
  obtain ⟨v, m⟩ := a
  obtain ⟨v', m'⟩ := b
  unfold pv at HT
  unfold tv
  dsimp only at HT ⊢
  go_enter Try.func201, Try.ntmps201
  go_wp2_with fail
  refine Calls.mono (HT.out _ _ ?_) ?_
  · exact FC.new (by simp)
  rintro e w1 ⟨rfl, z1⟩
  have hb : Below w.heap.size w w1 := ((((Below.refl _ _).alloc (Nat.le_refl _) _).alloc (by simp) _).alloc (by simp <;> omega) _).trans (z1.mono (by simp <;> omega))
  have F1 : FC w1 (w.heap.size + 1 + 1) D := (FC.new (by simp)).below z1
  have c0 := F1.1
  have c1 := F1.2
  clear z1 F1
  go_wp2_with fail
  rw [HE.out, Oper.upon_enter]
  refine (HD.out _).mono ?_
  rintro e w2 ⟨rfl, rfl⟩
  have HB := hid (hb.alloc hb.size (.cells #[.int .u64 (ub K.1.1), .int .u64 (ub K.1.2), .int .u64 (ub K.2.1), .int .u64 (ub K.2.2)] 212))
  clear hb
  go_wp2
  go_ret
  exact ⟨rfl, HB.out⟩
end Go.Proofs.Ytoanbjnhoggpjaa
