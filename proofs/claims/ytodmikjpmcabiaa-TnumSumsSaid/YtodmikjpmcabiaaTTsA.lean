/-
  Contract of the document's Carried.
-/
import Derived.Test.YtodmikjpmcabiaaTTsP
import Derived.Test.YtodmikjpmcabiaaTTnRa
import Derived.Test.YtodmikjpmcabiaaTHrU
import Derived.Deep.RegionLaw
namespace Go.Proofs.Ytodmikjpmcabiaa
set_option linter.unusedSimpArgs false
set_option linter.unusedVariables false
set_option maxRecDepth 100000
set_option maxRecDepth 100000
open Go.ChangeShapes Go.WideShapes Go.ChangeAt Go.RowKit

def bI (n : Int) : Int := if n % 2 = 1 then 2 else 1
theorem rbit_int (n : Int) (h0 : 0 ≤ n) (w : World) : Calls Try.prog 66 #[.int .i64 n] w fun e w' => e = .returned (.int .i64 (bI n)) ∧ w = w' := by
  unfold bI
  have ht : n.tmod 2 = n % 2 := Int.tmod_eq_emod_of_nonneg h0
  by_cases h : n % 2 = 1
  · rw [if_pos h]
    have e : (n.tmod 2 == 1) = true := by rw [ht, h]; rfl
    clear ht h h0
    go_enter Try.func66, Try.ntmps66
    go_wp2
    go_ret
    exact ⟨rfl, rfl⟩
  · rw [if_neg h]
    have e : (n.tmod 2 == 1) = false := by rw [ht]; simpa using h
    clear ht h h0
    go_enter Try.func66, Try.ntmps66
    go_wp2
    go_ret
    exact ⟨rfl, rfl⟩
def mB (m : B2) : Int := mM m.1 m.2
def b01 (b : Bool) : Int := if b then 1 else 0
theorem sel_is (m : B2) (b : Bool) : (bits .and .i64 (mB m) (bI (b01 b)) == 0) = !selB m b := by
  obtain ⟨z, o⟩ := m
  cases z <;> cases o <;> cases b <;> decide
theorem or_is (m : B2) (n : Int) (b : Bool) (h : n % 2 = b01 b) : bits .or .i64 (mB m) (bI n) = mB (orB m b) := by
  obtain ⟨z, o⟩ := m
  have : bI n = bI (b01 b) := by
    unfold bI
    rw [h]
    cases b <;> rfl
  rw [this]
  cases z <;> cases o <;> cases b <;> decide
structure C2 (w : World) (a b : Tn) (g : Nat) (Z O : Nat → Bool) (wr : World) : Prop where
  ca : TC wr w.heap.size a
  cb : TC wr (w.heap.size + 1) b
  res : TB wr (w.heap.size + 1 + 1) t0
  arr : AR wr g Z O
  bel : Below w.heap.size w wr
  big : w.heap.size + 1 + 1 < g
theorem C2.next {w : World} {a b : Tn} {g : Nat} {z o : Nat → Bool} {wr w' : World} (h : C2 w a b g z o wr) (hb : Below wr.heap.size wr w') : C2 w a b g z o w' :=
  ⟨h.ca.below hb, h.cb.below hb, h.res.below hb, h.arr.below hb, h.bel.trans (hb.mono h.bel.size), h.big⟩
theorem C2.put {w : World} {a b : Tn} {g : Nat} {z o : Nat → Bool} {k : Nat} {wr : World} (h : C2 w a b g z o wr) (hk : k < 64) (m : Int) (q : B2) (hm : m = mB q) : C2 w a b g (upd z k q.1) (upd o k q.2) (wr.setCell ⟨g, k, none⟩ (.int .i64 m)) := by
  subst hm
  have hbig := h.big
  exact ⟨h.ca.other (by omega) _ _, h.cb.other (by omega) _ _, h.res.other1 (by omega) _ _, h.arr.put k hk q.1 q.2, h.bel.setCell (by simp; omega) _, h.big⟩
theorem upd_at (f : Nat → Bool) (k : Nat) (u : Bool) : upd f k u k = u := by unfold upd; simp
/-- What is done up to bit i. -/
def doneZ (less : Bool) (a b : Tn) (i : Nat) : Nat → Bool := fun j => if j < i then (rsB less a b j).1 else false
def doneO (less : Bool) (a b : Tn) (i : Nat) : Nat → Bool := fun j => if j < i then (rsB less a b j).2 else false
theorem done_zero (less : Bool) (a b : Tn) : doneZ less a b 0 = (fun _ => false) ∧ doneO less a b 0 = (fun _ => false) := ⟨funext fun j => by simp [doneZ], funext fun j => by simp [doneO]⟩
theorem done_up (less : Bool) (a b : Tn) (i : Nat) : upd (doneZ less a b i) i (rsB less a b i).1 = doneZ less a b (i + 1) ∧ upd (doneO less a b i) i (rsB less a b i).2 = doneO less a b (i + 1) := by
  constructor
  · funext j
    unfold upd doneZ
    by_cases h : j = i
    · subst h; simp
    · by_cases h2 : j < i
      · simp [h, h2, show j < i + 1 by omega]
      · simp [h, h2, show ¬ j < i + 1 by omega]
  · funext j
    unfold upd doneO
    by_cases h : j = i
    · subst h; simp
    · by_cases h2 : j < i
      · simp [h, h2, show j < i + 1 by omega]
      · simp [h, h2, show ¬ j < i + 1 by omega]
theorem done_own (less : Bool) (a b : Tn) (i : Nat) : upd (doneZ less a b i) i false = doneZ less a b i ∧ upd (doneO less a b i) i false = doneO less a b i := by
  constructor
  · funext j
    unfold upd doneZ
    by_cases h : j = i
    · subst h; simp
    · simp [h]
  · funext j
    unfold upd doneO
    by_cases h : j = i
    · subst h; simp
    · simp [h]
theorem k_bits (k : Nat) (hk : k < 8) : (k : Int).tmod 2 = b01 (xB k) ∧ ((k : Int).tdiv 2).tmod 2 = b01 (yB k) ∧ (k : Int).tdiv 4 = b01 (cB k) := by
  have : ∀ i : Fin 8, ((i.val : Nat) : Int).tmod 2 = b01 (xB i.val) ∧ (((i.val : Nat) : Int).tdiv 2).tmod 2 = b01 (yB i.val) ∧ ((i.val : Nat) : Int).tdiv 4 = b01 (cB i.val) := by decide +kernel
  exact this ⟨k, hk⟩
theorem b01_bd (b : Bool) : 0 ≤ b01 b ∧ b01 b ≤ 1 := by cases b <;> decide
theorem wrap_xy (x y : Bool) : IntKind.i64.wrap (b01 x + b01 y) = b01 x + b01 y := by cases x <;> cases y <;> kernel_rfl
theorem wrap_xyc (x y c : Bool) : IntKind.i64.wrap (b01 x + b01 y + b01 c) = b01 x + b01 y + b01 c := by cases x <;> cases y <;> cases c <;> kernel_rfl
theorem s_par (x y c : Bool) : (b01 x + b01 y + b01 c) % 2 = b01 (x ^^ (y ^^ c)) := by cases x <;> cases y <;> cases c <;> rfl
theorem ov_add (x y c : Bool) : (b01 x + b01 y + b01 c).tdiv 2 = b01 (ovB false x y c) := by cases x <;> cases y <;> cases c <;> rfl
theorem ov_sub (x y c : Bool) : decide (b01 x < b01 y + b01 c) = ovB true x y c := by cases x <;> cases y <;> cases c <;> rfl
set_option maxHeartbeats 16000000 in
theorem rCarried_any (a b : Tn) (less : Bool) (w : World) : Calls Try.prog 58 #[tv a, tv b, .bool less] w fun e w' => e = .returned (tv (carT less a b)) ∧ Below w.heap.size w w' := by
  have HM := hid fun (t : Tn) i hi W => rMk t i hi W
  obtain ⟨R, hR⟩ : ∃ R, R = carT less a b := ⟨_, rfl⟩
  rw [← hR]
  unfold carT at hR
  replace hR := hid hR
  unfold tv at HM ⊢
  obtain ⟨g, hg⟩ : ∃ g : Nat, g = w.heap.size + 1 + 1 + 1 := ⟨_, rfl⟩
  have X0 : C2 w a b g (doneZ less a b 0) (doneO less a b 0) ((((w.alloc (.cells #[.int .u64 (ub a.1), .int .u64 (ub a.2)] 24)).alloc (.cells #[.int .u64 (ub b.1), .int .u64 (ub b.2)] 24)).alloc (.cells #[.int .u64 0, .int .u64 0] 24)).alloc (.cells Z64 98)) := by
    rw [(done_zero less a b).1, (done_zero less a b).2]
    exact ⟨((TC.new rfl).alloc _).alloc _ |>.alloc _, ((TC.new (by simp)).alloc _).alloc _, (TB.new (a := t0) (by simp)).below ((Below.refl _ _).alloc (Nat.le_refl _) _), AR.zero Z64_get (by rw [hg]; simp), ((((Below.refl _ _).alloc (Nat.le_refl _) _).alloc (by simp) _).alloc (by simp; omega) _).alloc (by simp; omega) _, by omega⟩
  have I00 := hid X0
  clear X0
  unfold Z64 at I00
  have hg' := hid hg
  clear hg
  go_enter Try.func58, Try.ntmps58
  go_wp2_with fail
  rw [← hg'.out]
  go_loopw [8, 9] (fun c i wr => ∃ k : Nat, k ≤ 64 ∧ i = .int .i64 k ∧ c = .int .i64 (mB (crB less a b k)) ∧ Hid (C2 w a b g (doneZ less a b k) (doneO less a b k) wr)) (fun _ i _ => 64 - (intOf i).toNat)
  case atStart => exact ⟨0, by omega, rfl, rfl, I00⟩
  case round =>
    clear I00
    obtain ⟨k, hk, rfl, rfl, I0⟩ := hrel
    obtain ⟨wo, rfl⟩ : ∃ wo : World, wo = wr := ⟨_, rfl⟩
    by_cases hlt : k < 64
    · have hlt' : (k : Int) < 64 := by omega
      have hk0 : (0 : Int) ≤ k := by omega
      have HMa : Hid (∀ W, Calls Try.prog 64 #[.agg #[.int .u64 (ub a.1), .int .u64 (ub a.2)], .int .i64 (k : Int)] W fun e w' => e = .returned (.int .i64 (mB (mkB a k))) ∧ Below W.heap.size W w') := hid (HM.out a k hlt)
      have HMb : Hid (∀ W, Calls Try.prog 64 #[.agg #[.int .u64 (ub b.1), .int .u64 (ub b.2)], .int .i64 (k : Int)] W fun e w' => e = .returned (.int .i64 (mB (mkB b k))) ∧ Below W.heap.size W w') := hid (HM.out b k hlt)
      have HC : Hid (crB less a b (k + 1) = (inn less (mkB a k) (mkB b k) (crB less a b k) 8).2) := hid rfl
      have HS : Hid (rsB less a b k = (inn less (mkB a k) (mkB b k) (crB less a b k) 8).1) := hid rfl
      generalize mkB a k = A at *
      generalize mkB b k = B at *
      generalize crB less a b k = C at *
      have I1 : Hid (C2 w a b g (upd (doneZ less a b k) k (inn less A B C 0).1.1) (upd (doneO less a b k) k (inn less A B C 0).1.2) wo) := by
        show C2 w a b g (upd (doneZ less a b k) k false) (upd (doneO less a b k) k false) wo
        rw [(done_own less a b k).1, (done_own less a b k).2]
        exact I0.out
      clear I0
      go_wp2_with fail
      go_loopw [10, 11] (fun nx n wi => ∃ j : Nat, j ≤ 8 ∧ n = .int .i64 j ∧ nx = .int .i64 (mB (inn less A B C j).2) ∧ Hid (C2 w a b g (upd (doneZ less a b k) k (inn less A B C j).1.1) (upd (doneO less a b k) k (inn less A B C j).1.2) wi)) (fun _ n _ => 8 - (intOf n).toNat)
      case atStart => exact ⟨0, by omega, rfl, rfl, I1⟩
      case round =>
        clear I1
        obtain ⟨j, hj, rfl, rfl, I1⟩ := hrel
        by_cases hjl : j < 8
        · have hjl' : (j : Int) < 8 := by omega
          obtain ⟨e1, e20, e3⟩ := k_bits j hjl
          have e2 : (j : Int) / 2 % 2 = b01 (yB j) := by rw [← e20, Int.tdiv_eq_ediv_of_nonneg (by omega), Int.tmod_eq_emod_of_nonneg (by omega)]
          clear e20
          have HN : Hid (inn less A B C (j + 1) = inS less A B C j (inn less A B C j)) := hid rfl
          unfold inS at HN
          generalize xB j = x at *
          generalize yB j = y at *
          generalize cB j = c at *
          generalize inn less A B C j = S at *
          obtain ⟨⟨lz, lo⟩, NX⟩ := S
          dsimp only at I1 HN ⊢
          have bx := b01_bd x
          have by_ := b01_bd y
          have bc := b01_bd c
          have RBx := hid (rbit_int (b01 x) bx.1)
          have RBy := hid (rbit_int (b01 y) by_.1)
          have RBc := hid (rbit_int (b01 c) bc.1)
          have RBs := hid (rbit_int (b01 x + b01 y + b01 c) (by omega))
          have w1 : wrap64 (b01 x + b01 y) = b01 x + b01 y := by unfold wrap64; omega
          have w2 : wrap64 (b01 x + b01 y + b01 c) = b01 x + b01 y + b01 c := by unfold wrap64; omega
          have w3 : wrap64 (b01 y + b01 c) = b01 y + b01 c := by unfold wrap64; omega
          have w4 : wrap64 (b01 c) = b01 c := by unfold wrap64; omega
          have w5 := wrap_xy x y
          have w6 := wrap_xyc x y c
          have Ta := sel_is A x
          have Tb := sel_is B y
          have Tc := sel_is C c
          have OL := or_is (lz, lo) (b01 x + b01 y + b01 c) (x ^^ (y ^^ c)) (s_par x y c)
          have VA := ov_add x y c
          have VS := ov_sub x y c
          clear bx by_ bc
          have q0 := I1.out.ca.2.1
          have q1 := I1.out.ca.2.2
          go_wp2_with fail
          refine (HMa.out _).mono ?_
          rintro e wa ⟨rfl, z⟩
          have I2 := hid (I1.out.next z)
          clear I1 z q0 q1
          go_wp2_with fail
          refine (RBx.out _).mono ?_
          rintro e w_ ⟨rfl, rfl⟩
          cases sa : selB A x
          · rw [sa] at Ta HN
            rw [Bool.not_false] at Ta
            simp only [Bool.false_and, Bool.false_eq_true, if_false] at HN
            clear sa Tb Tc OL VA VS
            go_wp2
            go_roundw
            case rel => first | exact ⟨j + 1, by omega, by go_num, by rw [HN.out], by rw [HN.out]; exact I2⟩ | ((repeat apply Exists.intro); exact ⟨⟨j + 1, by omega, by go_num, by rw [HN.out], by rw [HN.out]; exact I2⟩, rfl⟩)
            case measure => simp [intOf]; omega
          rw [sa] at Ta HN
          rw [Bool.not_true] at Ta
          rw [Bool.true_and] at HN
          have q0 := I2.out.cb.2.1
          have q1 := I2.out.cb.2.2
          clear sa
          go_wp2_with fail
          refine (HMb.out _).mono ?_
          rintro e wb ⟨rfl, z⟩
          have I1 := hid (I2.out.next z)
          clear I2 z q0 q1
          have I2 := I1
          clear I1
          go_wp2_with fail
          refine (RBy.out _).mono ?_
          rintro e w_ ⟨rfl, rfl⟩
          cases sb : selB B y
          · rw [sb] at Tb HN
            rw [Bool.not_false] at Tb
            simp only [Bool.false_and, Bool.false_eq_true, if_false] at HN
            clear sb Tc OL VA VS
            go_wp2
            go_roundw
            case rel => first | exact ⟨j + 1, by omega, by go_num, by rw [HN.out], by rw [HN.out]; exact I2⟩ | ((repeat apply Exists.intro); exact ⟨⟨j + 1, by omega, by go_num, by rw [HN.out], by rw [HN.out]; exact I2⟩, rfl⟩)
            case measure => simp [intOf]; omega
          rw [sb] at Tb HN
          rw [Bool.not_true] at Tb
          rw [Bool.true_and] at HN
          clear sb
          go_wp2_with fail
          refine (RBc.out _).mono ?_
          rintro e w_ ⟨rfl, rfl⟩
          cases sc : selB C c
          · rw [sc] at Tc HN
            rw [Bool.not_false] at Tc
            simp only [Bool.false_eq_true, if_false] at HN
            clear sc OL VA VS
            go_wp2
            go_roundw
            case rel => first | exact ⟨j + 1, by omega, by go_num, by rw [HN.out], by rw [HN.out]; exact I2⟩ | ((repeat apply Exists.intro); exact ⟨⟨j + 1, by omega, by go_num, by rw [HN.out], by rw [HN.out]; exact I2⟩, rfl⟩)
            case measure => simp [intOf]; omega
          rw [sc] at Tc HN
          rw [Bool.not_true] at Tc
          rw [if_pos rfl] at HN
          clear sc
          have y1 : wb.cell? ⟨g, k, none⟩ = some (.int .i64 (mB (lz, lo))) := by
            have := (I2.out.arr.2 k hlt).1
            rwa [upd_at, upd_at] at this
          have y2 := (I2.out.arr.2 k hlt).2
          have y3 := I2.out.arr.1
          have d1 : wb.drew.cell? ⟨g, k, none⟩ = some (.int .i64 (mB (lz, lo))) := cn (below_dr wb) y1
          have d2 : wb.drew.frozen? ⟨g, k, none⟩ = false := ((I2.out.next (below_dr wb)).arr.2 k hlt).2
          have d3 : g < wb.drew.heap.size := (I2.out.next (below_dr wb)).arr.1
          go_wp2_with fail
          refine cutS [54, 55, 56, 57, 58, 59, 60, 61, 62, 63, 64] (fun us W' => C2 w a b g (upd (doneZ less a b k) k (orB (lz, lo) (x ^^ (y ^^ c))).1) (upd (doneO less a b k) k (orB (lz, lo) (x ^^ (y ^^ c))).2) W') ?_ ?_
          · have RR := I2.out.put hlt (mB (orB (lz, lo) (x ^^ (y ^^ c)))) (orB (lz, lo) (x ^^ (y ^^ c))) rfl
            rw [upd_upd, upd_upd] at RR
            have RD := (I2.out.next (below_dr wb)).put hlt (mB (orB (lz, lo) (x ^^ (y ^^ c)))) (orB (lz, lo) (x ^^ (y ^^ c))) rfl
            rw [upd_upd, upd_upd] at RD
            replace RR := hid RR
            replace RD := hid RD
            go_region_law (first | (go_simp; go_at_call 66; (with_reducible refine (RBs.out _).mono ?_); rintro e wq ⟨rfl, rfl⟩))
            all_goals first | exact cutEnd (RR.out.next (below_dr _)) (by kernel_rfl) | exact cutEnd RD.out (by kernel_rfl) | exact cutEnd RR.out (by kernel_rfl)
          clear y1 y2 y3 d1 d2 d3 I2 OL RBs RBx RBy RBc
          intro w3 u54 u55 u56 u57 u58 u59 u60 u61 u62 u63 u64 I3
          simp only [sets, s1, s2, s3]
          simp only [Exit.then]
          replace I3 := hid I3
          have ON := fun v => or_is NX (b01 v) v (by cases v <;> rfl)
          have RB := fun v W => rbit_int (b01 v) (b01_bd v).1 W
          cases less
          · generalize ovB false x y c = v at *
            have ONv := ON v
            have wv : wrap64 (b01 v) = b01 v := by cases v <;> kernel_rfl
            have RBv := hid (RB v)
            clear ON RB VS
            go_wp2_with fail
            refine (RBv.out _).mono ?_
            rintro e w_ ⟨rfl, rfl⟩
            go_wp2
            go_roundw
            case rel => first | exact ⟨j + 1, by omega, by go_num, by rw [HN.out], by rw [HN.out]; exact I3⟩ | ((repeat apply Exists.intro); exact ⟨⟨j + 1, by omega, by go_num, by rw [HN.out], by rw [HN.out]; exact I3⟩, rfl⟩)
            case measure => simp [intOf]; omega
          · have ON1 := ON true
            have RB1 := hid (RB true)
            have ON0 := ON false
            have RB0 := hid (RB false)
            clear ON RB VA
            change bits .or .i64 (mB NX) (bI 1) = _ at ON1
            change bits .or .i64 (mB NX) (bI 0) = _ at ON0
            rw [show b01 true = 1 from rfl] at RB1
            rw [show b01 false = 0 from rfl] at RB0
            generalize ovB true x y c = v at *
            cases v
            · clear ON1 RB1
              go_wp2_with fail
              refine (RB0.out _).mono ?_
              rintro e w_ ⟨rfl, rfl⟩
              go_wp2
              go_roundw
              case rel => first | exact ⟨j + 1, by omega, by go_num, by rw [HN.out], by rw [HN.out]; exact I3⟩ | ((repeat apply Exists.intro); exact ⟨⟨j + 1, by omega, by go_num, by rw [HN.out], by rw [HN.out]; exact I3⟩, rfl⟩)
              case measure => simp [intOf]; omega
            · clear ON0 RB0
              go_wp2_with fail
              refine (RB1.out _).mono ?_
              rintro e w_ ⟨rfl, rfl⟩
              go_wp2
              go_roundw
              case rel => first | exact ⟨j + 1, by omega, by go_num, by rw [HN.out], by rw [HN.out]; exact I3⟩ | ((repeat apply Exists.intro); exact ⟨⟨j + 1, by omega, by go_num, by rw [HN.out], by rw [HN.out]; exact I3⟩, rfl⟩)
              case measure => simp [intOf]; omega
        · have hj8 : j = 8 := by omega
          subst hj8
          rw [← HC.out, ← HS.out] at *
          clear hjl hj
          go_wp2
          go_roundw
          case rel => first | exact ⟨k + 1, by omega, by go_num, rfl, by rw [← (done_up less a b k).1, ← (done_up less a b k).2]; exact I1⟩ | ((repeat apply Exists.intro); exact ⟨⟨k + 1, by omega, by go_num, rfl, by rw [← (done_up less a b k).1, ← (done_up less a b k).2]; exact I1⟩, rfl⟩)
          case measure => simp [intOf]; omega
    · have hk64 : k = 64 := by omega
      subst hk64
      have d1 := I0.out.res.1.2.1
      have d2 := I0.out.res.1.2.2
      have d3 := I0.out.res.2.1
      have d4 := I0.out.res.2.2
      have HS := hid (show wo.rangeAt g 0 (mL (doneZ less a b 64) (doneO less a b 64)) from I0.out.arr.range)
      have HMd := hid (fun W => rMade_any (doneZ less a b 64) (doneO less a b 64) _ rfl W)
      have he : madeT (doneZ less a b 64) (doneO less a b 64) = R := by rw [hR.out]; exact madeT_congr _ _ _ _ (fun i hi => by simp [doneZ, hi]) (fun i hi => by simp [doneO, hi])
      rw [he] at HMd
      clear he
      obtain ⟨L, hL⟩ : ∃ L, L = mL (doneZ less a b 64) (doneO less a b 64) := ⟨_, rfl⟩
      rw [← hL] at HS HMd
      have hLl : L.length = 64 := by rw [hL]; exact mL_len _ _
      have HLL := hid hLl
      clear hL hLl
      unfold tv at HMd
      generalize crB less a b 64 = C at *
      go_wp2_with ((with_reducible refine at_load 98 ?_); refine wpList_load_mid rfl 98 _ rfl g 0 rfl L _ HS.out Try.underlying98 rfl (by rw [HLL.out]; exact infoA) ?_)
      refine (HMd.out _).mono ?_
      rintro e w3 ⟨rfl, b3⟩
      have R1 := I0.out.res.below b3
      have e1 := R1.1.2.1
      have e2 := R1.1.2.2
      have e3 := R1.2.1
      have e4 := R1.2.2
      have e5 := R1.1.1
      have HW := hid (I0.out.next b3).bel
      clear R1 b3 d1 d2 d3 d4 I0
      go_wp2
      refine bodyPost_ret (v := .agg #[.int .u64 (ub R.1), .int .u64 (ub R.2)]) (by simp [results, Try.results58, go_sem, e1, e2, e5]; try rfl) rfl ⟨rfl, ?_⟩
      exact (HW.out.setCell (by simp; omega) _).setCell (by simp; omega) _
end Go.Proofs.Ytodmikjpmcabiaa
