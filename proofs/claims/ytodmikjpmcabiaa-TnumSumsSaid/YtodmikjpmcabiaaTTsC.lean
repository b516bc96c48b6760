/-
  Contract of the document's Bits.
-/
import Derived.Test.YtodmikjpmcabiaaTTsA
namespace Go.Proofs.Ytodmikjpmcabiaa
set_option linter.unusedSimpArgs false
set_option linter.unusedVariables false
set_option maxRecDepth 100000
set_option maxRecDepth 100000
open Go.ChangeShapes Go.WideShapes Go.ChangeAt Go.RowKit

def zB (op : Int) (x y : Bool) : Bool := if op = 1 then x || y else if op = 2 then x ^^ y else x && y
def ibS (op : Int) (A B : B2) (n : Nat) (s : B2) : B2 := if selB A (xB n) && selB B (yB n) then orB s (zB op (xB n) (yB n)) else s
def ibn (op : Int) (A B : B2) : Nat → B2
  | 0 => (false, false)
  | k + 1 => ibS op A B k (ibn op A B k)
def rbB (op : Int) (a b : Tn) (i : Nat) : B2 := ibn op (mkB a i) (mkB b i) 4
def bitsD (op : Int) (a b : Tn) : Tn := madeT (fun i => (rbB op a b i).1) (fun i => (rbB op a b i).2)
def opT (op : Int) (a b : Tn) : Tn := if op = 1 then orT a b else if op = 2 then xorT a b else andT a b
theorem ib4 (op : Int) (ho : op = 0 ∨ op = 1 ∨ op = 2) (am av bm bv : Bool) (ha : (av && am) = false) (hb : (bv && bm) = false) : ibn op (am || !av, am || av) (bm || !bv, bm || bv) 4 =
    if op = 1 then (!(av || bv), (av || am) || (bv || bm)) else if op = 2 then (if am || bm then (true, true) else (!(av ^^ bv), av ^^ bv)) else (!(av && bv), (av || am) && (bv || bm)) := by
  revert ha hb
  rcases ho with rfl | rfl | rfl <;> cases am <;> cases av <;> cases bm <;> cases bv <;> simp <;> decide
theorem bitsD_is {a b : Tn} (ha : tmay a = true) (hb : tmay b = true) (op : Int) (ho : op = 0 ∨ op = 1 ∨ op = 2) : bitsD op a b = opT op a b := by
  have hr : ∀ i, rbB op a b i = _ := fun i => ib4 op ho (bt a.2 i) (bt a.1 i) (bt b.2 i) (bt b.1 i) (may_bits ha i) (may_bits hb i)
  unfold bitsD opT
  apply t_ext
  · intro i hi
    rw [madeV_bit _ _ _ hi, hr i]
    have m1 := may_bits ha i
    have m2 := may_bits hb i
    revert m1 m2
    rcases ho with rfl | rfl | rfl <;> simp only [Int.reduceEq, if_false, if_true, andT, orT, xorT, butT, bt_and, bt_not _ _ hi, bt_or, bt_xor] <;> cases bt a.1 i <;> cases bt a.2 i <;> cases bt b.1 i <;> cases bt b.2 i <;> simp
  · intro i hi
    rw [madeM_bit _ _ _ hi, hr i]
    have m1 := may_bits ha i
    have m2 := may_bits hb i
    revert m1 m2
    rcases ho with rfl | rfl | rfl <;> simp only [Int.reduceEq, if_false, if_true, andT, orT, xorT, butT, bt_and, bt_not _ _ hi, bt_or, bt_xor] <;> cases bt a.1 i <;> cases bt a.2 i <;> cases bt b.1 i <;> cases bt b.2 i <;> simp
def dnZ (op : Int) (a b : Tn) (i : Nat) : Nat → Bool := fun j => if j < i then (rbB op a b j).1 else false
def dnO (op : Int) (a b : Tn) (i : Nat) : Nat → Bool := fun j => if j < i then (rbB op a b j).2 else false
theorem dn_zero (op : Int) (a b : Tn) : dnZ op a b 0 = (fun _ => false) ∧ dnO op a b 0 = (fun _ => false) := ⟨funext fun j => by simp [dnZ], funext fun j => by simp [dnO]⟩
theorem dn_up (op : Int) (a b : Tn) (i : Nat) : upd (dnZ op a b i) i (rbB op a b i).1 = dnZ op a b (i + 1) ∧ upd (dnO op a b i) i (rbB op a b i).2 = dnO op a b (i + 1) := by
  constructor
  · funext j
    unfold upd dnZ
    by_cases h : j = i
    · subst h; simp
    · by_cases h2 : j < i
      · simp [h, h2, show j < i + 1 by omega]
      · simp [h, h2, show ¬ j < i + 1 by omega]
  · funext j
    unfold upd dnO
    by_cases h : j = i
    · subst h; simp
    · by_cases h2 : j < i
      · simp [h, h2, show j < i + 1 by omega]
      · simp [h, h2, show ¬ j < i + 1 by omega]
theorem dn_own (op : Int) (a b : Tn) (i : Nat) : upd (dnZ op a b i) i false = dnZ op a b i ∧ upd (dnO op a b i) i false = dnO op a b i := by
  constructor
  · funext j
    unfold upd dnZ
    by_cases h : j = i
    · subst h; simp
    · simp [h]
  · funext j
    unfold upd dnO
    by_cases h : j = i
    · subst h; simp
    · simp [h]
theorem k_bits4 (k : Nat) (hk : k < 4) : (k : Int).tmod 2 = b01 (xB k) ∧ (k : Int) / 2 = b01 (yB k) := by
  have : ∀ i : Fin 4, ((i.val : Nat) : Int).tmod 2 = b01 (xB i.val) ∧ ((i.val : Nat) : Int) / 2 = b01 (yB i.val) := by decide +kernel
  exact this ⟨k, hk⟩
theorem z_and (x y : Bool) : bits .and .i64 (b01 x) (b01 y) = b01 (x && y) := by cases x <;> cases y <;> decide
theorem z_or (x y : Bool) : bits .or .i64 (b01 x) (b01 y) = b01 (x || y) := by cases x <;> cases y <;> decide
theorem z_xor (x y : Bool) : bits .xor .i64 (b01 x) (b01 y) = b01 (x ^^ y) := by cases x <;> cases y <;> decide
theorem b01_par (v : Bool) : b01 v % 2 = b01 v := by cases v <;> rfl
set_option maxHeartbeats 16000000 in
theorem rBits_any (op : Int) (ho : op = 0 ∨ op = 1 ∨ op = 2) (a b : Tn) (w : World) : Calls Try.prog 20 #[.int .i64 op, tv a, tv b] w fun e w' => e = .returned (.tuple #[tv (bothT a b (opT op a b)), .int .i64 (bothE a b)]) ∧ Below w.heap.size w w' := by
  have HA := fun W => rMay_any a W
  have HB := fun W => rMay_any b W
  have HM := hid fun (t : Tn) i hi W => rMk t i hi W
  obtain ⟨R, hR⟩ : ∃ R, R = bothT a b (opT op a b) := ⟨_, rfl⟩
  obtain ⟨E, hE⟩ : ∃ E, E = bothE a b := ⟨_, rfl⟩
  rw [← hR, ← hE]
  unfold tv at HA HB HM ⊢
  cases ha : tmay a
  · rw [ha] at HA
    obtain rfl : E = 1 := by rw [hE]; unfold bothE; rw [ha]; rfl
    obtain rfl : R = t0 := by rw [hR]; unfold bothT; rw [ha]; rfl
    have HA' := hid HA
    clear HA HB HM ha hR hE
    go_enter Try.func20, Try.ntmps20
    go_wp2_with fail
    refine (HA'.out _).mono ?_
    rintro e w1 ⟨rfl, b1⟩
    have hb : Below w.heap.size w w1 := (((((Below.refl _ _).alloc (Nat.le_refl _) _).alloc (by simp) _).alloc (by simp; omega) _).trans (b1.mono (by simp; omega)))
    obtain ⟨hc, hf⟩ := bcell b1
    have hz : w.heap.size + 1 + 1 < w1.heap.size := by have := b1.size; simp at this; omega
    have hy : w.heap.size + 1 < w1.heap.size := by omega
    have hx : w.heap.size < w1.heap.size := by omega
    have HW := hid hb
    clear b1 hb
    go_wp2
    refine bodyPost_ret (v := .tuple #[.agg #[.int .u64 0, .int .u64 0], .int .i64 1]) (by simp [results, Try.results20, go_sem, hc, hz]; try rfl) rfl ⟨rfl, ?_⟩
    exact (HW.out.setCell (by simp; omega) _).setCell (by simp; omega) _
  rw [ha] at HA
  have HA' := hid HA
  cases hb : tmay b
  · rw [hb] at HB
    obtain rfl : E = 1 := by rw [hE]; unfold bothE; rw [ha, hb]; rfl
    obtain rfl : R = t0 := by rw [hR]; unfold bothT; rw [ha, hb]; rfl
    have HB' := hid HB
    clear HA HB HM ha hb hR hE
    go_enter Try.func20, Try.ntmps20
    go_wp2_with fail
    refine (HA'.out _).mono ?_
    rintro e w1 ⟨rfl, b1⟩
    have hb : Below w.heap.size w w1 := (((((Below.refl _ _).alloc (Nat.le_refl _) _).alloc (by simp) _).alloc (by simp; omega) _).trans (b1.mono (by simp; omega)))
    obtain ⟨hc, hf⟩ := bcell b1
    have hz : w.heap.size + 1 + 1 < w1.heap.size := by have := b1.size; simp at this; omega
    have hy : w.heap.size + 1 < w1.heap.size := by omega
    have hx : w.heap.size < w1.heap.size := by omega
    have HW := hid hb
    clear b1 hb
    go_wp2_with fail
    refine (HB'.out _).mono ?_
    rintro e w2 ⟨rfl, b2⟩
    have hb : Below w.heap.size w w2 := HW.out.trans (b2.mono (by omega))
    obtain ⟨hc2, hf2⟩ := bcell b2
    have hz2 : w.heap.size + 1 + 1 < w2.heap.size := by have := b2.size; omega
    have HW := hid hb
    clear b2 hb
    go_wp2
    refine bodyPost_ret (v := .tuple #[.agg #[.int .u64 0, .int .u64 0], .int .i64 1]) (by simp [results, Try.results20, go_sem, hc, hz, hc2, hz2]; try rfl) rfl ⟨rfl, ?_⟩
    exact (HW.out.setCell (by simp; omega) _).setCell (by simp; omega) _
  rw [hb] at HB
  have HB' := hid HB
  obtain rfl : E = 0 := by rw [hE]; unfold bothE; rw [ha, hb]; rfl
  have hR' : R = bitsD op a b := by rw [bitsD_is ha hb op ho, hR]; unfold bothT; rw [ha, hb]; rfl
  unfold bitsD at hR'
  have HR := hid hR'
  clear HA HB ha hb hR hE hR'
  have hO := hid ho
  clear ho
  go_enter Try.func20, Try.ntmps20
  go_wp2_with fail
  refine (HA'.out _).mono ?_
  rintro e w1 ⟨rfl, b1⟩
  have T0 : TC w1 w.heap.size a := (((TC.new rfl).alloc _).alloc _).below b1
  have T1 : TC w1 (w.heap.size + 1) b := ((TC.new (by simp)).alloc _).below b1
  have T2 : TB w1 (w.heap.size + 1 + 1) t0 := (TB.new (a := t0) (by simp)).below b1
  have B : Below w.heap.size w w1 := (((((Below.refl _ _).alloc (Nat.le_refl _) _).alloc (by simp) _).alloc (by simp; omega) _).trans (b1.mono (by simp; omega)))
  have p0 := T1.1
  have q0 := T1.2.1
  have r0 := T1.2.2
  clear b1
  go_wp2_with fail
  refine (HB'.out _).mono ?_
  rintro e w2 ⟨rfl, b2⟩
  clear p0 q0 r0
  replace T0 := T0.below b2
  replace T1 := T1.below b2
  replace T2 := T2.below b2
  replace B := B.trans (b2.mono B.size)
  clear b2
  obtain ⟨g, hg⟩ : ∃ g : Nat, g = w2.heap.size := ⟨_, rfl⟩
  have X0 : C2 w a b g (dnZ op a b 0) (dnO op a b 0) (w2.alloc (.cells Z64 98)) := by
    have ba := (Below.refl w2.heap.size w2).alloc (Nat.le_refl _) (.cells Z64 98)
    rw [(dn_zero op a b).1, (dn_zero op a b).2]
    exact ⟨T0.below ba, T1.below ba, T2.below ba, AR.zero Z64_get hg, B.alloc B.size _, by rw [hg]; exact T2.1.1⟩
  have I00 := hid X0
  clear X0 T0 T1 T2 B
  unfold Z64 at I00
  have hg' := hid hg
  clear hg
  go_wp2_with fail
  rw [← hg'.out]
  go_loopw [9] (fun i wr => ∃ k : Nat, k ≤ 64 ∧ i = .int .i64 k ∧ Hid (C2 w a b g (dnZ op a b k) (dnO op a b k) wr)) (fun i _ => 64 - (intOf i).toNat)
  case atStart => exact ⟨0, by omega, rfl, I00⟩
  case round =>
    clear I00
    obtain ⟨k, hk, rfl, I0⟩ := hrel
    obtain ⟨wo, rfl⟩ : ∃ wo : World, wo = wr := ⟨_, rfl⟩
    by_cases hlt : k < 64
    · have hlt' : (k : Int) < 64 := by omega
      have hk0 : (0 : Int) ≤ k := by omega
      have HMa : Hid (∀ W, Calls Try.prog 64 #[.agg #[.int .u64 (ub a.1), .int .u64 (ub a.2)], .int .i64 (k : Int)] W fun e w' => e = .returned (.int .i64 (mB (mkB a k))) ∧ Below W.heap.size W w') := hid (HM.out a k hlt)
      have HMb : Hid (∀ W, Calls Try.prog 64 #[.agg #[.int .u64 (ub b.1), .int .u64 (ub b.2)], .int .i64 (k : Int)] W fun e w' => e = .returned (.int .i64 (mB (mkB b k))) ∧ Below W.heap.size W w') := hid (HM.out b k hlt)
      have HS : Hid (rbB op a b k = ibn op (mkB a k) (mkB b k) 4) := hid rfl
      generalize mkB a k = A at *
      generalize mkB b k = B at *
      have I1 : Hid (C2 w a b g (upd (dnZ op a b k) k (ibn op A B 0).1) (upd (dnO op a b k) k (ibn op A B 0).2) wo) := by
        show C2 w a b g (upd (dnZ op a b k) k false) (upd (dnO op a b k) k false) wo
        rw [(dn_own op a b k).1, (dn_own op a b k).2]
        exact I0.out
      clear I0
      go_wp2_with fail
      go_loopw [10] (fun n wi => ∃ j : Nat, j ≤ 4 ∧ n = .int .i64 j ∧ Hid (C2 w a b g (upd (dnZ op a b k) k (ibn op A B j).1) (upd (dnO op a b k) k (ibn op A B j).2) wi)) (fun n _ => 4 - (intOf n).toNat)
      case atStart => exact ⟨0, by omega, rfl, I1⟩
      case round =>
        clear I1
        obtain ⟨j, hj, rfl, I1⟩ := hrel
        by_cases hjl : j < 4
        · have hjl' : (j : Int) < 4 := by omega
          obtain ⟨e1, e2⟩ := k_bits4 j hjl
          have HN : Hid (ibn op A B (j + 1) = ibS op A B j (ibn op A B j)) := hid rfl
          unfold ibS at HN
          generalize xB j = x at *
          generalize yB j = y at *
          generalize ibn op A B j = S at *
          obtain ⟨lz, lo⟩ := S
          dsimp only at I1 HN ⊢
          have RBx := hid (rbit_int (b01 x) (b01_bd x).1)
          have RBy := hid (rbit_int (b01 y) (b01_bd y).1)
          have w4 : wrap64 (b01 y) = b01 y := by cases y <;> kernel_rfl
          have Ta := sel_is A x
          have Tb := sel_is B y
          have q0 := I1.out.ca.2.1
          have q1 := I1.out.ca.2.2
          go_wp2_with fail
          refine (HMa.out _).mono ?_
          rintro e wa ⟨rfl, z⟩
          have I2 := hid (I1.out.next z)
          clear I1 z q0 q1
          go_wp2_with fail
          refine (RBx.out _).mono ?_
          rintro e w_ ⟨rfl, rfl⟩
          cases sa : selB A x
          · rw [sa] at Ta HN
            rw [Bool.not_false] at Ta
            simp only [Bool.false_and, Bool.false_eq_true, if_false] at HN
            clear sa Tb
            go_wp2
            go_roundw
            case rel => first | exact ⟨j + 1, by omega, by go_num, by rw [HN.out]; exact I2⟩ | ((repeat apply Exists.intro); exact ⟨⟨j + 1, by omega, by go_num, by rw [HN.out]; exact I2⟩, rfl⟩)
            case measure => simp [intOf]; omega
          rw [sa] at Ta HN
          rw [Bool.not_true] at Ta
          rw [Bool.true_and] at HN
          have q0 := I2.out.cb.2.1
          have q1 := I2.out.cb.2.2
          clear sa
          go_wp2_with fail
          refine (HMb.out _).mono ?_
          rintro e wb ⟨rfl, z⟩
          have I1 := hid (I2.out.next z)
          clear I2 z q0 q1
          have I2 := I1
          clear I1
          go_wp2_with fail
          refine (RBy.out _).mono ?_
          rintro e w_ ⟨rfl, rfl⟩
          cases sb : selB B y
          · rw [sb] at Tb HN
            rw [Bool.not_false] at Tb
            simp only [Bool.false_eq_true, if_false] at HN
            clear sb
            go_wp2
            go_roundw
            case rel => first | exact ⟨j + 1, by omega, by go_num, by rw [HN.out]; exact I2⟩ | ((repeat apply Exists.intro); exact ⟨⟨j + 1, by omega, by go_num, by rw [HN.out]; exact I2⟩, rfl⟩)
            case measure => simp [intOf]; omega
          rw [sb] at Tb HN
          rw [Bool.not_true] at Tb
          rw [if_pos rfl] at HN
          clear sb
          have y1 : wb.cell? ⟨g, k, none⟩ = some (.int .i64 (mB (lz, lo))) := by
            have := (I2.out.arr.2 k hlt).1
            rwa [upd_at, upd_at] at this
          have y2 := (I2.out.arr.2 k hlt).2
          have y3 := I2.out.arr.1
          have d1 : wb.drew.cell? ⟨g, k, none⟩ = some (.int .i64 (mB (lz, lo))) := cn (below_dr wb) y1
          have d2 : wb.drew.frozen? ⟨g, k, none⟩ = false := ((I2.out.next (below_dr wb)).arr.2 k hlt).2
          have d3 : g < wb.drew.heap.size := (I2.out.next (below_dr wb)).arr.1
          have ZA := z_and x y
          have ZO := z_or x y
          have ZX := z_xor x y
          clear RBx RBy
          rcases hO.out with rfl | rfl | rfl
          · have HN' : Hid (ibn 0 A B (j + 1) = orB (lz, lo) (x && y)) := hid (by rw [HN.out]; rfl)
            clear HN
            have OL := or_is (lz, lo) (b01 (x && y)) (x && y) (b01_par _)
            have RBs := hid (rbit_int (b01 (x && y)) (b01_bd _).1)
            generalize hv : (x && y) = v at OL RBs HN'
            rw [hv] at ZA
            clear hv
            go_wp2_with fail
            refine cutS [64, 65, 66, 67, 68, 69, 70] (fun us W' => C2 w a b g (upd (dnZ 0 a b k) k (orB (lz, lo) v).1) (upd (dnO 0 a b k) k (orB (lz, lo) v).2) W') ?_ ?_
            · have RR := I2.out.put hlt (mB (orB (lz, lo) v)) (orB (lz, lo) v) rfl
              rw [upd_upd, upd_upd] at RR
              have RD := (I2.out.next (below_dr wb)).put hlt (mB (orB (lz, lo) v)) (orB (lz, lo) v) rfl
              rw [upd_upd, upd_upd] at RD
              replace RR := hid RR
              replace RD := hid RD
              go_region_law (first | (go_simp; go_at_call 66; (with_reducible refine (RBs.out _).mono ?_); rintro e wq ⟨rfl, rfl⟩))
              all_goals first | exact cutEnd (RR.out.next (below_dr _)) (by kernel_rfl) | exact cutEnd RD.out (by kernel_rfl) | exact cutEnd RR.out (by kernel_rfl)
            clear y1 y2 y3 d1 d2 d3 I2 OL RBs
            intro w3 u64 u65 u66 u67 u68 u69 u70 I3
            simp only [sets, s1, s2, s3]
            try simp only [Exit.then]
            replace I3 := hid I3
            go_wp2
            go_roundw
            case rel => first | exact ⟨j + 1, by omega, by go_num, by rw [HN'.out]; exact I3⟩ | ((repeat apply Exists.intro); exact ⟨⟨j + 1, by omega, by go_num, by rw [HN'.out]; exact I3⟩, rfl⟩)
            case measure => simp [intOf]; omega
          · have HN' : Hid (ibn 1 A B (j + 1) = orB (lz, lo) (x || y)) := hid (by rw [HN.out]; rfl)
            clear HN
            have OL := or_is (lz, lo) (b01 (x || y)) (x || y) (b01_par _)
            have RBs := hid (rbit_int (b01 (x || y)) (b01_bd _).1)
            generalize hv : (x || y) = v at OL RBs HN'
            rw [hv] at ZO
            clear hv
            go_wp2_with fail
            refine cutS [64, 65, 66, 67, 68, 69, 70] (fun us W' => C2 w a b g (upd (dnZ 1 a b k) k (orB (lz, lo) v).1) (upd (dnO 1 a b k) k (orB (lz, lo) v).2) W') ?_ ?_
            · have RR := I2.out.put hlt (mB (orB (lz, lo) v)) (orB (lz, lo) v) rfl
              rw [upd_upd, upd_upd] at RR
              have RD := (I2.out.next (below_dr wb)).put hlt (mB (orB (lz, lo) v)) (orB (lz, lo) v) rfl
              rw [upd_upd, upd_upd] at RD
              replace RR := hid RR
              replace RD := hid RD
              go_region_law (first | (go_simp; go_at_call 66; (with_reducible refine (RBs.out _).mono ?_); rintro e wq ⟨rfl, rfl⟩))
              all_goals first | exact cutEnd (RR.out.next (below_dr _)) (by kernel_rfl) | exact cutEnd RD.out (by kernel_rfl) | exact cutEnd RR.out (by kernel_rfl)
            clear y1 y2 y3 d1 d2 d3 I2 OL RBs
            intro w3 u64 u65 u66 u67 u68 u69 u70 I3
            simp only [sets, s1, s2, s3]
            try simp only [Exit.then]
            replace I3 := hid I3
            go_wp2
            go_roundw
            case rel => first | exact ⟨j + 1, by omega, by go_num, by rw [HN'.out]; exact I3⟩ | ((repeat apply Exists.intro); exact ⟨⟨j + 1, by omega, by go_num, by rw [HN'.out]; exact I3⟩, rfl⟩)
            case measure => simp [intOf]; omega
          · have HN' : Hid (ibn 2 A B (j + 1) = orB (lz, lo) (x ^^ y)) := hid (by rw [HN.out]; rfl)
            clear HN
            have OL := or_is (lz, lo) (b01 (x ^^ y)) (x ^^ y) (b01_par _)
            have RBs := hid (rbit_int (b01 (x ^^ y)) (b01_bd _).1)
            generalize hv : (x ^^ y) = v at OL RBs HN'
            rw [hv] at ZX
            clear hv
            go_wp2_with fail
            refine cutS [64, 65, 66, 67, 68, 69, 70] (fun us W' => C2 w a b g (upd (dnZ 2 a b k) k (orB (lz, lo) v).1) (upd (dnO 2 a b k) k (orB (lz, lo) v).2) W') ?_ ?_
            · have RR := I2.out.put hlt (mB (orB (lz, lo) v)) (orB (lz, lo) v) rfl
              rw [upd_upd, upd_upd] at RR
              have RD := (I2.out.next (below_dr wb)).put hlt (mB (orB (lz, lo) v)) (orB (lz, lo) v) rfl
              rw [upd_upd, upd_upd] at RD
              replace RR := hid RR
              replace RD := hid RD
              go_region_law (first | (go_simp; go_at_call 66; (with_reducible refine (RBs.out _).mono ?_); rintro e wq ⟨rfl, rfl⟩))
              all_goals first | exact cutEnd (RR.out.next (below_dr _)) (by kernel_rfl) | exact cutEnd RD.out (by kernel_rfl) | exact cutEnd RR.out (by kernel_rfl)
            clear y1 y2 y3 d1 d2 d3 I2 OL RBs
            intro w3 u64 u65 u66 u67 u68 u69 u70 I3
            simp only [sets, s1, s2, s3]
            try simp only [Exit.then]
            replace I3 := hid I3
            go_wp2
            go_roundw
            case rel => first | exact ⟨j + 1, by omega, by go_num, by rw [HN'.out]; exact I3⟩ | ((repeat apply Exists.intro); exact ⟨⟨j + 1, by omega, by go_num, by rw [HN'.out]; exact I3⟩, rfl⟩)
            case measure => simp [intOf]; omega
        · have hj8 : j = 4 := by omega
          subst hj8
          rw [← HS.out] at *
          clear hjl hj
          go_wp2
          go_roundw
          case rel => first | exact ⟨k + 1, by omega, by go_num, by rw [← (dn_up op a b k).1, ← (dn_up op a b k).2]; exact I1⟩ | ((repeat apply Exists.intro); exact ⟨⟨k + 1, by omega, by go_num, by rw [← (dn_up op a b k).1, ← (dn_up op a b k).2]; exact I1⟩, rfl⟩)
          case measure => simp [intOf]; omega
    · have hk64 : k = 64 := by omega
      subst hk64
      have d1 := I0.out.res.1.2.1
      have d2 := I0.out.res.1.2.2
      have d3 := I0.out.res.2.1
      have d4 := I0.out.res.2.2
      have HS := hid (show wo.rangeAt g 0 (mL (dnZ op a b 64) (dnO op a b 64)) from I0.out.arr.range)
      have HMd := hid (fun W => rMade_any (dnZ op a b 64) (dnO op a b 64) _ rfl W)
      have he : madeT (dnZ op a b 64) (dnO op a b 64) = R := by rw [HR.out]; exact madeT_congr _ _ _ _ (fun i hi => by simp [dnZ, hi]) (fun i hi => by simp [dnO, hi])
      rw [he] at HMd
      clear he
      obtain ⟨L, hL⟩ : ∃ L, L = mL (dnZ op a b 64) (dnO op a b 64) := ⟨_, rfl⟩
      rw [← hL] at HS HMd
      have hLl : L.length = 64 := by rw [hL]; exact mL_len _ _
      have HLL := hid hLl
      clear hL hLl
      unfold tv at HMd
      go_wp2_with ((with_reducible refine at_load 98 ?_); refine wpList_load_mid rfl 98 _ rfl g 0 rfl L _ HS.out Try.underlying98 rfl (by rw [HLL.out]; exact infoA) ?_)
      refine (HMd.out _).mono ?_
      rintro e w3 ⟨rfl, b3⟩
      have R1 := I0.out.res.below b3
      have e1 := R1.1.2.1
      have e2 := R1.1.2.2
      have e3 := R1.2.1
      have e4 := R1.2.2
      have e5 := R1.1.1
      have HW := hid (I0.out.next b3).bel
      clear R1 b3 d1 d2 d3 d4 I0
      go_wp2
      refine bodyPost_ret (v := .tuple #[.agg #[.int .u64 (ub R.1), .int .u64 (ub R.2)], .int .i64 0]) (by simp [results, Try.results20, go_sem, e1, e2, e5]; try rfl) rfl ⟨rfl, ?_⟩
      exact (HW.out.setCell (by simp; omega) _).setCell (by simp; omega) _
end Go.Proofs.Ytodmikjpmcabiaa
