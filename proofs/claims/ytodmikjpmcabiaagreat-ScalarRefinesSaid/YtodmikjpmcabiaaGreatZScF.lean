import Derived.Test.YtodmikjpmcabiaaGreatZScE
import Derived.Deep.RegionHeld3
namespace Go.Proofs.YtodmikjpmcabiaaGreat
set_option linter.unusedSimpArgs false
set_option linter.unusedVariables false
set_option maxRecDepth 100000
open Go.ChangeShapes Go.WideShapes Go.ChangeAt Go.RowKit

theorem BC.res {w w' : World} {r : Nat} {x : Tn} (h : BC w' r x) (hr : w.heap.size ≤ r) (hb : Below w.heap.size w w') : RsI w r w' :=
  ⟨h.lt, ⟨_, h.c0⟩, ⟨_, h.c1⟩, h.f0, h.f1, hr, hb⟩
set_option maxHeartbeats 4000000 in
theorem cShifted_any (op : Int) (c : Bool) (t : Tn) (k : Nat) (ht : tmay t = true) (hk : k < sizeW c) (w : World) : Calls Tryz.prog 107 #[.int .i64 op, .int .i64 (szI c), tv t, .int .i64 (k : Int)] w fun e w' => e = .returned (.tuple #[tv (shX op c t k), .int .i64 0]) ∧ Below w.heap.size w w' := by
  have h64 : k < 64 := Nat.lt_of_lt_of_le hk (sizeW_le c)
  have n1 : ¬ ((k : Int) < 0 ∨ (64 : Int) ≤ k) := by omega
  have n2 : ¬ ((k : Int) < 0 ∨ (32 : Int) ≤ k) ∨ c = true := by cases c; exact .inl (by have : k < 32 := hk; omega); exact .inr rfl
  by_cases h6 : op = 6
  · subst h6
    have X1 := fun W => tLsh_any t k W
    have eT : shT t (fun x => x <<< (k : Int).toNat) k 64 = (t.1 <<< k, t.2 <<< k) := (if_neg n1).trans ((if_pos ht).trans (by rw [Int.toNat_natCast]))
    have eE : shE t k 64 = 0 := (if_neg n1).trans (if_pos ht)
    rw [eT, eE] at X1
    rw [show shX 6 c t k = (t.1 <<< k, t.2 <<< k) from rfl]
    generalize ((t.1 <<< k, t.2 <<< k) : Tn) = R at *
    generalize szI c = SZ at *
    generalize (k : Int) = K at *
    clear eT eE n1 n2 h64 hk
    unfold tv at X1 ⊢
    replace X1 := hid X1
    go_enter Tryz.func107, Tryz.ntmps107
    go_wp2_with fail
    refine (X1.out _).mono ?_
    rintro e w1 ⟨rfl, z⟩
    have JX : BC w1 (w.heap.size) (t) := ((BC.new rfl).alloc _).below z
    have JR : BC w1 (w.heap.size + 1) (t0) := (BC.new (by simp)).below z
    have B := below_next (bel_alloc (bel_alloc (Below.refl w.heap.size w))) z
    clear z
    have JX0 := JX.c0
    have JX1 := JX.c1
    have JXl := JX.lt
    have JR0 := JR.c0
    have JR1 := JR.c1
    have JRl := JR.lt
    have JRf0 := JR.f0
    have JRf1 := JR.f1
    have lb := B.size
    go_wp2
    exact bodyPost_ret (v := .tuple #[tv R, .int .i64 0]) (by simp [results, Tryz.results107, go_sem, JX0, JX1, JXl, JR0, JR1, JRl]; try rfl) rfl ⟨rfl, put2_below R B (by omega)⟩
  by_cases h7 : op = 7
  · subst h7
    have X1 := fun W => tRsh_any t k W
    have eT : shT t (fun x => x >>> (k : Int).toNat) k 64 = (t.1 >>> k, t.2 >>> k) := (if_neg n1).trans ((if_pos ht).trans (by rw [Int.toNat_natCast]))
    have eE : shE t k 64 = 0 := (if_neg n1).trans (if_pos ht)
    rw [eT, eE] at X1
    rw [show shX 7 c t k = (t.1 >>> k, t.2 >>> k) from rfl]
    generalize ((t.1 >>> k, t.2 >>> k) : Tn) = R at *
    generalize szI c = SZ at *
    generalize (k : Int) = K at *
    clear eT eE n1 n2 h64 hk h6
    unfold tv at X1 ⊢
    replace X1 := hid X1
    go_enter Tryz.func107, Tryz.ntmps107
    go_wp2_with fail
    refine (X1.out _).mono ?_
    rintro e w1 ⟨rfl, z⟩
    have JX : BC w1 (w.heap.size) (t) := ((BC.new rfl).alloc _).below z
    have JR : BC w1 (w.heap.size + 1) (t0) := (BC.new (by simp)).below z
    have B := below_next (bel_alloc (bel_alloc (Below.refl w.heap.size w))) z
    clear z
    have JX0 := JX.c0
    have JX1 := JX.c1
    have JXl := JX.lt
    have JR0 := JR.c0
    have JR1 := JR.c1
    have JRl := JR.lt
    have JRf0 := JR.f0
    have JRf1 := JR.f1
    have lb := B.size
    go_wp2
    exact bodyPost_ret (v := .tuple #[tv R, .int .i64 0]) (by simp [results, Tryz.results107, go_sem, JX0, JX1, JXl, JR0, JR1, JRl]; try rfl) rfl ⟨rfl, put2_below R B (by omega)⟩
  by_cases h12 : op = 12
  · subst h12
    have X1 := fun W => tArsh_any t k (szI c) W
    have eT : arshT t k (szI c) = shX 12 c t k := by
      cases c
      · rcases n2 with n2 | n2
        · exact (if_pos rfl).trans ((if_neg n2).trans ((if_pos ht).trans (by rw [Int.toNat_natCast]; rfl)))
        · cases n2
      · exact (if_neg (by decide)).trans ((if_pos rfl).trans ((if_neg n1).trans ((if_pos ht).trans (by rw [Int.toNat_natCast]; rfl))))
    have eE : arshE t k (szI c) = 0 := by
      cases c
      · rcases n2 with n2 | n2
        · exact (if_pos rfl).trans ((if_neg n2).trans (if_pos ht))
        · cases n2
      · exact (if_neg (by decide)).trans ((if_pos rfl).trans ((if_neg n1).trans (if_pos ht)))
    rw [eT, eE] at X1
    generalize shX 12 c t k = R at *
    generalize szI c = SZ at *
    generalize (k : Int) = K at *
    clear eT eE n1 n2 h64 hk h6 h7
    unfold tv at X1 ⊢
    replace X1 := hid X1
    go_enter Tryz.func107, Tryz.ntmps107
    go_wp2_with fail
    refine (X1.out _).mono ?_
    rintro e w1 ⟨rfl, z⟩
    have JX : BC w1 (w.heap.size) (t) := ((BC.new rfl).alloc _).below z
    have JR : BC w1 (w.heap.size + 1) (t0) := (BC.new (by simp)).below z
    have B := below_next (bel_alloc (bel_alloc (Below.refl w.heap.size w))) z
    clear z
    have JX0 := JX.c0
    have JX1 := JX.c1
    have JXl := JX.lt
    have JR0 := JR.c0
    have JR1 := JR.c1
    have JRl := JR.lt
    have JRf0 := JR.f0
    have JRf1 := JR.f1
    have lb := B.size
    go_wp2
    exact bodyPost_ret (v := .tuple #[tv R, .int .i64 0]) (by simp [results, Tryz.results107, go_sem, JX0, JX1, JXl, JR0, JR1, JRl]; try rfl) rfl ⟨rfl, put2_below R B (by omega)⟩
  have e6 : (op == 6) = false := by simpa using h6
  have e7 : (op == 7) = false := by simpa using h7
  have e12 : (op == 12) = false := by simpa using h12
  have X1 := fun W => tAll_any W
  rw [show shX op c t k = allT from (if_neg h6).trans ((if_neg h7).trans (if_neg h12))]
  clear h6 h7 h12 n1 n2 h64 hk
  generalize szI c = SZ at *
  generalize (k : Int) = K at *
  unfold allT
  unfold tv at X1 ⊢
  dsimp only at X1 ⊢
  replace X1 := hid X1
  go_enter Tryz.func107, Tryz.ntmps107
  go_wp2_with fail
  refine (X1.out _).mono ?_
  rintro e w1 ⟨rfl, z⟩
  have JX : BC w1 (w.heap.size) (t) := ((BC.new rfl).alloc _).below z
  have JR : BC w1 (w.heap.size + 1) (t0) := (BC.new (by simp)).below z
  have B := below_next (bel_alloc (bel_alloc (Below.refl w.heap.size w))) z
  clear z
  have JX0 := JX.c0
  have JX1 := JX.c1
  have JXl := JX.lt
  have JR0 := JR.c0
  have JR1 := JR.c1
  have JRl := JR.lt
  have JRf0 := JR.f0
  have JRf1 := JR.f1
  have lb := B.size
  go_wp2
  exact bodyPost_ret (v := .tuple #[tv (0#64, 18446744073709551615#64), .int .i64 0]) (by simp [results, Tryz.results107, go_sem, JX0, JX1, JXl, JR0, JR1, JRl]; try rfl) rfl ⟨rfl, put2_below (0#64, 18446744073709551615#64) B (by omega)⟩
set_option maxHeartbeats 4000000 in
theorem cBits0 (c : Bool) (a b : Sc) (ha : tmay a.1 = true) (hb : tmay b.1 = true) (w : World) : Calls Tryz.prog 71 #[.int .i64 0, .int .i64 (szI c), sv a, sv b] w fun e w' => e = .returned (.tuple #[tv (bitsX 0 c a b), .int .i64 0]) ∧ Below w.heap.size w w' := by
  have X1 := fun W => tAdd_any a.1 b.1 W
  have e1 : bothT a.1 b.1 (sumT a.1 b.1) = sumT a.1 b.1 := by unfold bothT; rw [ha, hb]; rfl
  have e2 : bothE a.1 b.1 = 0 := by unfold bothE; rw [ha, hb]; rfl
  rw [e1, e2] at X1
  rw [show bitsX 0 c a b = sumT a.1 b.1 from rfl]
  generalize sumT a.1 b.1 = R at *
  generalize szI c = SZ at *
  clear e1 e2 ha hb
  obtain ⟨⟨v, m⟩, l, h⟩ := a
  obtain ⟨⟨v', m'⟩, l', h'⟩ := b
  unfold tv at X1
  unfold sv
  dsimp only at X1 ⊢
  replace X1 := hid X1
  go_enter Tryz.func71, Tryz.ntmps71
  go_wp2_with fail
  refine (X1.out _).mono ?_
  rintro e w1 ⟨rfl, z⟩
  have JX : SC w1 (w.heap.size) (((v, m), l, h)) := (((SC.new rfl).alloc _).alloc _).below z
  have JY : SC w1 (w.heap.size + 1) (((v', m'), l', h')) := ((SC.new (by simp)).alloc _).below z
  have JR : BC w1 (w.heap.size + 1 + 1) (t0) := (BC.new (by simp)).below z
  have B := below_next (bel_alloc (bel_alloc (bel_alloc (Below.refl w.heap.size w)))) z
  clear z
  obtain ⟨JXl, JX0, JX1, JX2, JX3⟩ := JX.k
  obtain ⟨JYl, JY0, JY1, JY2, JY3⟩ := JY.k
  have JR0 := JR.c0
  have JR1 := JR.c1
  have JRl := JR.lt
  have JRf0 := JR.f0
  have JRf1 := JR.f1
  have lb := B.size
  go_wp2
  exact bodyPost_ret (v := .tuple #[tv R, .int .i64 0]) (by simp [results, Tryz.results71, go_sem, JX0, JX1, JX2, JX3, JXl, JY0, JY1, JY2, JY3, JYl, JR0, JR1, JRl]; try rfl) rfl ⟨rfl, put2_below R B (by omega)⟩
set_option maxHeartbeats 4000000 in
theorem cBits1 (c : Bool) (a b : Sc) (ha : tmay a.1 = true) (hb : tmay b.1 = true) (w : World) : Calls Tryz.prog 71 #[.int .i64 1, .int .i64 (szI c), sv a, sv b] w fun e w' => e = .returned (.tuple #[tv (bitsX 1 c a b), .int .i64 0]) ∧ Below w.heap.size w w' := by
  have X1 := fun W => tSub_any a.1 b.1 W
  have e1 : bothT a.1 b.1 (subT a.1 b.1) = subT a.1 b.1 := by unfold bothT; rw [ha, hb]; rfl
  have e2 : bothE a.1 b.1 = 0 := by unfold bothE; rw [ha, hb]; rfl
  rw [e1, e2] at X1
  rw [show bitsX 1 c a b = subT a.1 b.1 from rfl]
  generalize subT a.1 b.1 = R at *
  generalize szI c = SZ at *
  clear e1 e2 ha hb
  obtain ⟨⟨v, m⟩, l, h⟩ := a
  obtain ⟨⟨v', m'⟩, l', h'⟩ := b
  unfold tv at X1
  unfold sv
  dsimp only at X1 ⊢
  replace X1 := hid X1
  go_enter Tryz.func71, Tryz.ntmps71
  go_wp2_with fail
  refine (X1.out _).mono ?_
  rintro e w1 ⟨rfl, z⟩
  have JX : SC w1 (w.heap.size) (((v, m), l, h)) := (((SC.new rfl).alloc _).alloc _).below z
  have JY : SC w1 (w.heap.size + 1) (((v', m'), l', h')) := ((SC.new (by simp)).alloc _).below z
  have JR : BC w1 (w.heap.size + 1 + 1) (t0) := (BC.new (by simp)).below z
  have B := below_next (bel_alloc (bel_alloc (bel_alloc (Below.refl w.heap.size w)))) z
  clear z
  obtain ⟨JXl, JX0, JX1, JX2, JX3⟩ := JX.k
  obtain ⟨JYl, JY0, JY1, JY2, JY3⟩ := JY.k
  have JR0 := JR.c0
  have JR1 := JR.c1
  have JRl := JR.lt
  have JRf0 := JR.f0
  have JRf1 := JR.f1
  have lb := B.size
  go_wp2
  exact bodyPost_ret (v := .tuple #[tv R, .int .i64 0]) (by simp [results, Tryz.results71, go_sem, JX0, JX1, JX2, JX3, JXl, JY0, JY1, JY2, JY3, JYl, JR0, JR1, JRl]; try rfl) rfl ⟨rfl, put2_below R B (by omega)⟩
set_option maxHeartbeats 4000000 in
theorem cBits2 (c : Bool) (a b : Sc) (ha : tmay a.1 = true) (hb : tmay b.1 = true) (w : World) : Calls Tryz.prog 71 #[.int .i64 2, .int .i64 (szI c), sv a, sv b] w fun e w' => e = .returned (.tuple #[tv (bitsX 2 c a b), .int .i64 0]) ∧ Below w.heap.size w w' := by
  have X1 := fun W => tMul_any a.1 b.1 W
  have e1 : bothT a.1 b.1 (mulT a.1 b.1) = mulT a.1 b.1 := by unfold bothT; rw [ha, hb]; rfl
  have e2 : bothE a.1 b.1 = 0 := by unfold bothE; rw [ha, hb]; rfl
  rw [e1, e2] at X1
  rw [show bitsX 2 c a b = mulT a.1 b.1 from rfl]
  generalize mulT a.1 b.1 = R at *
  generalize szI c = SZ at *
  clear e1 e2 ha hb
  obtain ⟨⟨v, m⟩, l, h⟩ := a
  obtain ⟨⟨v', m'⟩, l', h'⟩ := b
  unfold tv at X1
  unfold sv
  dsimp only at X1 ⊢
  replace X1 := hid X1
  go_enter Tryz.func71, Tryz.ntmps71
  go_wp2_with fail
  refine (X1.out _).mono ?_
  rintro e w1 ⟨rfl, z⟩
  have JX : SC w1 (w.heap.size) (((v, m), l, h)) := (((SC.new rfl).alloc _).alloc _).below z
  have JY : SC w1 (w.heap.size + 1) (((v', m'), l', h')) := ((SC.new (by simp)).alloc _).below z
  have JR : BC w1 (w.heap.size + 1 + 1) (t0) := (BC.new (by simp)).below z
  have B := below_next (bel_alloc (bel_alloc (bel_alloc (Below.refl w.heap.size w)))) z
  clear z
  obtain ⟨JXl, JX0, JX1, JX2, JX3⟩ := JX.k
  obtain ⟨JYl, JY0, JY1, JY2, JY3⟩ := JY.k
  have JR0 := JR.c0
  have JR1 := JR.c1
  have JRl := JR.lt
  have JRf0 := JR.f0
  have JRf1 := JR.f1
  have lb := B.size
  go_wp2
  exact bodyPost_ret (v := .tuple #[tv R, .int .i64 0]) (by simp [results, Tryz.results71, go_sem, JX0, JX1, JX2, JX3, JXl, JY0, JY1, JY2, JY3, JYl, JR0, JR1, JRl]; try rfl) rfl ⟨rfl, put2_below R B (by omega)⟩
set_option maxHeartbeats 4000000 in
theorem cBits4 (c : Bool) (a b : Sc) (ha : tmay a.1 = true) (hb : tmay b.1 = true) (w : World) : Calls Tryz.prog 71 #[.int .i64 4, .int .i64 (szI c), sv a, sv b] w fun e w' => e = .returned (.tuple #[tv (bitsX 4 c a b), .int .i64 0]) ∧ Below w.heap.size w w' := by
  have X1 := fun W => tOr_any a.1 b.1 W
  have e1 : bothT a.1 b.1 (orT a.1 b.1) = orT a.1 b.1 := by unfold bothT; rw [ha, hb]; rfl
  have e2 : bothE a.1 b.1 = 0 := by unfold bothE; rw [ha, hb]; rfl
  rw [e1, e2] at X1
  rw [show bitsX 4 c a b = orT a.1 b.1 from rfl]
  generalize orT a.1 b.1 = R at *
  generalize szI c = SZ at *
  clear e1 e2 ha hb
  obtain ⟨⟨v, m⟩, l, h⟩ := a
  obtain ⟨⟨v', m'⟩, l', h'⟩ := b
  unfold tv at X1
  unfold sv
  dsimp only at X1 ⊢
  replace X1 := hid X1
  go_enter Tryz.func71, Tryz.ntmps71
  go_wp2_with fail
  refine (X1.out _).mono ?_
  rintro e w1 ⟨rfl, z⟩
  have JX : SC w1 (w.heap.size) (((v, m), l, h)) := (((SC.new rfl).alloc _).alloc _).below z
  have JY : SC w1 (w.heap.size + 1) (((v', m'), l', h')) := ((SC.new (by simp)).alloc _).below z
  have JR : BC w1 (w.heap.size + 1 + 1) (t0) := (BC.new (by simp)).below z
  have B := below_next (bel_alloc (bel_alloc (bel_alloc (Below.refl w.heap.size w)))) z
  clear z
  obtain ⟨JXl, JX0, JX1, JX2, JX3⟩ := JX.k
  obtain ⟨JYl, JY0, JY1, JY2, JY3⟩ := JY.k
  have JR0 := JR.c0
  have JR1 := JR.c1
  have JRl := JR.lt
  have JRf0 := JR.f0
  have JRf1 := JR.f1
  have lb := B.size
  go_wp2
  exact bodyPost_ret (v := .tuple #[tv R, .int .i64 0]) (by simp [results, Tryz.results71, go_sem, JX0, JX1, JX2, JX3, JXl, JY0, JY1, JY2, JY3, JYl, JR0, JR1, JRl]; try rfl) rfl ⟨rfl, put2_below R B (by omega)⟩
set_option maxHeartbeats 4000000 in
theorem cBits5 (c : Bool) (a b : Sc) (ha : tmay a.1 = true) (hb : tmay b.1 = true) (w : World) : Calls Tryz.prog 71 #[.int .i64 5, .int .i64 (szI c), sv a, sv b] w fun e w' => e = .returned (.tuple #[tv (bitsX 5 c a b), .int .i64 0]) ∧ Below w.heap.size w w' := by
  have X1 := fun W => tAnd_any a.1 b.1 W
  have e1 : bothT a.1 b.1 (andT a.1 b.1) = andT a.1 b.1 := by unfold bothT; rw [ha, hb]; rfl
  have e2 : bothE a.1 b.1 = 0 := by unfold bothE; rw [ha, hb]; rfl
  rw [e1, e2] at X1
  rw [show bitsX 5 c a b = andT a.1 b.1 from rfl]
  generalize andT a.1 b.1 = R at *
  generalize szI c = SZ at *
  clear e1 e2 ha hb
  obtain ⟨⟨v, m⟩, l, h⟩ := a
  obtain ⟨⟨v', m'⟩, l', h'⟩ := b
  unfold tv at X1
  unfold sv
  dsimp only at X1 ⊢
  replace X1 := hid X1
  go_enter Tryz.func71, Tryz.ntmps71
  go_wp2_with fail
  refine (X1.out _).mono ?_
  rintro e w1 ⟨rfl, z⟩
  have JX : SC w1 (w.heap.size) (((v, m), l, h)) := (((SC.new rfl).alloc _).alloc _).below z
  have JY : SC w1 (w.heap.size + 1) (((v', m'), l', h')) := ((SC.new (by simp)).alloc _).below z
  have JR : BC w1 (w.heap.size + 1 + 1) (t0) := (BC.new (by simp)).below z
  have B := below_next (bel_alloc (bel_alloc (bel_alloc (Below.refl w.heap.size w)))) z
  clear z
  obtain ⟨JXl, JX0, JX1, JX2, JX3⟩ := JX.k
  obtain ⟨JYl, JY0, JY1, JY2, JY3⟩ := JY.k
  have JR0 := JR.c0
  have JR1 := JR.c1
  have JRl := JR.lt
  have JRf0 := JR.f0
  have JRf1 := JR.f1
  have lb := B.size
  go_wp2
  exact bodyPost_ret (v := .tuple #[tv R, .int .i64 0]) (by simp [results, Tryz.results71, go_sem, JX0, JX1, JX2, JX3, JXl, JY0, JY1, JY2, JY3, JYl, JR0, JR1, JRl]; try rfl) rfl ⟨rfl, put2_below R B (by omega)⟩
set_option maxHeartbeats 4000000 in
theorem cBits10 (c : Bool) (a b : Sc) (ha : tmay a.1 = true) (hb : tmay b.1 = true) (w : World) : Calls Tryz.prog 71 #[.int .i64 10, .int .i64 (szI c), sv a, sv b] w fun e w' => e = .returned (.tuple #[tv (bitsX 10 c a b), .int .i64 0]) ∧ Below w.heap.size w w' := by
  have X1 := fun W => tXor_any a.1 b.1 W
  have e1 : bothT a.1 b.1 (xorT a.1 b.1) = xorT a.1 b.1 := by unfold bothT; rw [ha, hb]; rfl
  have e2 : bothE a.1 b.1 = 0 := by unfold bothE; rw [ha, hb]; rfl
  rw [e1, e2] at X1
  rw [show bitsX 10 c a b = xorT a.1 b.1 from rfl]
  generalize xorT a.1 b.1 = R at *
  generalize szI c = SZ at *
  clear e1 e2 ha hb
  obtain ⟨⟨v, m⟩, l, h⟩ := a
  obtain ⟨⟨v', m'⟩, l', h'⟩ := b
  unfold tv at X1
  unfold sv
  dsimp only at X1 ⊢
  replace X1 := hid X1
  go_enter Tryz.func71, Tryz.ntmps71
  go_wp2_with fail
  refine (X1.out _).mono ?_
  rintro e w1 ⟨rfl, z⟩
  have JX : SC w1 (w.heap.size) (((v, m), l, h)) := (((SC.new rfl).alloc _).alloc _).below z
  have JY : SC w1 (w.heap.size + 1) (((v', m'), l', h')) := ((SC.new (by simp)).alloc _).below z
  have JR : BC w1 (w.heap.size + 1 + 1) (t0) := (BC.new (by simp)).below z
  have B := below_next (bel_alloc (bel_alloc (bel_alloc (Below.refl w.heap.size w)))) z
  clear z
  obtain ⟨JXl, JX0, JX1, JX2, JX3⟩ := JX.k
  obtain ⟨JYl, JY0, JY1, JY2, JY3⟩ := JY.k
  have JR0 := JR.c0
  have JR1 := JR.c1
  have JRl := JR.lt
  have JRf0 := JR.f0
  have JRf1 := JR.f1
  have lb := B.size
  go_wp2
  exact bodyPost_ret (v := .tuple #[tv R, .int .i64 0]) (by simp [results, Tryz.results71, go_sem, JX0, JX1, JX2, JX3, JXl, JY0, JY1, JY2, JY3, JYl, JR0, JR1, JRl]; try rfl) rfl ⟨rfl, put2_below R B (by omega)⟩
set_option maxHeartbeats 4000000 in
theorem cBits11 (c : Bool) (a b : Sc) (ha : tmay a.1 = true) (hb : tmay b.1 = true) (w : World) : Calls Tryz.prog 71 #[.int .i64 11, .int .i64 (szI c), sv a, sv b] w fun e w' => e = .returned (.tuple #[tv (bitsX 11 c a b), .int .i64 0]) ∧ Below w.heap.size w w' := by
  rw [show bitsX 11 c a b = b.1 from rfl]
  generalize szI c = SZ at *
  clear ha hb
  obtain ⟨⟨v, m⟩, l, h⟩ := a
  obtain ⟨⟨v', m'⟩, l', h'⟩ := b
  unfold sv
  dsimp only
  go_enter Tryz.func71, Tryz.ntmps71
  go_wp2
  exact bodyPost_ret (v := .tuple #[tv (v', m'), .int .i64 0]) (by simp [results, Tryz.results71, go_sem]; try rfl) rfl ⟨rfl, bel_alloc (bel_alloc (bel_alloc (Below.refl _ _)))⟩
end Go.Proofs.YtodmikjpmcabiaaGreat
