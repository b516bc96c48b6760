import Derived.Test.YtodmikjpmcabiaaGreatZScF
import Derived.Deep.RegionHeld3
import Derived.Deep.RegionLaw
namespace Go.Proofs.YtodmikjpmcabiaaGreat
set_option linter.unusedSimpArgs false
set_option linter.unusedVariables false
set_option maxRecDepth 100000
open Go.ChangeShapes Go.WideShapes Go.ChangeAt Go.RowKit

set_option maxHeartbeats 4000000 in
theorem cBits8 (c : Bool) (a b : Sc) (ha : tmay a.1 = true) (hb : tmay b.1 = true) (w : World) : Calls Tryz.prog 71 #[.int .i64 8, .int .i64 (szI c), sv a, sv b] w fun e w' => e = .returned (.tuple #[tv (bitsX 8 c a b), .int .i64 0]) ∧ Below w.heap.size w w' := by
  have X0 : ∀ W, Calls Tryz.prog 47 #[.int .u64 0] W fun e w' => e = .returned (tv (0#64, 0#64)) ∧ Below W.heap.size W w' := fun W => tOf_any 0#64 W
  have X1 := fun W => tSub_any t0 a.1 W
  have e1 : bothT t0 a.1 (subT t0 a.1) = subT t0 a.1 := by unfold bothT; rw [ha, show tmay t0 = true by decide]; rfl
  have e2 : bothE t0 a.1 = 0 := by unfold bothE; rw [ha, show tmay t0 = true by decide]; rfl
  rw [e1, e2] at X1
  rw [show bitsX 8 c a b = subT t0 a.1 from rfl]
  generalize subT t0 a.1 = R at *
  generalize szI c = SZ at *
  clear e1 e2 ha hb
  obtain ⟨⟨v, m⟩, l, h⟩ := a
  obtain ⟨⟨v', m'⟩, l', h'⟩ := b
  unfold t0 at X1
  unfold tv at X0 X1
  unfold sv
  dsimp only at X0 X1 ⊢
  replace X0 := hid X0
  replace X1 := hid X1
  go_enter Tryz.func71, Tryz.ntmps71
  go_wp2_with fail
  have JX : SC (((w.alloc (.cells #[.int .u64 (ub v), .int .u64 (ub m), .int .u64 (ub l), .int .u64 (ub h)] 28)).alloc (.cells #[.int .u64 (ub v'), .int .u64 (ub m'), .int .u64 (ub l'), .int .u64 (ub h')] 28)).alloc (.cells #[.int .u64 0, .int .u64 0] 24)) w.heap.size ((v, m), l, h) := ((SC.new (x := ((v, m), l, h)) rfl).alloc _).alloc _
  have JY : SC (((w.alloc (.cells #[.int .u64 (ub v), .int .u64 (ub m), .int .u64 (ub l), .int .u64 (ub h)] 28)).alloc (.cells #[.int .u64 (ub v'), .int .u64 (ub m'), .int .u64 (ub l'), .int .u64 (ub h')] 28)).alloc (.cells #[.int .u64 0, .int .u64 0] 24)) (w.heap.size + 1) ((v', m'), l', h') := (SC.new (x := ((v', m'), l', h')) (by simp)).alloc _
  have JR : BC (((w.alloc (.cells #[.int .u64 (ub v), .int .u64 (ub m), .int .u64 (ub l), .int .u64 (ub h)] 28)).alloc (.cells #[.int .u64 (ub v'), .int .u64 (ub m'), .int .u64 (ub l'), .int .u64 (ub h')] 28)).alloc (.cells #[.int .u64 0, .int .u64 0] 24)) (w.heap.size + 1 + 1) t0 := BC.new (a := t0) (by simp)
  have B : Below w.heap.size w (((w.alloc (.cells #[.int .u64 (ub v), .int .u64 (ub m), .int .u64 (ub l), .int .u64 (ub h)] 28)).alloc (.cells #[.int .u64 (ub v'), .int .u64 (ub m'), .int .u64 (ub l'), .int .u64 (ub h')] 28)).alloc (.cells #[.int .u64 0, .int .u64 0] 24)) := bel_alloc (bel_alloc (bel_alloc (Below.refl _ _)))
  generalize ((w.alloc (.cells #[.int .u64 (ub v), .int .u64 (ub m), .int .u64 (ub l), .int .u64 (ub h)] 28)).alloc (.cells #[.int .u64 (ub v'), .int .u64 (ub m'), .int .u64 (ub l'), .int .u64 (ub h')] 28)).alloc (.cells #[.int .u64 0, .int .u64 0] 24) = w0 at *
  have q9 := JR.res (by omega) B
  have q0 := JX.c0
  have q1 := JX.c1
  clear JX JY JR B
  go_region_held3 (fun w' => w'.cell? ⟨w.heap.size, 0, none⟩ = some (.int .u64 (ub v)) ∧ w'.cell? ⟨w.heap.size, 1, none⟩ = some (.int .u64 (ub m)) ∧ RsI w (w.heap.size + 1 + 1) w')
    (first
        | (go_split_ands; with_reducible exact ⟨by with_reducible assumption, by with_reducible assumption, by with_reducible assumption⟩)
        | (with_reducible exact ⟨cn bq (by with_reducible assumption), cn bq (by with_reducible assumption), RsI.next (by with_reducible assumption) bq⟩)
        | (with_reducible exact ⟨cn (below_dr w0) q0, cn (below_dr w0) q1, q9.next (below_dr w0)⟩)
        | (go_split_ands; with_reducible exact ⟨cs3 (by with_reducible assumption) (by dsimp only; omega), cs3 (by with_reducible assumption) (by dsimp only; omega), RsI.put (by with_reducible assumption) _ _⟩))
    (first | (go_at_call 47; go_split_ands; (with_reducible refine (X0.out _).mono ?_); rintro e wq ⟨rfl, bq⟩; have Rq := RsI.next (by with_reducible assumption) bq; obtain ⟨v0, rc0⟩ := Rq.c0; obtain ⟨v1, rc1⟩ := Rq.c1; have rl := Rq.lt; have rf0 := Rq.f0; have rf1 := Rq.f1) | (go_at_call 101; go_split_ands; (with_reducible refine (X1.out _).mono ?_); rintro e wq ⟨rfl, bq⟩; have Rq := RsI.next (by with_reducible assumption) bq; obtain ⟨v0, rc0⟩ := Rq.c0; obtain ⟨v1, rc1⟩ := Rq.c1; have rl := Rq.lt; have rf0 := Rq.f0; have rf1 := Rq.f1))
  go_split_ands
  have HB := hid (Rq.put (ub R.1) (ub R.2)).bel
  clear Rq bq
  go_wp2
  exact bodyPost_ret (v := .tuple #[tv R, .int .i64 0]) (by simp [results, Tryz.results71, go_sem, rc0, rc1, rl]; try rfl) rfl ⟨rfl, by simpa [go_sem] using HB.out⟩
set_option maxHeartbeats 4000000 in
theorem cBitsS (op : Int) (c : Bool) (a b : Sc) (ha : tmay a.1 = true) (hb : tmay b.1 = true) (ho : op ≠ 0 ∧ op ≠ 1 ∧ op ≠ 2 ∧ op ≠ 4 ∧ op ≠ 5 ∧ op ≠ 10 ∧ op ≠ 8 ∧ op ≠ 11) (w : World) : Calls Tryz.prog 71 #[.int .i64 op, .int .i64 (szI c), sv a, sv b] w fun e w' => e = .returned (.tuple #[tv (bitsX op c a b), .int .i64 0]) ∧ Below w.heap.size w w' := by
  obtain ⟨g0, g1, g2, g4, g5, g10, g8, g11⟩ := ho
  have eR : bitsX op c a b = if singleX b = true then shX op c a.1 (b.2.1.toNat % sizeW c) else allT := by
    unfold bitsX
    rw [if_neg g0, if_neg g1, if_neg g2, if_neg g4, if_neg g5, if_neg g10, if_neg g8, if_neg g11]
  rw [eR]
  clear eR
  have e0 : (op == 0) = false := by simpa using g0
  have e1 : (op == 1) = false := by simpa using g1
  have e2 : (op == 2) = false := by simpa using g2
  have e4 : (op == 4) = false := by simpa using g4
  have e5 : (op == 5) = false := by simpa using g5
  have e10 : (op == 10) = false := by simpa using g10
  have e8 : (op == 8) = false := by simpa using g8
  have e11 : (op == 11) = false := by simpa using g11
  clear g0 g1 g2 g4 g5 g10 g8 g11
  have X1 := fun W => cSingle_any b W
  have X2 := fun W => cShifted_any op c a.1 (b.2.1.toNat % sizeW c) ha (Nat.mod_lt _ (sizeW_pos c)) W
  have X3 := fun W => tAll_any W
  generalize shX op c a.1 (b.2.1.toNat % sizeW c) = R at *
  clear ha hb
  cases hs : singleX b
  · rw [hs] at X1
    rw [if_neg (by decide)]
    clear X2 hs
    generalize szI c = SZ at *
    obtain ⟨⟨v, m⟩, l, h⟩ := a
    obtain ⟨⟨v', m'⟩, l', h'⟩ := b
    unfold allT
    unfold tv at X3
    unfold sv at X1 ⊢
    dsimp only at X1 X3 ⊢
    replace X1 := hid X1
    replace X3 := hid X3
    go_enter Tryz.func71, Tryz.ntmps71
    go_wp2_with fail
    refine (X1.out _).mono ?_
    rintro e w1 ⟨rfl, z⟩
    have JX : SC w1 (w.heap.size) (((v, m), l, h)) := (((SC.new rfl).alloc _).alloc _).below z
    have JY : SC w1 (w.heap.size + 1) (((v', m'), l', h')) := ((SC.new (by simp)).alloc _).below z
    have JR : BC w1 (w.heap.size + 1 + 1) (t0) := (BC.new (by simp)).below z
    have B := below_next (bel_alloc (bel_alloc (bel_alloc (Below.refl w.heap.size w)))) z
    clear z
    obtain ⟨JXl, JX0, JX1, JX2, JX3⟩ := JX.k
    obtain ⟨JYl, JY0, JY1, JY2, JY3⟩ := JY.k
    have JR0 := JR.c0
    have JR1 := JR.c1
    have JRl := JR.lt
    have JRf0 := JR.f0
    have JRf1 := JR.f1
    have lb := B.size
    go_wp2_with fail
    refine (X3.out _).mono ?_
    rintro e w2 ⟨rfl, z⟩
    clear JX0 JX1 JX2 JX3 JXl JY0 JY1 JY2 JY3 JYl JR0 JR1 JRl JRf0 JRf1 lb
    replace JX := JX.below z
    replace JY := JY.below z
    replace JR := JR.below z
    replace B := below_next B z
    clear z
    obtain ⟨JXl, JX0, JX1, JX2, JX3⟩ := JX.k
    obtain ⟨JYl, JY0, JY1, JY2, JY3⟩ := JY.k
    have JR0 := JR.c0
    have JR1 := JR.c1
    have JRl := JR.lt
    have JRf0 := JR.f0
    have JRf1 := JR.f1
    have lb := B.size
    go_wp2
    exact bodyPost_ret (v := .tuple #[tv (0#64, 18446744073709551615#64), .int .i64 0]) (by simp [results, Tryz.results71, go_sem, JX0, JX1, JX2, JX3, JXl, JY0, JY1, JY2, JY3, JYl, JR0, JR1, JRl]; try rfl) rfl ⟨rfl, put2_below (0#64, 18446744073709551615#64) B (by omega)⟩
  · rw [hs] at X1
    rw [if_pos rfl]
    clear X3 hs
    obtain ⟨⟨v, m⟩, l, h⟩ := a
    obtain ⟨⟨v', m'⟩, l', h'⟩ := b
    unfold tv at X2
    unfold sv at X1 ⊢
    dsimp only at X1 X2 ⊢
    replace X1 := hid X1
    cases c
    · have hk : ((l'.toNat % sizeW false : Nat) : Int) = ib (l' % 32#64) := by
        rw [ib_small _ (by rw [BitVec.toNat_umod]; have : l'.toNat % 32 < 32 := Nat.mod_lt _ (by decide); show l'.toNat % 32 < 9223372036854775808; omega), BitVec.toNat_umod]; rfl
      rw [hk, show szI false = 32 from rfl] at X2
      rw [show szI false = 32 from rfl]
      clear hk
      have hw : IntKind.u64.wrap 32 = 32 := by kernel_rfl
      have ht : (ub l').tmod 32 = ub (l' % 32#64) := tmod_is l' 32#64
      replace X2 := hid X2
      go_enter Tryz.func71, Tryz.ntmps71
      go_wp2_with fail
      refine (X1.out _).mono ?_
      rintro e w1 ⟨rfl, z⟩
      have JX : SC w1 (w.heap.size) (((v, m), l, h)) := (((SC.new rfl).alloc _).alloc _).below z
      have JY : SC w1 (w.heap.size + 1) (((v', m'), l', h')) := ((SC.new (by simp)).alloc _).below z
      have JR : BC w1 (w.heap.size + 1 + 1) (t0) := (BC.new (by simp)).below z
      have B := below_next (bel_alloc (bel_alloc (bel_alloc (Below.refl w.heap.size w)))) z
      clear z
      have q9 := JR.res (by omega) B
      have q0 := JX.c0
      have q1 := JX.c1
      clear JX JY JR B
      generalize w1 = w0 at *
      go_wp2_with fail
      go_region_held3 (fun w' => w'.cell? ⟨w.heap.size, 0, none⟩ = some (.int .u64 (ub v)) ∧ w'.cell? ⟨w.heap.size, 1, none⟩ = some (.int .u64 (ub m)) ∧ RsI w (w.heap.size + 1 + 1) w')
        (first
        | (go_split_ands; with_reducible exact ⟨by with_reducible assumption, by with_reducible assumption, by with_reducible assumption⟩)
        | (with_reducible exact ⟨cn bq (by with_reducible assumption), cn bq (by with_reducible assumption), RsI.next (by with_reducible assumption) bq⟩)
        | (with_reducible exact ⟨cn (below_dr w0) q0, cn (below_dr w0) q1, q9.next (below_dr w0)⟩)
        | (go_split_ands; with_reducible exact ⟨cs3 (by with_reducible assumption) (by dsimp only; omega), cs3 (by with_reducible assumption) (by dsimp only; omega), RsI.put (by with_reducible assumption) _ _⟩))
        (first | (go_at_call 107; go_split_ands; (with_reducible refine (X2.out _).mono ?_); rintro e wq ⟨rfl, bq⟩; have Rq := RsI.next (by with_reducible assumption) bq; obtain ⟨v0, rc0⟩ := Rq.c0; obtain ⟨v1, rc1⟩ := Rq.c1; have rl := Rq.lt; have rf0 := Rq.f0; have rf1 := Rq.f1))
      go_split_ands
      have HB := hid (Rq.put (ub R.1) (ub R.2)).bel
      clear Rq bq
      go_wp2
      exact bodyPost_ret (v := .tuple #[tv R, .int .i64 0]) (by simp [results, Tryz.results71, go_sem, rc0, rc1, rl]; try rfl) rfl ⟨rfl, by simpa [go_sem] using HB.out⟩
    · have hk : ((l'.toNat % sizeW true : Nat) : Int) = ib (l' % 64#64) := by
        rw [ib_small _ (by rw [BitVec.toNat_umod]; have : l'.toNat % 64 < 64 := Nat.mod_lt _ (by decide); show l'.toNat % 64 < 9223372036854775808; omega), BitVec.toNat_umod]; rfl
      rw [hk, show szI true = 64 from rfl] at X2
      rw [show szI true = 64 from rfl]
      clear hk
      have hw : IntKind.u64.wrap 64 = 64 := by kernel_rfl
      have ht : (ub l').tmod 64 = ub (l' % 64#64) := tmod_is l' 64#64
      replace X2 := hid X2
      go_enter Tryz.func71, Tryz.ntmps71
      go_wp2_with fail
      refine (X1.out _).mono ?_
      rintro e w1 ⟨rfl, z⟩
      have JX : SC w1 (w.heap.size) (((v, m), l, h)) := (((SC.new rfl).alloc _).alloc _).below z
      have JY : SC w1 (w.heap.size + 1) (((v', m'), l', h')) := ((SC.new (by simp)).alloc _).below z
      have JR : BC w1 (w.heap.size + 1 + 1) (t0) := (BC.new (by simp)).below z
      have B := below_next (bel_alloc (bel_alloc (bel_alloc (Below.refl w.heap.size w)))) z
      clear z
      have q9 := JR.res (by omega) B
      have q0 := JX.c0
      have q1 := JX.c1
      clear JX JY JR B
      generalize w1 = w0 at *
      go_wp2_with fail
      go_region_held3 (fun w' => w'.cell? ⟨w.heap.size, 0, none⟩ = some (.int .u64 (ub v)) ∧ w'.cell? ⟨w.heap.size, 1, none⟩ = some (.int .u64 (ub m)) ∧ RsI w (w.heap.size + 1 + 1) w')
        (first
        | (go_split_ands; with_reducible exact ⟨by with_reducible assumption, by with_reducible assumption, by with_reducible assumption⟩)
        | (with_reducible exact ⟨cn bq (by with_reducible assumption), cn bq (by with_reducible assumption), RsI.next (by with_reducible assumption) bq⟩)
        | (with_reducible exact ⟨cn (below_dr w0) q0, cn (below_dr w0) q1, q9.next (below_dr w0)⟩)
        | (go_split_ands; with_reducible exact ⟨cs3 (by with_reducible assumption) (by dsimp only; omega), cs3 (by with_reducible assumption) (by dsimp only; omega), RsI.put (by with_reducible assumption) _ _⟩))
        (first | (go_at_call 107; go_split_ands; (with_reducible refine (X2.out _).mono ?_); rintro e wq ⟨rfl, bq⟩; have Rq := RsI.next (by with_reducible assumption) bq; obtain ⟨v0, rc0⟩ := Rq.c0; obtain ⟨v1, rc1⟩ := Rq.c1; have rl := Rq.lt; have rf0 := Rq.f0; have rf1 := Rq.f1))
      go_split_ands
      have HB := hid (Rq.put (ub R.1) (ub R.2)).bel
      clear Rq bq
      go_wp2
      exact bodyPost_ret (v := .tuple #[tv R, .int .i64 0]) (by simp [results, Tryz.results71, go_sem, rc0, rc1, rl]; try rfl) rfl ⟨rfl, by simpa [go_sem] using HB.out⟩
theorem cBits_any (op : Int) (c : Bool) (a b : Sc) (ha : tmay a.1 = true) (hb : tmay b.1 = true) (w : World) : Calls Tryz.prog 71 #[.int .i64 op, .int .i64 (szI c), sv a, sv b] w fun e w' => e = .returned (.tuple #[tv (bitsX op c a b), .int .i64 0]) ∧ Below w.heap.size w w' := by
  by_cases g0 : op = 0
  · subst g0; exact cBits0 c a b ha hb w
  by_cases g1 : op = 1
  · subst g1; exact cBits1 c a b ha hb w
  by_cases g2 : op = 2
  · subst g2; exact cBits2 c a b ha hb w
  by_cases g4 : op = 4
  · subst g4; exact cBits4 c a b ha hb w
  by_cases g5 : op = 5
  · subst g5; exact cBits5 c a b ha hb w
  by_cases g10 : op = 10
  · subst g10; exact cBits10 c a b ha hb w
  by_cases g8 : op = 8
  · subst g8; exact cBits8 c a b ha hb w
  by_cases g11 : op = 11
  · subst g11; exact cBits11 c a b ha hb w
  exact cBitsS op c a b ha hb ⟨g0, g1, g2, g4, g5, g10, g8, g11⟩ w
end Go.Proofs.YtodmikjpmcabiaaGreat
