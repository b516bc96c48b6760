/-
  Contracts of the document's Add and Sub.
-/
import Derived.Test.YtodmikjpmcabiaaTTsA
namespace Go.Proofs.Ytodmikjpmcabiaa
set_option linter.unusedSimpArgs false
set_option linter.unusedVariables false
set_option maxRecDepth 100000
set_option maxRecDepth 100000
open Go.ChangeShapes Go.WideShapes Go.ChangeAt Go.RowKit

set_option maxHeartbeats 4000000 in
theorem rAdd_any (a b : Tn) (w : World) : Calls Try.prog 14 #[tv a, tv b] w fun e w' => e = .returned (.tuple #[tv (bothT a b (sumT a b)), .int .i64 (bothE a b)]) ∧ Below w.heap.size w w' := by
  have HA := fun W => rMay_any a W
  have HB := fun W => rMay_any b W
  have HC := fun W => rCarried_any a b false W
  obtain ⟨R, hR⟩ : ∃ R, R = bothT a b (sumT a b) := ⟨_, rfl⟩
  obtain ⟨E, hE⟩ : ∃ E, E = bothE a b := ⟨_, rfl⟩
  rw [← hR, ← hE]
  unfold tv at HA HB HC ⊢
  cases ha : tmay a
  · rw [ha] at HA
    obtain rfl : E = 1 := by rw [hE]; unfold bothE; rw [ha]; rfl
    obtain rfl : R = t0 := by rw [hR]; unfold bothT; rw [ha]; rfl
    have HA' := hid HA
    clear HA HB HC ha hR hE
    go_enter Try.func14, Try.ntmps14
    go_wp2_with fail
    refine (HA'.out _).mono ?_
    rintro e w1 ⟨rfl, b1⟩
    have hb : Below w.heap.size w w1 := (((((Below.refl _ _).alloc (Nat.le_refl _) _).alloc (by simp) _).alloc (by simp; omega) _).trans (b1.mono (by simp; omega)))
    obtain ⟨hc, hf⟩ := bcell b1
    have hz : w.heap.size + 1 + 1 < w1.heap.size := by have := b1.size; simp at this; omega
    have hy : w.heap.size + 1 < w1.heap.size := by omega
    have hx : w.heap.size < w1.heap.size := by omega
    have HW := hid hb
    clear b1 hb
    go_wp2
    refine bodyPost_ret (v := .tuple #[.agg #[.int .u64 0, .int .u64 0], .int .i64 1]) (by simp [results, Try.results14, go_sem, hc, hz]; try rfl) rfl ⟨rfl, ?_⟩
    exact (HW.out.setCell (by simp; omega) _).setCell (by simp; omega) _
  rw [ha] at HA
  have HA' := hid HA
  cases hb : tmay b
  · rw [hb] at HB
    obtain rfl : E = 1 := by rw [hE]; unfold bothE; rw [ha, hb]; rfl
    obtain rfl : R = t0 := by rw [hR]; unfold bothT; rw [ha, hb]; rfl
    have HB' := hid HB
    clear HA HB HC ha hb hR hE
    go_enter Try.func14, Try.ntmps14
    go_wp2_with fail
    refine (HA'.out _).mono ?_
    rintro e w1 ⟨rfl, b1⟩
    have hb : Below w.heap.size w w1 := (((((Below.refl _ _).alloc (Nat.le_refl _) _).alloc (by simp) _).alloc (by simp; omega) _).trans (b1.mono (by simp; omega)))
    obtain ⟨hc, hf⟩ := bcell b1
    have hz : w.heap.size + 1 + 1 < w1.heap.size := by have := b1.size; simp at this; omega
    have hy : w.heap.size + 1 < w1.heap.size := by omega
    have hx : w.heap.size < w1.heap.size := by omega
    have HW := hid hb
    clear b1 hb
    go_wp2_with fail
    refine (HB'.out _).mono ?_
    rintro e w2 ⟨rfl, b2⟩
    have hb : Below w.heap.size w w2 := HW.out.trans (b2.mono (by omega))
    obtain ⟨hc2, hf2⟩ := bcell b2
    have hz2 : w.heap.size + 1 + 1 < w2.heap.size := by have := b2.size; omega
    have HW := hid hb
    clear b2 hb
    go_wp2
    refine bodyPost_ret (v := .tuple #[.agg #[.int .u64 0, .int .u64 0], .int .i64 1]) (by simp [results, Try.results14, go_sem, hc, hz, hc2, hz2]; try rfl) rfl ⟨rfl, ?_⟩
    exact (HW.out.setCell (by simp; omega) _).setCell (by simp; omega) _
  rw [hb] at HB
  have HB' := hid HB
  obtain rfl : E = 0 := by rw [hE]; unfold bothE; rw [ha, hb]; rfl
  have hR' : carT false a b = R := by rw [hR]; unfold bothT; rw [ha, hb, car_add ha hb]; rfl
  rw [hR'] at HC
  have HC' := hid HC
  clear HA HB HC ha hb hR hE hR'
  go_enter Try.func14, Try.ntmps14
  go_wp2_with fail
  refine (HA'.out _).mono ?_
  rintro e w1 ⟨rfl, b1⟩
  have T0 : TC w1 w.heap.size a := (((TC.new rfl).alloc _).alloc _).below b1
  have T1 : TC w1 (w.heap.size + 1) b := ((TC.new (by simp)).alloc _).below b1
  have T2 : TB w1 (w.heap.size + 1 + 1) t0 := (TB.new (a := t0) (by simp)).below b1
  have B : Below w.heap.size w w1 := (((((Below.refl _ _).alloc (Nat.le_refl _) _).alloc (by simp) _).alloc (by simp; omega) _).trans (b1.mono (by simp; omega)))
  have p0 := T1.1
  have q0 := T1.2.1
  have r0 := T1.2.2
  clear b1
  go_wp2_with fail
  refine (HB'.out _).mono ?_
  rintro e w2 ⟨rfl, b2⟩
  clear p0 q0 r0
  replace T0 := T0.below b2
  replace T1 := T1.below b2
  replace T2 := T2.below b2
  replace B := B.trans (b2.mono B.size)
  clear b2
  have x0 := T0.2.1
  have x1 := T0.2.2
  have x2 := T1.2.1
  have x3 := T1.2.2
  go_wp2_with fail
  refine (HC'.out _).mono ?_
  rintro e w3 ⟨rfl, b3⟩
  clear x0 x1 x2 x3
  replace T2 := T2.below b3
  have HW := hid (B.trans (b3.mono B.size))
  have e1 := T2.1.2.1
  have e2 := T2.1.2.2
  have e3 := T2.2.1
  have e4 := T2.2.2
  have e5 := T2.1.1
  clear T0 T1 T2 B b3
  go_wp2
  refine bodyPost_ret (v := .tuple #[.agg #[.int .u64 (ub R.1), .int .u64 (ub R.2)], .int .i64 0]) (by simp [results, Try.results14, go_sem, e1, e2, e5]; try rfl) rfl ⟨rfl, ?_⟩
  exact (HW.out.setCell (by simp; omega) _).setCell (by simp; omega) _
set_option maxHeartbeats 4000000 in
theorem rSub_any (a b : Tn) (w : World) : Calls Try.prog 16 #[tv a, tv b] w fun e w' => e = .returned (.tuple #[tv (bothT a b (subT a b)), .int .i64 (bothE a b)]) ∧ Below w.heap.size w w' := by
  have HA := fun W => rMay_any a W
  have HB := fun W => rMay_any b W
  have HC := fun W => rCarried_any a b true W
  obtain ⟨R, hR⟩ : ∃ R, R = bothT a b (subT a b) := ⟨_, rfl⟩
  obtain ⟨E, hE⟩ : ∃ E, E = bothE a b := ⟨_, rfl⟩
  rw [← hR, ← hE]
  unfold tv at HA HB HC ⊢
  cases ha : tmay a
  · rw [ha] at HA
    obtain rfl : E = 1 := by rw [hE]; unfold bothE; rw [ha]; rfl
    obtain rfl : R = t0 := by rw [hR]; unfold bothT; rw [ha]; rfl
    have HA' := hid HA
    clear HA HB HC ha hR hE
    go_enter Try.func16, Try.ntmps16
    go_wp2_with fail
    refine (HA'.out _).mono ?_
    rintro e w1 ⟨rfl, b1⟩
    have hb : Below w.heap.size w w1 := (((((Below.refl _ _).alloc (Nat.le_refl _) _).alloc (by simp) _).alloc (by simp; omega) _).trans (b1.mono (by simp; omega)))
    obtain ⟨hc, hf⟩ := bcell b1
    have hz : w.heap.size + 1 + 1 < w1.heap.size := by have := b1.size; simp at this; omega
    have hy : w.heap.size + 1 < w1.heap.size := by omega
    have hx : w.heap.size < w1.heap.size := by omega
    have HW := hid hb
    clear b1 hb
    go_wp2
    refine bodyPost_ret (v := .tuple #[.agg #[.int .u64 0, .int .u64 0], .int .i64 1]) (by simp [results, Try.results16, go_sem, hc, hz]; try rfl) rfl ⟨rfl, ?_⟩
    exact (HW.out.setCell (by simp; omega) _).setCell (by simp; omega) _
  rw [ha] at HA
  have HA' := hid HA
  cases hb : tmay b
  · rw [hb] at HB
    obtain rfl : E = 1 := by rw [hE]; unfold bothE; rw [ha, hb]; rfl
    obtain rfl : R = t0 := by rw [hR]; unfold bothT; rw [ha, hb]; rfl
    have HB' := hid HB
    clear HA HB HC ha hb hR hE
    go_enter Try.func16, Try.ntmps16
    go_wp2_with fail
    refine (HA'.out _).mono ?_
    rintro e w1 ⟨rfl, b1⟩
    have hb : Below w.heap.size w w1 := (((((Below.refl _ _).alloc (Nat.le_refl _) _).alloc (by simp) _).alloc (by simp; omega) _).trans (b1.mono (by simp; omega)))
    obtain ⟨hc, hf⟩ := bcell b1
    have hz : w.heap.size + 1 + 1 < w1.heap.size := by have := b1.size; simp at this; omega
    have hy : w.heap.size + 1 < w1.heap.size := by omega
    have hx : w.heap.size < w1.heap.size := by omega
    have HW := hid hb
    clear b1 hb
    go_wp2_with fail
    refine (HB'.out _).mono ?_
    rintro e w2 ⟨rfl, b2⟩
    have hb : Below w.heap.size w w2 := HW.out.trans (b2.mono (by omega))
    obtain ⟨hc2, hf2⟩ := bcell b2
    have hz2 : w.heap.size + 1 + 1 < w2.heap.size := by have := b2.size; omega
    have HW := hid hb
    clear b2 hb
    go_wp2
    refine bodyPost_ret (v := .tuple #[.agg #[.int .u64 0, .int .u64 0], .int .i64 1]) (by simp [results, Try.results16, go_sem, hc, hz, hc2, hz2]; try rfl) rfl ⟨rfl, ?_⟩
    exact (HW.out.setCell (by simp; omega) _).setCell (by simp; omega) _
  rw [hb] at HB
  have HB' := hid HB
  obtain rfl : E = 0 := by rw [hE]; unfold bothE; rw [ha, hb]; rfl
  have hR' : carT true a b = R := by rw [hR]; unfold bothT; rw [ha, hb, car_sub ha hb]; rfl
  rw [hR'] at HC
  have HC' := hid HC
  clear HA HB HC ha hb hR hE hR'
  go_enter Try.func16, Try.ntmps16
  go_wp2_with fail
  refine (HA'.out _).mono ?_
  rintro e w1 ⟨rfl, b1⟩
  have T0 : TC w1 w.heap.size a := (((TC.new rfl).alloc _).alloc _).below b1
  have T1 : TC w1 (w.heap.size + 1) b := ((TC.new (by simp)).alloc _).below b1
  have T2 : TB w1 (w.heap.size + 1 + 1) t0 := (TB.new (a := t0) (by simp)).below b1
  have B : Below w.heap.size w w1 := (((((Below.refl _ _).alloc (Nat.le_refl _) _).alloc (by simp) _).alloc (by simp; omega) _).trans (b1.mono (by simp; omega)))
  have p0 := T1.1
  have q0 := T1.2.1
  have r0 := T1.2.2
  clear b1
  go_wp2_with fail
  refine (HB'.out _).mono ?_
  rintro e w2 ⟨rfl, b2⟩
  clear p0 q0 r0
  replace T0 := T0.below b2
  replace T1 := T1.below b2
  replace T2 := T2.below b2
  replace B := B.trans (b2.mono B.size)
  clear b2
  have x0 := T0.2.1
  have x1 := T0.2.2
  have x2 := T1.2.1
  have x3 := T1.2.2
  go_wp2_with fail
  refine (HC'.out _).mono ?_
  rintro e w3 ⟨rfl, b3⟩
  clear x0 x1 x2 x3
  replace T2 := T2.below b3
  have HW := hid (B.trans (b3.mono B.size))
  have e1 := T2.1.2.1
  have e2 := T2.1.2.2
  have e3 := T2.2.1
  have e4 := T2.2.2
  have e5 := T2.1.1
  clear T0 T1 T2 B b3
  go_wp2
  refine bodyPost_ret (v := .tuple #[.agg #[.int .u64 (ub R.1), .int .u64 (ub R.2)], .int .i64 0]) (by simp [results, Try.results16, go_sem, e1, e2, e5]; try rfl) rfl ⟨rfl, ?_⟩
  exact (HW.out.setCell (by simp; omega) _).setCell (by simp; omega) _
end Go.Proofs.Ytodmikjpmcabiaa
