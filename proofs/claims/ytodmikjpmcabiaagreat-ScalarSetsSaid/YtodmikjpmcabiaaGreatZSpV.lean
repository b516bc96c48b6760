/-
  Contracts of the document's Join and Cut.
-/
import Derived.Test.YtodmikjpmcabiaaGreatZSpU
import Derived.Test.YtodmikjpmcabiaaGreatZSpS
import Derived.Test.YtodmikjpmcabiaaGreatZSpTp
namespace Go.Proofs.YtodmikjpmcabiaaGreat
set_option linter.unusedSimpArgs false
set_option linter.unusedVariables false
set_option maxRecDepth 100000
open Go.ChangeShapes Go.WideShapes Go.ChangeAt Go.RowKit

set_option maxRecDepth 20000 in
set_option maxHeartbeats 4000000 in
theorem qJoin_any (a b : Tn) (w : World) : Calls Tryz.prog 44 #[tv a, tv b] w fun e w' => e = .returned (tv (joinSp a b)) ∧ Below w.heap.size w w' := by
  have HA := fun W => qMay_any a W
  have HC := fun W => qMay_any b W
  unfold joinSp
  unfold tv at HA HC
  by_cases hA : mayS a = true
  case neg =>
    rw [if_neg hA]
    rw [Bool.eq_false_iff.2 hA] at HA
    clear hA
    replace HA := hid HA
    by_cases hB : mayS b = true
    case pos =>
      rw [if_pos hB]
      rw [hB] at HC
      clear hB
      replace HC := hid HC
      have I := RI.start w a b 26 26 26
      unfold tv
      go_enter Tryz.func44, Tryz.ntmps44
      go_wp2_with fail
      generalize ((w.alloc (.cells #[.int .u64 (ub a.1), .int .u64 (ub a.2)] 26)).alloc (.cells #[.int .u64 (ub b.1), .int .u64 (ub b.2)] 26)).alloc (.cells #[.int .u64 0, .int .u64 0] 26) = w0 at I ⊢
      refine (HA.out _).mono ?_
      rintro e w1 ⟨rfl, z1⟩
      replace I := I.next z1
      clear z1
      have i0 := I.ca.c0
      have i1 := I.ca.c1
      have i2 := I.cb.c0
      have i3 := I.cb.c1
      have i4 := I.rc.c0
      have i5 := I.rc.c1
      have i6 := I.rc.f0
      have i7 := I.rc.f1
      have i8 := I.rc.lt
      have i9 := I.ca.lt
      have i10 := I.cb.lt
      go_wp2_with fail
      refine (HC.out _).mono ?_
      rintro e w2 ⟨rfl, z2⟩
      clear i0 i1 i2 i3 i4 i5 i6 i7 i8 i9 i10
      replace I := I.next z2
      clear z2
      have i0 := I.ca.c0
      have i1 := I.ca.c1
      have i2 := I.cb.c0
      have i3 := I.cb.c1
      have i4 := I.rc.c0
      have i5 := I.rc.c1
      have i6 := I.rc.f0
      have i7 := I.rc.f1
      have i8 := I.rc.lt
      have i9 := I.ca.lt
      have i10 := I.cb.lt
      go_wp2_with fail
      refine (HA.out _).mono ?_
      rintro e w3 ⟨rfl, z3⟩
      clear i0 i1 i2 i3 i4 i5 i6 i7 i8 i9 i10
      replace I := I.next z3
      clear z3
      have i0 := I.ca.c0
      have i1 := I.ca.c1
      have i2 := I.cb.c0
      have i3 := I.cb.c1
      have i4 := I.rc.c0
      have i5 := I.rc.c1
      have i6 := I.rc.f0
      have i7 := I.rc.f1
      have i8 := I.rc.lt
      have i9 := I.ca.lt
      have i10 := I.cb.lt
      have HB := hid (put2_below b I.bel (by omega : w.heap.size ≤ w.heap.size + 1 + 1))
      clear I
      go_wp2
      exact bodyPost_ret (v := tv b) (by simp [results, Tryz.results44, go_sem, i0, i1, i2, i3, i4, i5, i6, i7, i8, i9, i10]; try rfl) rfl ⟨rfl, HB.out⟩
    case neg =>
      rw [if_neg hB]
      rw [Bool.eq_false_iff.2 hB] at HC
      clear hB
      replace HC := hid HC
      have I := RI.start w a b 26 26 26
      unfold tv
      go_enter Tryz.func44, Tryz.ntmps44
      go_wp2_with fail
      generalize ((w.alloc (.cells #[.int .u64 (ub a.1), .int .u64 (ub a.2)] 26)).alloc (.cells #[.int .u64 (ub b.1), .int .u64 (ub b.2)] 26)).alloc (.cells #[.int .u64 0, .int .u64 0] 26) = w0 at I ⊢
      refine (HA.out _).mono ?_
      rintro e w1 ⟨rfl, z1⟩
      replace I := I.next z1
      clear z1
      have i0 := I.ca.c0
      have i1 := I.ca.c1
      have i2 := I.cb.c0
      have i3 := I.cb.c1
      have i4 := I.rc.c0
      have i5 := I.rc.c1
      have i6 := I.rc.f0
      have i7 := I.rc.f1
      have i8 := I.rc.lt
      have i9 := I.ca.lt
      have i10 := I.cb.lt
      go_wp2_with fail
      refine (HC.out _).mono ?_
      rintro e w2 ⟨rfl, z2⟩
      clear i0 i1 i2 i3 i4 i5 i6 i7 i8 i9 i10
      replace I := I.next z2
      clear z2
      have i0 := I.ca.c0
      have i1 := I.ca.c1
      have i2 := I.cb.c0
      have i3 := I.cb.c1
      have i4 := I.rc.c0
      have i5 := I.rc.c1
      have i6 := I.rc.f0
      have i7 := I.rc.f1
      have i8 := I.rc.lt
      have i9 := I.ca.lt
      have i10 := I.cb.lt
      have HB := hid (put2_below t0 I.bel (by omega : w.heap.size ≤ w.heap.size + 1 + 1))
      clear I
      go_wp2
      exact bodyPost_ret (v := tv t0) (by simp [results, Tryz.results44, go_sem, i0, i1, i2, i3, i4, i5, i6, i7, i8, i9, i10]; try rfl) rfl ⟨rfl, HB.out⟩
  rw [if_pos hA]
  rw [hA] at HA
  clear hA
  replace HA := hid HA
  by_cases hB : mayS b = true
  case neg =>
    rw [if_neg hB]
    rw [Bool.eq_false_iff.2 hB] at HC
    clear hB
    replace HC := hid HC
    have I := RI.start w a b 26 26 26
    unfold tv
    go_enter Tryz.func44, Tryz.ntmps44
    go_wp2_with fail
    generalize ((w.alloc (.cells #[.int .u64 (ub a.1), .int .u64 (ub a.2)] 26)).alloc (.cells #[.int .u64 (ub b.1), .int .u64 (ub b.2)] 26)).alloc (.cells #[.int .u64 0, .int .u64 0] 26) = w0 at I ⊢
    refine (HA.out _).mono ?_
    rintro e w1 ⟨rfl, z1⟩
    replace I := I.next z1
    clear z1
    have i0 := I.ca.c0
    have i1 := I.ca.c1
    have i2 := I.cb.c0
    have i3 := I.cb.c1
    have i4 := I.rc.c0
    have i5 := I.rc.c1
    have i6 := I.rc.f0
    have i7 := I.rc.f1
    have i8 := I.rc.lt
    have i9 := I.ca.lt
    have i10 := I.cb.lt
    go_wp2_with fail
    refine (HA.out _).mono ?_
    rintro e w2 ⟨rfl, z2⟩
    clear i0 i1 i2 i3 i4 i5 i6 i7 i8 i9 i10
    replace I := I.next z2
    clear z2
    have i0 := I.ca.c0
    have i1 := I.ca.c1
    have i2 := I.cb.c0
    have i3 := I.cb.c1
    have i4 := I.rc.c0
    have i5 := I.rc.c1
    have i6 := I.rc.f0
    have i7 := I.rc.f1
    have i8 := I.rc.lt
    have i9 := I.ca.lt
    have i10 := I.cb.lt
    go_wp2_with fail
    refine (HC.out _).mono ?_
    rintro e w3 ⟨rfl, z3⟩
    clear i0 i1 i2 i3 i4 i5 i6 i7 i8 i9 i10
    replace I := I.next z3
    clear z3
    have i0 := I.ca.c0
    have i1 := I.ca.c1
    have i2 := I.cb.c0
    have i3 := I.cb.c1
    have i4 := I.rc.c0
    have i5 := I.rc.c1
    have i6 := I.rc.f0
    have i7 := I.rc.f1
    have i8 := I.rc.lt
    have i9 := I.ca.lt
    have i10 := I.cb.lt
    have HB := hid (put2_below a I.bel (by omega : w.heap.size ≤ w.heap.size + 1 + 1))
    clear I
    go_wp2
    exact bodyPost_ret (v := tv a) (by simp [results, Tryz.results44, go_sem, i0, i1, i2, i3, i4, i5, i6, i7, i8, i9, i10]; try rfl) rfl ⟨rfl, HB.out⟩
  rw [if_pos hB]
  rw [hB] at HC
  clear hB
  replace HC := hid HC
  unfold bmax bmin
  by_cases p1 : b.1.toNat < a.1.toNat
  case pos =>
    rw [if_neg (by omega : ¬ a.1.toNat < b.1.toNat)]
    replace p1 := of_ltn p1
    by_cases p2 : a.2.toNat < b.2.toNat
    case pos =>
      rw [if_pos p2]
      replace p2 := of_ltn p2
      have I := RI.start w a b 26 26 26
      unfold tv
      go_enter Tryz.func44, Tryz.ntmps44
      go_wp2_with fail
      generalize ((w.alloc (.cells #[.int .u64 (ub a.1), .int .u64 (ub a.2)] 26)).alloc (.cells #[.int .u64 (ub b.1), .int .u64 (ub b.2)] 26)).alloc (.cells #[.int .u64 0, .int .u64 0] 26) = w0 at I ⊢
      refine (HA.out _).mono ?_
      rintro e w1 ⟨rfl, z1⟩
      replace I := I.next z1
      clear z1
      have i0 := I.ca.c0
      have i1 := I.ca.c1
      have i2 := I.cb.c0
      have i3 := I.cb.c1
      have i4 := I.rc.c0
      have i5 := I.rc.c1
      have i6 := I.rc.f0
      have i7 := I.rc.f1
      have i8 := I.rc.lt
      have i9 := I.ca.lt
      have i10 := I.cb.lt
      go_wp2_with fail
      refine (HA.out _).mono ?_
      rintro e w2 ⟨rfl, z2⟩
      clear i0 i1 i2 i3 i4 i5 i6 i7 i8 i9 i10
      replace I := I.next z2
      clear z2
      have i0 := I.ca.c0
      have i1 := I.ca.c1
      have i2 := I.cb.c0
      have i3 := I.cb.c1
      have i4 := I.rc.c0
      have i5 := I.rc.c1
      have i6 := I.rc.f0
      have i7 := I.rc.f1
      have i8 := I.rc.lt
      have i9 := I.ca.lt
      have i10 := I.cb.lt
      go_wp2_with fail
      refine (HC.out _).mono ?_
      rintro e w3 ⟨rfl, z3⟩
      clear i0 i1 i2 i3 i4 i5 i6 i7 i8 i9 i10
      replace I := I.next z3
      clear z3
      have i0 := I.ca.c0
      have i1 := I.ca.c1
      have i2 := I.cb.c0
      have i3 := I.cb.c1
      have i4 := I.rc.c0
      have i5 := I.rc.c1
      have i6 := I.rc.f0
      have i7 := I.rc.f1
      have i8 := I.rc.lt
      have i9 := I.ca.lt
      have i10 := I.cb.lt
      have HB := hid ((put2_below (b.1, b.2) I.bel (by omega : w.heap.size ≤ w.heap.size + 1 + 1)).alloc (by rw [put2_size]; exact I.bel.size) (.cells #[.int .u64 (ub (b.1, b.2).1), .int .u64 (ub (b.1, b.2).2)] 26))
      clear I
      go_wp2
      exact bodyPost_ret (v := tv (b.1, b.2)) (by simp [results, Tryz.results44, go_sem, i0, i1, i2, i3, i4, i5, i6, i7, i8, i9, i10]; try rfl) rfl ⟨rfl, HB.out⟩
    case neg =>
      rw [if_neg p2]
      replace p2 := of_nltn p2
      have I := RI.start w a b 26 26 26
      unfold tv
      go_enter Tryz.func44, Tryz.ntmps44
      go_wp2_with fail
      generalize ((w.alloc (.cells #[.int .u64 (ub a.1), .int .u64 (ub a.2)] 26)).alloc (.cells #[.int .u64 (ub b.1), .int .u64 (ub b.2)] 26)).alloc (.cells #[.int .u64 0, .int .u64 0] 26) = w0 at I ⊢
      refine (HA.out _).mono ?_
      rintro e w1 ⟨rfl, z1⟩
      replace I := I.next z1
      clear z1
      have i0 := I.ca.c0
      have i1 := I.ca.c1
      have i2 := I.cb.c0
      have i3 := I.cb.c1
      have i4 := I.rc.c0
      have i5 := I.rc.c1
      have i6 := I.rc.f0
      have i7 := I.rc.f1
      have i8 := I.rc.lt
      have i9 := I.ca.lt
      have i10 := I.cb.lt
      go_wp2_with fail
      refine (HA.out _).mono ?_
      rintro e w2 ⟨rfl, z2⟩
      clear i0 i1 i2 i3 i4 i5 i6 i7 i8 i9 i10
      replace I := I.next z2
      clear z2
      have i0 := I.ca.c0
      have i1 := I.ca.c1
      have i2 := I.cb.c0
      have i3 := I.cb.c1
      have i4 := I.rc.c0
      have i5 := I.rc.c1
      have i6 := I.rc.f0
      have i7 := I.rc.f1
      have i8 := I.rc.lt
      have i9 := I.ca.lt
      have i10 := I.cb.lt
      go_wp2_with fail
      refine (HC.out _).mono ?_
      rintro e w3 ⟨rfl, z3⟩
      clear i0 i1 i2 i3 i4 i5 i6 i7 i8 i9 i10
      replace I := I.next z3
      clear z3
      have i0 := I.ca.c0
      have i1 := I.ca.c1
      have i2 := I.cb.c0
      have i3 := I.cb.c1
      have i4 := I.rc.c0
      have i5 := I.rc.c1
      have i6 := I.rc.f0
      have i7 := I.rc.f1
      have i8 := I.rc.lt
      have i9 := I.ca.lt
      have i10 := I.cb.lt
      have HB := hid ((put2_below (b.1, a.2) I.bel (by omega : w.heap.size ≤ w.heap.size + 1 + 1)).alloc (by rw [put2_size]; exact I.bel.size) (.cells #[.int .u64 (ub (b.1, a.2).1), .int .u64 (ub (b.1, a.2).2)] 26))
      clear I
      go_wp2
      exact bodyPost_ret (v := tv (b.1, a.2)) (by simp [results, Tryz.results44, go_sem, i0, i1, i2, i3, i4, i5, i6, i7, i8, i9, i10]; try rfl) rfl ⟨rfl, HB.out⟩
  by_cases p0 : a.1.toNat < b.1.toNat
  case pos =>
    rw [if_pos p0]
    replace p1 := of_nltn p1
    clear p0
    by_cases p2 : a.2.toNat < b.2.toNat
    case pos =>
      rw [if_pos p2]
      replace p2 := of_ltn p2
      have I := RI.start w a b 26 26 26
      unfold tv
      go_enter Tryz.func44, Tryz.ntmps44
      go_wp2_with fail
      generalize ((w.alloc (.cells #[.int .u64 (ub a.1), .int .u64 (ub a.2)] 26)).alloc (.cells #[.int .u64 (ub b.1), .int .u64 (ub b.2)] 26)).alloc (.cells #[.int .u64 0, .int .u64 0] 26) = w0 at I ⊢
      refine (HA.out _).mono ?_
      rintro e w1 ⟨rfl, z1⟩
      replace I := I.next z1
      clear z1
      have i0 := I.ca.c0
      have i1 := I.ca.c1
      have i2 := I.cb.c0
      have i3 := I.cb.c1
      have i4 := I.rc.c0
      have i5 := I.rc.c1
      have i6 := I.rc.f0
      have i7 := I.rc.f1
      have i8 := I.rc.lt
      have i9 := I.ca.lt
      have i10 := I.cb.lt
      go_wp2_with fail
      refine (HA.out _).mono ?_
      rintro e w2 ⟨rfl, z2⟩
      clear i0 i1 i2 i3 i4 i5 i6 i7 i8 i9 i10
      replace I := I.next z2
      clear z2
      have i0 := I.ca.c0
      have i1 := I.ca.c1
      have i2 := I.cb.c0
      have i3 := I.cb.c1
      have i4 := I.rc.c0
      have i5 := I.rc.c1
      have i6 := I.rc.f0
      have i7 := I.rc.f1
      have i8 := I.rc.lt
      have i9 := I.ca.lt
      have i10 := I.cb.lt
      go_wp2_with fail
      refine (HC.out _).mono ?_
      rintro e w3 ⟨rfl, z3⟩
      clear i0 i1 i2 i3 i4 i5 i6 i7 i8 i9 i10
      replace I := I.next z3
      clear z3
      have i0 := I.ca.c0
      have i1 := I.ca.c1
      have i2 := I.cb.c0
      have i3 := I.cb.c1
      have i4 := I.rc.c0
      have i5 := I.rc.c1
      have i6 := I.rc.f0
      have i7 := I.rc.f1
      have i8 := I.rc.lt
      have i9 := I.ca.lt
      have i10 := I.cb.lt
      have HB := hid ((put2_below (a.1, b.2) I.bel (by omega : w.heap.size ≤ w.heap.size + 1 + 1)).alloc (by rw [put2_size]; exact I.bel.size) (.cells #[.int .u64 (ub (a.1, b.2).1), .int .u64 (ub (a.1, b.2).2)] 26))
      clear I
      go_wp2
      exact bodyPost_ret (v := tv (a.1, b.2)) (by simp [results, Tryz.results44, go_sem, i0, i1, i2, i3, i4, i5, i6, i7, i8, i9, i10]; try rfl) rfl ⟨rfl, HB.out⟩
    case neg =>
      rw [if_neg p2]
      replace p2 := of_nltn p2
      have I := RI.start w a b 26 26 26
      unfold tv
      go_enter Tryz.func44, Tryz.ntmps44
      go_wp2_with fail
      generalize ((w.alloc (.cells #[.int .u64 (ub a.1), .int .u64 (ub a.2)] 26)).alloc (.cells #[.int .u64 (ub b.1), .int .u64 (ub b.2)] 26)).alloc (.cells #[.int .u64 0, .int .u64 0] 26) = w0 at I ⊢
      refine (HA.out _).mono ?_
      rintro e w1 ⟨rfl, z1⟩
      replace I := I.next z1
      clear z1
      have i0 := I.ca.c0
      have i1 := I.ca.c1
      have i2 := I.cb.c0
      have i3 := I.cb.c1
      have i4 := I.rc.c0
      have i5 := I.rc.c1
      have i6 := I.rc.f0
      have i7 := I.rc.f1
      have i8 := I.rc.lt
      have i9 := I.ca.lt
      have i10 := I.cb.lt
      go_wp2_with fail
      refine (HA.out _).mono ?_
      rintro e w2 ⟨rfl, z2⟩
      clear i0 i1 i2 i3 i4 i5 i6 i7 i8 i9 i10
      replace I := I.next z2
      clear z2
      have i0 := I.ca.c0
      have i1 := I.ca.c1
      have i2 := I.cb.c0
      have i3 := I.cb.c1
      have i4 := I.rc.c0
      have i5 := I.rc.c1
      have i6 := I.rc.f0
      have i7 := I.rc.f1
      have i8 := I.rc.lt
      have i9 := I.ca.lt
      have i10 := I.cb.lt
      go_wp2_with fail
      refine (HC.out _).mono ?_
      rintro e w3 ⟨rfl, z3⟩
      clear i0 i1 i2 i3 i4 i5 i6 i7 i8 i9 i10
      replace I := I.next z3
      clear z3
      have i0 := I.ca.c0
      have i1 := I.ca.c1
      have i2 := I.cb.c0
      have i3 := I.cb.c1
      have i4 := I.rc.c0
      have i5 := I.rc.c1
      have i6 := I.rc.f0
      have i7 := I.rc.f1
      have i8 := I.rc.lt
      have i9 := I.ca.lt
      have i10 := I.cb.lt
      have HB := hid ((put2_below (a.1, a.2) I.bel (by omega : w.heap.size ≤ w.heap.size + 1 + 1)).alloc (by rw [put2_size]; exact I.bel.size) (.cells #[.int .u64 (ub (a.1, a.2).1), .int .u64 (ub (a.1, a.2).2)] 26))
      clear I
      go_wp2
      exact bodyPost_ret (v := tv (a.1, a.2)) (by simp [results, Tryz.results44, go_sem, i0, i1, i2, i3, i4, i5, i6, i7, i8, i9, i10]; try rfl) rfl ⟨rfl, HB.out⟩
  case neg =>
    rw [if_neg p0]
    have e : b.1 = a.1 := BitVec.eq_of_toNat_eq (by omega)
    rw [show (tv (b.1, if a.2.toNat < b.2.toNat then b.2 else a.2)) = tv (a.1, if a.2.toNat < b.2.toNat then b.2 else a.2) by rw [e]]
    replace p1 := of_nltn p1
    clear p0 e
    by_cases p2 : a.2.toNat < b.2.toNat
    case pos =>
      rw [if_pos p2]
      replace p2 := of_ltn p2
      have I := RI.start w a b 26 26 26
      unfold tv
      go_enter Tryz.func44, Tryz.ntmps44
      go_wp2_with fail
      generalize ((w.alloc (.cells #[.int .u64 (ub a.1), .int .u64 (ub a.2)] 26)).alloc (.cells #[.int .u64 (ub b.1), .int .u64 (ub b.2)] 26)).alloc (.cells #[.int .u64 0, .int .u64 0] 26) = w0 at I ⊢
      refine (HA.out _).mono ?_
      rintro e w1 ⟨rfl, z1⟩
      replace I := I.next z1
      clear z1
      have i0 := I.ca.c0
      have i1 := I.ca.c1
      have i2 := I.cb.c0
      have i3 := I.cb.c1
      have i4 := I.rc.c0
      have i5 := I.rc.c1
      have i6 := I.rc.f0
      have i7 := I.rc.f1
      have i8 := I.rc.lt
      have i9 := I.ca.lt
      have i10 := I.cb.lt
      go_wp2_with fail
      refine (HA.out _).mono ?_
      rintro e w2 ⟨rfl, z2⟩
      clear i0 i1 i2 i3 i4 i5 i6 i7 i8 i9 i10
      replace I := I.next z2
      clear z2
      have i0 := I.ca.c0
      have i1 := I.ca.c1
      have i2 := I.cb.c0
      have i3 := I.cb.c1
      have i4 := I.rc.c0
      have i5 := I.rc.c1
      have i6 := I.rc.f0
      have i7 := I.rc.f1
      have i8 := I.rc.lt
      have i9 := I.ca.lt
      have i10 := I.cb.lt
      go_wp2_with fail
      refine (HC.out _).mono ?_
      rintro e w3 ⟨rfl, z3⟩
      clear i0 i1 i2 i3 i4 i5 i6 i7 i8 i9 i10
      replace I := I.next z3
      clear z3
      have i0 := I.ca.c0
      have i1 := I.ca.c1
      have i2 := I.cb.c0
      have i3 := I.cb.c1
      have i4 := I.rc.c0
      have i5 := I.rc.c1
      have i6 := I.rc.f0
      have i7 := I.rc.f1
      have i8 := I.rc.lt
      have i9 := I.ca.lt
      have i10 := I.cb.lt
      have HB := hid ((put2_below (a.1, b.2) I.bel (by omega : w.heap.size ≤ w.heap.size + 1 + 1)).alloc (by rw [put2_size]; exact I.bel.size) (.cells #[.int .u64 (ub (a.1, b.2).1), .int .u64 (ub (a.1, b.2).2)] 26))
      clear I
      go_wp2
      exact bodyPost_ret (v := tv (a.1, b.2)) (by simp [results, Tryz.results44, go_sem, i0, i1, i2, i3, i4, i5, i6, i7, i8, i9, i10]; try rfl) rfl ⟨rfl, HB.out⟩
    case neg =>
      rw [if_neg p2]
      replace p2 := of_nltn p2
      have I := RI.start w a b 26 26 26
      unfold tv
      go_enter Tryz.func44, Tryz.ntmps44
      go_wp2_with fail
      generalize ((w.alloc (.cells #[.int .u64 (ub a.1), .int .u64 (ub a.2)] 26)).alloc (.cells #[.int .u64 (ub b.1), .int .u64 (ub b.2)] 26)).alloc (.cells #[.int .u64 0, .int .u64 0] 26) = w0 at I ⊢
      refine (HA.out _).mono ?_
      rintro e w1 ⟨rfl, z1⟩
      replace I := I.next z1
      clear z1
      have i0 := I.ca.c0
      have i1 := I.ca.c1
      have i2 := I.cb.c0
      have i3 := I.cb.c1
      have i4 := I.rc.c0
      have i5 := I.rc.c1
      have i6 := I.rc.f0
      have i7 := I.rc.f1
      have i8 := I.rc.lt
      have i9 := I.ca.lt
      have i10 := I.cb.lt
      go_wp2_with fail
      refine (HA.out _).mono ?_
      rintro e w2 ⟨rfl, z2⟩
      clear i0 i1 i2 i3 i4 i5 i6 i7 i8 i9 i10
      replace I := I.next z2
      clear z2
      have i0 := I.ca.c0
      have i1 := I.ca.c1
      have i2 := I.cb.c0
      have i3 := I.cb.c1
      have i4 := I.rc.c0
      have i5 := I.rc.c1
      have i6 := I.rc.f0
      have i7 := I.rc.f1
      have i8 := I.rc.lt
      have i9 := I.ca.lt
      have i10 := I.cb.lt
      go_wp2_with fail
      refine (HC.out _).mono ?_
      rintro e w3 ⟨rfl, z3⟩
      clear i0 i1 i2 i3 i4 i5 i6 i7 i8 i9 i10
      replace I := I.next z3
      clear z3
      have i0 := I.ca.c0
      have i1 := I.ca.c1
      have i2 := I.cb.c0
      have i3 := I.cb.c1
      have i4 := I.rc.c0
      have i5 := I.rc.c1
      have i6 := I.rc.f0
      have i7 := I.rc.f1
      have i8 := I.rc.lt
      have i9 := I.ca.lt
      have i10 := I.cb.lt
      have HB := hid ((put2_below (a.1, a.2) I.bel (by omega : w.heap.size ≤ w.heap.size + 1 + 1)).alloc (by rw [put2_size]; exact I.bel.size) (.cells #[.int .u64 (ub (a.1, a.2).1), .int .u64 (ub (a.1, a.2).2)] 26))
      clear I
      go_wp2
      exact bodyPost_ret (v := tv (a.1, a.2)) (by simp [results, Tryz.results44, go_sem, i0, i1, i2, i3, i4, i5, i6, i7, i8, i9, i10]; try rfl) rfl ⟨rfl, HB.out⟩
/-- The boxes of one span and of a result. -/
theorem AB2.start (w : World) (a b : Tn) (t t' : TypeId) : BC ((w.alloc (.cells #[.int .u64 (ub a.1), .int .u64 (ub a.2)] t)).alloc (.cells #[.int .u64 (ub b.1), .int .u64 (ub b.2)] t')) w.heap.size a ∧
    BC ((w.alloc (.cells #[.int .u64 (ub a.1), .int .u64 (ub a.2)] t)).alloc (.cells #[.int .u64 (ub b.1), .int .u64 (ub b.2)] t')) (w.heap.size + 1) b ∧
    Below w.heap.size w ((w.alloc (.cells #[.int .u64 (ub a.1), .int .u64 (ub a.2)] t)).alloc (.cells #[.int .u64 (ub b.1), .int .u64 (ub b.2)] t')) := by
  have e1 := BC.new (w := w) (a := a) (t := t) rfl
  have s1 : (w.alloc (.cells #[.int .u64 (ub a.1), .int .u64 (ub a.2)] t)).heap.size = w.heap.size + 1 := by simp
  have b1 : Below w.heap.size w (w.alloc (.cells #[.int .u64 (ub a.1), .int .u64 (ub a.2)] t)) := (Below.refl _ _).alloc (Nat.le_refl _) _
  generalize w.alloc (.cells #[.int .u64 (ub a.1), .int .u64 (ub a.2)] t) = u1 at *
  have e2 := BC.new (w := u1) (a := b) (t := t') s1.symm
  have b2 : Below u1.heap.size u1 (u1.alloc (.cells #[.int .u64 (ub b.1), .int .u64 (ub b.2)] t')) := (Below.refl _ _).alloc (Nat.le_refl _) _
  exact ⟨e1.below b2, e2, b1.trans (b2.mono b1.size)⟩
end Go.Proofs.YtodmikjpmcabiaaGreat
