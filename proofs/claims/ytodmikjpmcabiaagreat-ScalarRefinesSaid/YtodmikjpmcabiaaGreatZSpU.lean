import Derived.Test.YtodmikjpmcabiaaGreatZSpTp
namespace Go.Proofs.YtodmikjpmcabiaaGreat
set_option linter.unusedSimpArgs false
set_option linter.unusedVariables false
set_option maxRecDepth 100000
open Go.ChangeShapes Go.WideShapes Go.ChangeAt Go.RowKit

theorem meetS_may (a b : Tn) : mayS (meetP a b) = true ↔ mayS a = true ∧ mayS b = true ∧ b.1.toNat ≤ a.2.toNat ∧ a.1.toNat ≤ b.2.toNat := by
  unfold mayS meetP
  rw [decide_eq_true_eq, decide_eq_true_eq, decide_eq_true_eq]
  dsimp only
  rw [bmax_toNat, bmin_toNat]
  omega
set_option maxRecDepth 20000 in
set_option maxHeartbeats 4000000 in
theorem qMeet_any (a b : Tn) (w : World) : Calls Tryz.prog 38 #[tv a, tv b] w fun e w' => e = .returned (.tuple #[tv (meetS a b), .bool (mayS (meetP a b))]) ∧ Below w.heap.size w w' := by
  have HA := fun W => qMay_any a W
  have HC := fun W => qMay_any b W
  have no : (mayS a = true ∧ mayS b = true ∧ b.1.toNat ≤ a.2.toNat ∧ a.1.toNat ≤ b.2.toNat → False) → meetS a b = t0 ∧ mayS (meetP a b) = false := by
    intro h
    have h1 : ¬ mayS (meetP a b) = true := fun e => h ((meetS_may a b).1 e)
    exact ⟨if_neg h1, Bool.eq_false_iff.2 h1⟩
  unfold tv at HA HC
  by_cases hA : mayS a = true
  case neg =>
    obtain ⟨n1, n2⟩ := no (fun h => hA h.1)
    rw [n1, n2]
    rw [Bool.eq_false_iff.2 hA] at HA
    clear n1 n2 no hA HC
    replace HA := hid HA
    have I := RI.start w a b 26 26 26
    unfold tv
    go_enter Tryz.func38, Tryz.ntmps38
    go_wp2_with fail
    generalize ((w.alloc (.cells #[.int .u64 (ub a.1), .int .u64 (ub a.2)] 26)).alloc (.cells #[.int .u64 (ub b.1), .int .u64 (ub b.2)] 26)).alloc (.cells #[.int .u64 0, .int .u64 0] 26) = w0 at I ⊢
    refine (HA.out _).mono ?_
    rintro e w1 ⟨rfl, z1⟩
    replace I := I.next z1
    clear z1
    have i0 := I.ca.c0
    have i1 := I.ca.c1
    have i2 := I.cb.c0
    have i3 := I.cb.c1
    have i4 := I.rc.c0
    have i5 := I.rc.c1
    have i6 := I.rc.f0
    have i7 := I.rc.f1
    have i8 := I.rc.lt
    have i9 := I.ca.lt
    have i10 := I.cb.lt
    have HB := hid (put2_below t0 I.bel (by omega : w.heap.size ≤ w.heap.size + 1 + 1))
    clear I
    go_wp2
    exact bodyPost_ret (v := .tuple #[tv t0, .bool false]) (by simp [results, Tryz.results38, go_sem, i0, i1, i2, i3, i4, i5, i6, i7, i8, i9, i10]; try rfl) rfl ⟨rfl, HB.out⟩
  by_cases hB : mayS b = true
  case neg =>
    obtain ⟨n1, n2⟩ := no (fun h => hB h.2.1)
    rw [n1, n2]
    rw [Bool.eq_false_iff.2 hB] at HC
    rw [hA] at HA
    clear n1 n2 no hA hB
    replace HA := hid HA
    replace HC := hid HC
    have I := RI.start w a b 26 26 26
    unfold tv
    go_enter Tryz.func38, Tryz.ntmps38
    go_wp2_with fail
    generalize ((w.alloc (.cells #[.int .u64 (ub a.1), .int .u64 (ub a.2)] 26)).alloc (.cells #[.int .u64 (ub b.1), .int .u64 (ub b.2)] 26)).alloc (.cells #[.int .u64 0, .int .u64 0] 26) = w0 at I ⊢
    refine (HA.out _).mono ?_
    rintro e w1 ⟨rfl, z1⟩
    replace I := I.next z1
    clear z1
    have i0 := I.ca.c0
    have i1 := I.ca.c1
    have i2 := I.cb.c0
    have i3 := I.cb.c1
    have i4 := I.rc.c0
    have i5 := I.rc.c1
    have i6 := I.rc.f0
    have i7 := I.rc.f1
    have i8 := I.rc.lt
    have i9 := I.ca.lt
    have i10 := I.cb.lt
    go_wp2_with fail
    refine (HC.out _).mono ?_
    rintro e w2 ⟨rfl, z2⟩
    clear i0 i1 i2 i3 i4 i5 i6 i7 i8 i9 i10
    replace I := I.next z2
    clear z2
    have i0 := I.ca.c0
    have i1 := I.ca.c1
    have i2 := I.cb.c0
    have i3 := I.cb.c1
    have i4 := I.rc.c0
    have i5 := I.rc.c1
    have i6 := I.rc.f0
    have i7 := I.rc.f1
    have i8 := I.rc.lt
    have i9 := I.ca.lt
    have i10 := I.cb.lt
    have HB := hid (put2_below t0 I.bel (by omega : w.heap.size ≤ w.heap.size + 1 + 1))
    clear I
    go_wp2
    exact bodyPost_ret (v := .tuple #[tv t0, .bool false]) (by simp [results, Tryz.results38, go_sem, i0, i1, i2, i3, i4, i5, i6, i7, i8, i9, i10]; try rfl) rfl ⟨rfl, HB.out⟩
  rw [hA] at HA
  rw [hB] at HC
  replace HA := hid HA
  replace HC := hid HC
  by_cases h1 : b.1.toNat ≤ a.2.toNat
  case neg =>
    obtain ⟨n1, n2⟩ := no (fun h => h1 h.2.2.1)
    rw [n1, n2]
    clear n1 n2 no hA hB
    have x1 : ub a.2 < ub b.1 := of_ltn (by omega)
    clear h1
    have I := RI.start w a b 26 26 26
    unfold tv
    go_enter Tryz.func38, Tryz.ntmps38
    go_wp2_with fail
    generalize ((w.alloc (.cells #[.int .u64 (ub a.1), .int .u64 (ub a.2)] 26)).alloc (.cells #[.int .u64 (ub b.1), .int .u64 (ub b.2)] 26)).alloc (.cells #[.int .u64 0, .int .u64 0] 26) = w0 at I ⊢
    refine (HA.out _).mono ?_
    rintro e w1 ⟨rfl, z1⟩
    replace I := I.next z1
    clear z1
    have i0 := I.ca.c0
    have i1 := I.ca.c1
    have i2 := I.cb.c0
    have i3 := I.cb.c1
    have i4 := I.rc.c0
    have i5 := I.rc.c1
    have i6 := I.rc.f0
    have i7 := I.rc.f1
    have i8 := I.rc.lt
    have i9 := I.ca.lt
    have i10 := I.cb.lt
    go_wp2_with fail
    refine (HC.out _).mono ?_
    rintro e w2 ⟨rfl, z2⟩
    clear i0 i1 i2 i3 i4 i5 i6 i7 i8 i9 i10
    replace I := I.next z2
    clear z2
    have i0 := I.ca.c0
    have i1 := I.ca.c1
    have i2 := I.cb.c0
    have i3 := I.cb.c1
    have i4 := I.rc.c0
    have i5 := I.rc.c1
    have i6 := I.rc.f0
    have i7 := I.rc.f1
    have i8 := I.rc.lt
    have i9 := I.ca.lt
    have i10 := I.cb.lt
    have HB := hid (put2_below t0 I.bel (by omega : w.heap.size ≤ w.heap.size + 1 + 1))
    clear I
    go_wp2
    exact bodyPost_ret (v := .tuple #[tv t0, .bool false]) (by simp [results, Tryz.results38, go_sem, i0, i1, i2, i3, i4, i5, i6, i7, i8, i9, i10]; try rfl) rfl ⟨rfl, HB.out⟩
  by_cases h2 : a.1.toNat ≤ b.2.toNat
  case neg =>
    obtain ⟨n1, n2⟩ := no (fun h => h2 h.2.2.2)
    rw [n1, n2]
    clear n1 n2 no hA hB
    have x1 : ¬ ub a.2 < ub b.1 := of_nltn (by omega)
    have x2 : ub b.2 < ub a.1 := of_ltn (by omega)
    clear h1 h2
    have I := RI.start w a b 26 26 26
    unfold tv
    go_enter Tryz.func38, Tryz.ntmps38
    go_wp2_with fail
    generalize ((w.alloc (.cells #[.int .u64 (ub a.1), .int .u64 (ub a.2)] 26)).alloc (.cells #[.int .u64 (ub b.1), .int .u64 (ub b.2)] 26)).alloc (.cells #[.int .u64 0, .int .u64 0] 26) = w0 at I ⊢
    refine (HA.out _).mono ?_
    rintro e w1 ⟨rfl, z1⟩
    replace I := I.next z1
    clear z1
    have i0 := I.ca.c0
    have i1 := I.ca.c1
    have i2 := I.cb.c0
    have i3 := I.cb.c1
    have i4 := I.rc.c0
    have i5 := I.rc.c1
    have i6 := I.rc.f0
    have i7 := I.rc.f1
    have i8 := I.rc.lt
    have i9 := I.ca.lt
    have i10 := I.cb.lt
    go_wp2_with fail
    refine (HC.out _).mono ?_
    rintro e w2 ⟨rfl, z2⟩
    clear i0 i1 i2 i3 i4 i5 i6 i7 i8 i9 i10
    replace I := I.next z2
    clear z2
    have i0 := I.ca.c0
    have i1 := I.ca.c1
    have i2 := I.cb.c0
    have i3 := I.cb.c1
    have i4 := I.rc.c0
    have i5 := I.rc.c1
    have i6 := I.rc.f0
    have i7 := I.rc.f1
    have i8 := I.rc.lt
    have i9 := I.ca.lt
    have i10 := I.cb.lt
    have HB := hid (put2_below t0 I.bel (by omega : w.heap.size ≤ w.heap.size + 1 + 1))
    clear I
    go_wp2
    exact bodyPost_ret (v := .tuple #[tv t0, .bool false]) (by simp [results, Tryz.results38, go_sem, i0, i1, i2, i3, i4, i5, i6, i7, i8, i9, i10]; try rfl) rfl ⟨rfl, HB.out⟩
  have hm := (meetS_may a b).2 ⟨hA, hB, h1, h2⟩
  rw [show meetS a b = meetP a b from if_pos hm, hm]
  have x1 : ¬ ub a.2 < ub b.1 := of_nltn (by omega)
  have x2 : ¬ ub b.2 < ub a.1 := of_nltn (by omega)
  clear hm no hA hB h1 h2
  unfold meetP bmax bmin
  by_cases p1 : a.1.toNat < b.1.toNat
  case pos =>
    rw [if_pos p1]
    replace p1 := of_ltn p1
    by_cases p2 : a.2.toNat < b.2.toNat
    case pos =>
      rw [if_pos p2]
      have p3 : ¬ ub b.2 < ub a.2 := of_nltn (by omega)
      clear p2
      have I := RI.start w a b 26 26 26
      unfold tv
      go_enter Tryz.func38, Tryz.ntmps38
      go_wp2_with fail
      generalize ((w.alloc (.cells #[.int .u64 (ub a.1), .int .u64 (ub a.2)] 26)).alloc (.cells #[.int .u64 (ub b.1), .int .u64 (ub b.2)] 26)).alloc (.cells #[.int .u64 0, .int .u64 0] 26) = w0 at I ⊢
      refine (HA.out _).mono ?_
      rintro e w1 ⟨rfl, z1⟩
      replace I := I.next z1
      clear z1
      have i0 := I.ca.c0
      have i1 := I.ca.c1
      have i2 := I.cb.c0
      have i3 := I.cb.c1
      have i4 := I.rc.c0
      have i5 := I.rc.c1
      have i6 := I.rc.f0
      have i7 := I.rc.f1
      have i8 := I.rc.lt
      have i9 := I.ca.lt
      have i10 := I.cb.lt
      go_wp2_with fail
      refine (HC.out _).mono ?_
      rintro e w2 ⟨rfl, z2⟩
      clear i0 i1 i2 i3 i4 i5 i6 i7 i8 i9 i10
      replace I := I.next z2
      clear z2
      have i0 := I.ca.c0
      have i1 := I.ca.c1
      have i2 := I.cb.c0
      have i3 := I.cb.c1
      have i4 := I.rc.c0
      have i5 := I.rc.c1
      have i6 := I.rc.f0
      have i7 := I.rc.f1
      have i8 := I.rc.lt
      have i9 := I.ca.lt
      have i10 := I.cb.lt
      have HB := hid ((put2_below (b.1, a.2) I.bel (by omega : w.heap.size ≤ w.heap.size + 1 + 1)).alloc (by rw [put2_size]; exact I.bel.size) (.cells #[.int .u64 (ub (b.1, a.2).1), .int .u64 (ub (b.1, a.2).2)] 26))
      clear I
      go_wp2
      exact bodyPost_ret (v := .tuple #[tv (b.1, a.2), .bool true]) (by simp [results, Tryz.results38, go_sem, i0, i1, i2, i3, i4, i5, i6, i7, i8, i9, i10]; try rfl) rfl ⟨rfl, HB.out⟩
    case neg =>
      rw [if_neg p2]
      by_cases p3 : b.2.toNat < a.2.toNat
      case pos =>
        replace p3 := of_ltn p3
        clear p2
        have I := RI.start w a b 26 26 26
        unfold tv
        go_enter Tryz.func38, Tryz.ntmps38
        go_wp2_with fail
        generalize ((w.alloc (.cells #[.int .u64 (ub a.1), .int .u64 (ub a.2)] 26)).alloc (.cells #[.int .u64 (ub b.1), .int .u64 (ub b.2)] 26)).alloc (.cells #[.int .u64 0, .int .u64 0] 26) = w0 at I ⊢
        refine (HA.out _).mono ?_
        rintro e w1 ⟨rfl, z1⟩
        replace I := I.next z1
        clear z1
        have i0 := I.ca.c0
        have i1 := I.ca.c1
        have i2 := I.cb.c0
        have i3 := I.cb.c1
        have i4 := I.rc.c0
        have i5 := I.rc.c1
        have i6 := I.rc.f0
        have i7 := I.rc.f1
        have i8 := I.rc.lt
        have i9 := I.ca.lt
        have i10 := I.cb.lt
        go_wp2_with fail
        refine (HC.out _).mono ?_
        rintro e w2 ⟨rfl, z2⟩
        clear i0 i1 i2 i3 i4 i5 i6 i7 i8 i9 i10
        replace I := I.next z2
        clear z2
        have i0 := I.ca.c0
        have i1 := I.ca.c1
        have i2 := I.cb.c0
        have i3 := I.cb.c1
        have i4 := I.rc.c0
        have i5 := I.rc.c1
        have i6 := I.rc.f0
        have i7 := I.rc.f1
        have i8 := I.rc.lt
        have i9 := I.ca.lt
        have i10 := I.cb.lt
        have HB := hid ((put2_below (b.1, b.2) I.bel (by omega : w.heap.size ≤ w.heap.size + 1 + 1)).alloc (by rw [put2_size]; exact I.bel.size) (.cells #[.int .u64 (ub (b.1, b.2).1), .int .u64 (ub (b.1, b.2).2)] 26))
        clear I
        go_wp2
        exact bodyPost_ret (v := .tuple #[tv (b.1, b.2), .bool true]) (by simp [results, Tryz.results38, go_sem, i0, i1, i2, i3, i4, i5, i6, i7, i8, i9, i10]; try rfl) rfl ⟨rfl, HB.out⟩
      case neg =>
        have e : a.2 = b.2 := BitVec.eq_of_toNat_eq (by omega)
        rw [← e]
        replace p3 := of_nltn p3
        clear p2 e
        have I := RI.start w a b 26 26 26
        unfold tv
        go_enter Tryz.func38, Tryz.ntmps38
        go_wp2_with fail
        generalize ((w.alloc (.cells #[.int .u64 (ub a.1), .int .u64 (ub a.2)] 26)).alloc (.cells #[.int .u64 (ub b.1), .int .u64 (ub b.2)] 26)).alloc (.cells #[.int .u64 0, .int .u64 0] 26) = w0 at I ⊢
        refine (HA.out _).mono ?_
        rintro e w1 ⟨rfl, z1⟩
        replace I := I.next z1
        clear z1
        have i0 := I.ca.c0
        have i1 := I.ca.c1
        have i2 := I.cb.c0
        have i3 := I.cb.c1
        have i4 := I.rc.c0
        have i5 := I.rc.c1
        have i6 := I.rc.f0
        have i7 := I.rc.f1
        have i8 := I.rc.lt
        have i9 := I.ca.lt
        have i10 := I.cb.lt
        go_wp2_with fail
        refine (HC.out _).mono ?_
        rintro e w2 ⟨rfl, z2⟩
        clear i0 i1 i2 i3 i4 i5 i6 i7 i8 i9 i10
        replace I := I.next z2
        clear z2
        have i0 := I.ca.c0
        have i1 := I.ca.c1
        have i2 := I.cb.c0
        have i3 := I.cb.c1
        have i4 := I.rc.c0
        have i5 := I.rc.c1
        have i6 := I.rc.f0
        have i7 := I.rc.f1
        have i8 := I.rc.lt
        have i9 := I.ca.lt
        have i10 := I.cb.lt
        have HB := hid ((put2_below (b.1, a.2) I.bel (by omega : w.heap.size ≤ w.heap.size + 1 + 1)).alloc (by rw [put2_size]; exact I.bel.size) (.cells #[.int .u64 (ub (b.1, a.2).1), .int .u64 (ub (b.1, a.2).2)] 26))
        clear I
        go_wp2
        exact bodyPost_ret (v := .tuple #[tv (b.1, a.2), .bool true]) (by simp [results, Tryz.results38, go_sem, i0, i1, i2, i3, i4, i5, i6, i7, i8, i9, i10]; try rfl) rfl ⟨rfl, HB.out⟩
  case neg =>
    rw [if_neg p1]
    replace p1 := of_nltn p1
    by_cases p2 : a.2.toNat < b.2.toNat
    case pos =>
      rw [if_pos p2]
      have p3 : ¬ ub b.2 < ub a.2 := of_nltn (by omega)
      clear p2
      have I := RI.start w a b 26 26 26
      unfold tv
      go_enter Tryz.func38, Tryz.ntmps38
      go_wp2_with fail
      generalize ((w.alloc (.cells #[.int .u64 (ub a.1), .int .u64 (ub a.2)] 26)).alloc (.cells #[.int .u64 (ub b.1), .int .u64 (ub b.2)] 26)).alloc (.cells #[.int .u64 0, .int .u64 0] 26) = w0 at I ⊢
      refine (HA.out _).mono ?_
      rintro e w1 ⟨rfl, z1⟩
      replace I := I.next z1
      clear z1
      have i0 := I.ca.c0
      have i1 := I.ca.c1
      have i2 := I.cb.c0
      have i3 := I.cb.c1
      have i4 := I.rc.c0
      have i5 := I.rc.c1
      have i6 := I.rc.f0
      have i7 := I.rc.f1
      have i8 := I.rc.lt
      have i9 := I.ca.lt
      have i10 := I.cb.lt
      go_wp2_with fail
      refine (HC.out _).mono ?_
      rintro e w2 ⟨rfl, z2⟩
      clear i0 i1 i2 i3 i4 i5 i6 i7 i8 i9 i10
      replace I := I.next z2
      clear z2
      have i0 := I.ca.c0
      have i1 := I.ca.c1
      have i2 := I.cb.c0
      have i3 := I.cb.c1
      have i4 := I.rc.c0
      have i5 := I.rc.c1
      have i6 := I.rc.f0
      have i7 := I.rc.f1
      have i8 := I.rc.lt
      have i9 := I.ca.lt
      have i10 := I.cb.lt
      have HB := hid ((put2_below (a.1, a.2) I.bel (by omega : w.heap.size ≤ w.heap.size + 1 + 1)).alloc (by rw [put2_size]; exact I.bel.size) (.cells #[.int .u64 (ub (a.1, a.2).1), .int .u64 (ub (a.1, a.2).2)] 26))
      clear I
      go_wp2
      exact bodyPost_ret (v := .tuple #[tv (a.1, a.2), .bool true]) (by simp [results, Tryz.results38, go_sem, i0, i1, i2, i3, i4, i5, i6, i7, i8, i9, i10]; try rfl) rfl ⟨rfl, HB.out⟩
    case neg =>
      rw [if_neg p2]
      by_cases p3 : b.2.toNat < a.2.toNat
      case pos =>
        replace p3 := of_ltn p3
        clear p2
        have I := RI.start w a b 26 26 26
        unfold tv
        go_enter Tryz.func38, Tryz.ntmps38
        go_wp2_with fail
        generalize ((w.alloc (.cells #[.int .u64 (ub a.1), .int .u64 (ub a.2)] 26)).alloc (.cells #[.int .u64 (ub b.1), .int .u64 (ub b.2)] 26)).alloc (.cells #[.int .u64 0, .int .u64 0] 26) = w0 at I ⊢
        refine (HA.out _).mono ?_
        rintro e w1 ⟨rfl, z1⟩
        replace I := I.next z1
        clear z1
        have i0 := I.ca.c0
        have i1 := I.ca.c1
        have i2 := I.cb.c0
        have i3 := I.cb.c1
        have i4 := I.rc.c0
        have i5 := I.rc.c1
        have i6 := I.rc.f0
        have i7 := I.rc.f1
        have i8 := I.rc.lt
        have i9 := I.ca.lt
        have i10 := I.cb.lt
        go_wp2_with fail
        refine (HC.out _).mono ?_
        rintro e w2 ⟨rfl, z2⟩
        clear i0 i1 i2 i3 i4 i5 i6 i7 i8 i9 i10
        replace I := I.next z2
        clear z2
        have i0 := I.ca.c0
        have i1 := I.ca.c1
        have i2 := I.cb.c0
        have i3 := I.cb.c1
        have i4 := I.rc.c0
        have i5 := I.rc.c1
        have i6 := I.rc.f0
        have i7 := I.rc.f1
        have i8 := I.rc.lt
        have i9 := I.ca.lt
        have i10 := I.cb.lt
        have HB := hid ((put2_below (a.1, b.2) I.bel (by omega : w.heap.size ≤ w.heap.size + 1 + 1)).alloc (by rw [put2_size]; exact I.bel.size) (.cells #[.int .u64 (ub (a.1, b.2).1), .int .u64 (ub (a.1, b.2).2)] 26))
        clear I
        go_wp2
        exact bodyPost_ret (v := .tuple #[tv (a.1, b.2), .bool true]) (by simp [results, Tryz.results38, go_sem, i0, i1, i2, i3, i4, i5, i6, i7, i8, i9, i10]; try rfl) rfl ⟨rfl, HB.out⟩
      case neg =>
        have e : a.2 = b.2 := BitVec.eq_of_toNat_eq (by omega)
        rw [← e]
        replace p3 := of_nltn p3
        clear p2 e
        have I := RI.start w a b 26 26 26
        unfold tv
        go_enter Tryz.func38, Tryz.ntmps38
        go_wp2_with fail
        generalize ((w.alloc (.cells #[.int .u64 (ub a.1), .int .u64 (ub a.2)] 26)).alloc (.cells #[.int .u64 (ub b.1), .int .u64 (ub b.2)] 26)).alloc (.cells #[.int .u64 0, .int .u64 0] 26) = w0 at I ⊢
        refine (HA.out _).mono ?_
        rintro e w1 ⟨rfl, z1⟩
        replace I := I.next z1
        clear z1
        have i0 := I.ca.c0
        have i1 := I.ca.c1
        have i2 := I.cb.c0
        have i3 := I.cb.c1
        have i4 := I.rc.c0
        have i5 := I.rc.c1
        have i6 := I.rc.f0
        have i7 := I.rc.f1
        have i8 := I.rc.lt
        have i9 := I.ca.lt
        have i10 := I.cb.lt
        go_wp2_with fail
        refine (HC.out _).mono ?_
        rintro e w2 ⟨rfl, z2⟩
        clear i0 i1 i2 i3 i4 i5 i6 i7 i8 i9 i10
        replace I := I.next z2
        clear z2
        have i0 := I.ca.c0
        have i1 := I.ca.c1
        have i2 := I.cb.c0
        have i3 := I.cb.c1
        have i4 := I.rc.c0
        have i5 := I.rc.c1
        have i6 := I.rc.f0
        have i7 := I.rc.f1
        have i8 := I.rc.lt
        have i9 := I.ca.lt
        have i10 := I.cb.lt
        have HB := hid ((put2_below (a.1, a.2) I.bel (by omega : w.heap.size ≤ w.heap.size + 1 + 1)).alloc (by rw [put2_size]; exact I.bel.size) (.cells #[.int .u64 (ub (a.1, a.2).1), .int .u64 (ub (a.1, a.2).2)] 26))
        clear I
        go_wp2
        exact bodyPost_ret (v := .tuple #[tv (a.1, a.2), .bool true]) (by simp [results, Tryz.results38, go_sem, i0, i1, i2, i3, i4, i5, i6, i7, i8, i9, i10]; try rfl) rfl ⟨rfl, HB.out⟩
end Go.Proofs.YtodmikjpmcabiaaGreat
