/-
  TnumMoves: shifted and cut, a tnum holds the shifted and cut numbers.
-/
import Derived.Test.YtbinbjfpjielkaaTnMp
import Derived.Test.YtbinbjfpjielkaaTnY
import Derived.Test.YtbinbjfpjielkaaTnW
import Derived.Deep.RegionHeld3
namespace Go.Proofs.Ytbinbjfpjielkaa
set_option linter.unusedSimpArgs false
set_option linter.unusedVariables false
open Go.ChangeShapes Go.WideShapes Go.ChangeAt Go.RowKit

theorem hs_has2 {t : Tn} {x : B64} (hm : tmay t = true) (h : Hs t x) : thas t x = true := (has_iff t x).2 ⟨hm, h⟩
structure B1 (w : World) (a : Tn) (wr : World) : Prop where
  ca : TC wr w.heap.size a
  bel : Below w.heap.size w wr
theorem B1.next {w : World} {a : Tn} {wr w' : World} (h : B1 w a wr) (hb : Below wr.heap.size wr w') : B1 w a w' := ⟨h.ca.below hb, h.bel.trans (hb.mono h.bel.size)⟩
theorem moves_a (a : Tn) (x : B64) (n : Int) (w : World) (ha : tmay a = false) : Calls Try.prog 11 #[tv a, .int .u64 (ub x), .int .i64 n] w fun e w' => e = .returned (.bool true) ∧ Below w.heap.size w w' := by
  have HAW := hid awake_true
  have HA := fun W => tMay_any a W
  rw [ha] at HA
  unfold tv at HA ⊢
  have HA' := hid HA
  clear HA ha
  go_enter Try.func11, Try.ntmps11
  go_wp2_with fail
  refine (HAW.out _).mono ?_
  rintro e w1 ⟨rfl, z1⟩
  have I : B1 w a w1 := ⟨(TC.new rfl).below z1, ((Below.refl _ _).alloc (Nat.le_refl _) _).trans (z1.mono (by simp))⟩
  have q0 := I.ca.2.1
  have r0 := I.ca.2.2
  clear z1
  go_wp2_with fail
  refine (HA'.out _).mono ?_
  rintro e w2 ⟨rfl, z2⟩
  clear q0 r0
  replace I := I.next z2
  clear z2
  go_wp2_with fail
  refine (HAW.out _).mono ?_
  rintro e w3 ⟨rfl, z3⟩
  have HB := hid (I.next z3).bel
  go_wp2
  go_ret
  exact ⟨rfl, HB.out⟩
set_option maxRecDepth 100000 in
set_option maxHeartbeats 8000000 in
theorem moves_b (a : Tn) (x : B64) (n : Int) (w : World) (hn0 : -9223372036854775808 ≤ n) (hn1 : n < 9223372036854775808) (ha : tmay a = true) : Calls Try.prog 11 #[tv a, .int .u64 (ub x), .int .i64 n] w fun e w' => e = .returned (.bool true) ∧ Below w.heap.size w w' := by
  obtain ⟨N, hN⟩ : ∃ N : Nat, n % 64 = N := ⟨(n % 64).toNat, by omega⟩
  have hN64 : N < 64 := by omega
  have HAW := hid awake_true
  have HA := fun W => tMay_any a W
  rw [ha] at HA
  have HMe := hid fun W => member_any a x W
  unfold tv at HA HMe ⊢
  have HA' := hid HA
  clear HA
  have HNN := hid hN
  have HN0 := hid hn0
  have HN1 := hid hn1
  clear hN hn0 hn1
  have ha' := hid ha
  clear ha
  go_enter Try.func11, Try.ntmps11
  go_wp2_with fail
  refine (HAW.out _).mono ?_
  rintro e w1 ⟨rfl, z1⟩
  have I : B1 w a w1 := ⟨(TC.new rfl).below z1, ((Below.refl _ _).alloc (Nat.le_refl _) _).trans (z1.mono (by simp))⟩
  have q0 := I.ca.2.1
  have r0 := I.ca.2.2
  clear z1
  go_wp2_with fail
  refine (HA'.out _).mono ?_
  rintro e w2 ⟨rfl, z2⟩
  clear q0 r0
  replace I := I.next z2
  clear z2
  have q0 := I.ca.2.1
  have r0 := I.ca.2.2
  go_wp2_with fail
  refine (HMe.out _).mono ?_
  rintro e w3 ⟨rfl, z3⟩
  clear q0 r0
  have I3 := hid (I.next z3)
  clear z3 I
  go_wp2_with fail
  have hNw : wrap64 ((IntKind.u64.wrap n).tmod 64) = (N : Int) := by
    have h1 := HNN.out
    rw [IntKind.wrap_u64, Int.tmod_eq_emod_of_nonneg (by omega)]
    have e : n % 18446744073709551616 % 64 = (N : Int) := by omega
    rw [e]
    have h := IntKind.wrap_i64 (N : Int)
    have e2 : wrap64 (N : Int) = IntKind.i64.wrap (N : Int) := by first | rfl | (unfold wrap64; exact h.symm)
    rw [e2, h]; omega
  rw [hNw]
  clear hNw
  have hN0 : 0 ≤ (N : Int) := by omega
  have hNb : (N : Int) < 64 := by omega
  go_loopw [41] (fun i wr => ∃ k : Nat, k ≤ 2 ∧ i = .int .i64 k ∧ Hid (B1 w a wr)) (fun i _ => 2 - (intOf i).toNat)
  case atStart => exact ⟨0, by omega, rfl, I3⟩
  case round =>
    clear I3
    obtain ⟨k, hk, rfl, HI⟩ := hrel
    obtain ⟨wo, rfl⟩ : ∃ wo : World, wo = wr := ⟨_, rfl⟩
    by_cases hlt : k < 2
    · have hc : k = 0 ∨ k = 1 := by omega
      clear hk hlt
      rcases hc with rfl | rfl
      · have hix : ∀ W : World, (Instr.index 64 (.agg #[.int .i64 32, .int .i64 64]) (.int .i64 0)).run Try.prog W = .ok (.int .i64 32) W := fun W => by kernel_rfl
        obtain ⟨K, hK⟩ : ∃ K : Nat, K = N % 32 := ⟨_, rfl⟩
        have hKl : K < 32 := by omega
        have hK1 : (N : Int) % 32 = (K : Int) := by omega
        have hK2 : (N : Int).tmod 32 = (K : Int) := by rw [Int.tmod_eq_emod_of_nonneg (by omega)]; exact hK1
        have hK0 : 0 ≤ (K : Int) := by omega
        have hKb : (K : Int) < 32 := by omega
        obtain ⟨P, hP⟩ : ∃ P : Tn, P = (a.1 &&& lowB 32, a.2 &&& lowB 32) := ⟨_, rfl⟩
        have hPm : tmay P = true := by rw [hP]; exact cut_may ha'.out 32
        have hmem := mem_hs ha'.out x
        obtain ⟨hf, hhf⟩ : ∃ hf : B64, hf = (memB a x &&& lowB 32) := ⟨_, rfl⟩
        have hPh : Hs P hf := by rw [hP, hhf]; exact cut_hs hmem 32
        have hfz : ∀ i, 32 ≤ i → bt hf i = false := by rw [hhf]; exact (fit_bits _).2
        obtain ⟨D, hD⟩ : ∃ D : Tn, D = (arB 32 K 32 P.1, arB 32 K 32 P.2) := ⟨_, rfl⟩
        have hDm : tmay D = true := by rw [hD]; exact ar_may hPm 32 K (by decide) hKl
        have hDh : Hs D (itr 32 hf K) := by rw [hD, itr_ar 32 (by decide) hf hfz K hKl]; exact ar_hs hPh 32 K (by decide) hKl
        have C1 := fun W => tCut_any a 32 W
        rw [show cutT a 32 = P by rw [hP]; exact (show cutT a 32 = eachT a (fun x => x &&& lowB 32) from rfl).trans (each_yes ha'.out (fun x => x &&& lowB 32)).1, show cutE a 32 = 0 from (each_yes ha'.out (fun x => x)).2] at C1
        have C2 := fun W => rfit_f (memB a x) W
        rw [← hhf] at C2
        have C3 := fun W => tArsh_any P (K : Int) 32 W
        rw [show arshT P (K : Int) 32 = D by rw [hD]; exact (sh_yes hPm (arB 32 (K : Int).toNat 32) hK0 hKb).1, show arshE P (K : Int) 32 = 0 from (sh_yes hPm (arB 32 (K : Int).toNat 32) hK0 hKb).2] at C3
        have C4 := fun W => ralu12_32 hf K hKl hfz W
        generalize itr 32 hf K = want at hDh C4
        have C5 := fun W => tHas_any P hf W
        rw [hs_has2 hPm hPh] at C5
        have C6 := fun W => tHas_any D want W
        rw [hs_has2 hDm hDh] at C6
        unfold tv at C1 C3 C5 C6
        have H1 := hid C1
        have H2 := hid C2
        have H3 := hid C3
        have H4 := hid C4
        have H5 := hid C5
        have H6 := hid C6
        clear C1 C2 C3 C4 C5 C6 hmem hPh hfz hDm hDh hPm hP hD hhf hK
        have I := HI.out
        have q0 := I.ca.2.1
        have r0 := I.ca.2.2
        go_wp2_with fail
        refine (H1.out _).mono ?_
        rintro e w4 ⟨rfl, z4⟩
        clear q0 r0 hix HI
        replace I := I.next z4
        clear z4
        go_wp2_with fail
        refine (H2.out _).mono ?_
        rintro e w5 ⟨rfl, rfl⟩
        go_wp2_with fail
        refine (H3.out _).mono ?_
        rintro e w6 ⟨rfl, z6⟩
        have G1 : TC w6 w4.heap.size P := (TC.new rfl).below z6
        replace I := (I.next ((Below.refl _ _).alloc (Nat.le_refl _) (.cells #[.int .u64 (ub P.1), .int .u64 (ub P.2)] 24))).next z6
        clear z6
        have p1 := G1.1
        have q1 := G1.2.1
        have r1 := G1.2.2
        go_wp2_with fail
        refine (H4.out _).mono ?_
        rintro e w7 ⟨rfl, rfl⟩
        go_wp2_with fail
        refine (H5.out _).mono ?_
        rintro e w8 ⟨rfl, z8⟩
        clear p1 q1 r1 G1
        have G2 : TC w8 w6.heap.size D := (TC.new rfl).below z8
        replace I := (I.next ((Below.refl _ _).alloc (Nat.le_refl _) (.cells #[.int .u64 (ub D.1), .int .u64 (ub D.2)] 24))).next z8
        clear z8
        have q2 := G2.2.1
        have r2 := G2.2.2
        go_wp2_with fail
        refine (H6.out _).mono ?_
        rintro e w9 ⟨rfl, z9⟩
        have I9 := hid (I.next z9)
        clear q2 r2 G2 I z9
        go_wp2
        go_roundw
        case rel => first | exact ⟨1, by omega, by first | rfl | go_num, I9⟩ | ((repeat apply Exists.intro); exact ⟨⟨1, by omega, by first | rfl | go_num, I9⟩, rfl⟩)
        case measure => simp [intOf]
      · have hix : ∀ W : World, (Instr.index 64 (.agg #[.int .i64 32, .int .i64 64]) (.int .i64 1)).run Try.prog W = .ok (.int .i64 64) W := fun W => by kernel_rfl
        obtain ⟨K, hK⟩ : ∃ K : Nat, K = N % 64 := ⟨_, rfl⟩
        have hKl : K < 64 := by omega
        have hK1 : (N : Int) % 64 = (K : Int) := by omega
        have hK2 : (N : Int).tmod 64 = (K : Int) := by rw [Int.tmod_eq_emod_of_nonneg (by omega)]; exact hK1
        have hK0 : 0 ≤ (K : Int) := by omega
        have hKb : (K : Int) < 64 := by omega
        obtain ⟨P, hP⟩ : ∃ P : Tn, P = (a.1 &&& lowB 64, a.2 &&& lowB 64) := ⟨_, rfl⟩
        have hPm : tmay P = true := by rw [hP]; exact cut_may ha'.out 64
        have hmem := mem_hs ha'.out x
        obtain ⟨hf, hhf⟩ : ∃ hf : B64, hf = memB a x := ⟨_, rfl⟩
        have hPh : Hs P hf := by rw [hP, hhf]; have hq := cut_hs hmem 64; rw [and_low64 (memB a x)] at hq; exact hq
        have hfz : ∀ i, 64 ≤ i → bt hf i = false := by rw [hhf]; exact fun i hi => bt_out _ _ hi
        obtain ⟨D, hD⟩ : ∃ D : Tn, D = (arB 0 K 64 P.1, arB 0 K 64 P.2) := ⟨_, rfl⟩
        have hDm : tmay D = true := by rw [hD]; exact ar_may hPm 64 K (by decide) hKl
        have hDh : Hs D (itr 64 hf K) := by rw [hD, itr_ar 64 (by decide) hf hfz K hKl]; exact ar_hs hPh 64 K (by decide) hKl
        have C1 := fun W => tCut_any a 64 W
        rw [show cutT a 64 = P by rw [hP]; exact (show cutT a 64 = eachT a (fun x => x &&& lowB 64) from rfl).trans (each_yes ha'.out (fun x => x &&& lowB 64)).1, show cutE a 64 = 0 from (each_yes ha'.out (fun x => x)).2] at C1
        have C2 : ∀ W, Calls Try.prog 56 #[.bool true, .int .u64 (ub (memB a x))] W fun e w' => e = .returned (.int .u64 (ub hf)) ∧ W = w' := fun W => by rw [hhf]; exact rfit_t _ W
        have C3 := fun W => tArsh_any P (K : Int) 64 W
        rw [show arshT P (K : Int) 64 = D by rw [hD]; exact (sh_yes hPm (arB 0 (K : Int).toNat 64) hK0 hKb).1, show arshE P (K : Int) 64 = 0 from (sh_yes hPm (arB 0 (K : Int).toNat 64) hK0 hKb).2] at C3
        have C4 := fun W => ralu12_64 hf K hKl  W
        generalize itr 64 hf K = want at hDh C4
        have C5 := fun W => tHas_any P hf W
        rw [hs_has2 hPm hPh] at C5
        have C6 := fun W => tHas_any D want W
        rw [hs_has2 hDm hDh] at C6
        unfold tv at C1 C3 C5 C6
        have H1 := hid C1
        have H2 := hid C2
        have H3 := hid C3
        have H4 := hid C4
        have H5 := hid C5
        have H6 := hid C6
        clear C1 C2 C3 C4 C5 C6 hmem hPh hfz hDm hDh hPm hP hD hhf hK
        have I := HI.out
        have q0 := I.ca.2.1
        have r0 := I.ca.2.2
        go_wp2_with fail
        refine (H1.out _).mono ?_
        rintro e w4 ⟨rfl, z4⟩
        clear q0 r0 hix HI
        replace I := I.next z4
        clear z4
        go_wp2_with fail
        refine (H2.out _).mono ?_
        rintro e w5 ⟨rfl, rfl⟩
        go_wp2_with fail
        refine (H3.out _).mono ?_
        rintro e w6 ⟨rfl, z6⟩
        have G1 : TC w6 w4.heap.size P := (TC.new rfl).below z6
        replace I := (I.next ((Below.refl _ _).alloc (Nat.le_refl _) (.cells #[.int .u64 (ub P.1), .int .u64 (ub P.2)] 24))).next z6
        clear z6
        have p1 := G1.1
        have q1 := G1.2.1
        have r1 := G1.2.2
        go_wp2_with fail
        refine (H4.out _).mono ?_
        rintro e w7 ⟨rfl, rfl⟩
        go_wp2_with fail
        refine (H5.out _).mono ?_
        rintro e w8 ⟨rfl, z8⟩
        clear p1 q1 r1 G1
        have G2 : TC w8 w6.heap.size D := (TC.new rfl).below z8
        replace I := (I.next ((Below.refl _ _).alloc (Nat.le_refl _) (.cells #[.int .u64 (ub D.1), .int .u64 (ub D.2)] 24))).next z8
        clear z8
        have q2 := G2.2.1
        have r2 := G2.2.2
        go_wp2_with fail
        refine (H6.out _).mono ?_
        rintro e w9 ⟨rfl, z9⟩
        have I9 := hid (I.next z9)
        clear q2 r2 G2 I z9
        go_wp2
        go_roundw
        case rel => first | exact ⟨2, by omega, by first | rfl | go_num, I9⟩ | ((repeat apply Exists.intro); exact ⟨⟨2, by omega, by first | rfl | go_num, I9⟩, rfl⟩)
        case measure => simp [intOf]
    · have hk2 : k = 2 := by omega
      subst hk2
      have hmem := mem_hs ha'.out x
      generalize memB a x = m at hmem ⊢
      obtain ⟨U, hU⟩ : ∃ U : Tn, U = (a.1 <<< N, a.2 <<< N) := ⟨_, rfl⟩
      obtain ⟨D, hD⟩ : ∃ D : Tn, D = (a.1 >>> N, a.2 >>> N) := ⟨_, rfl⟩
      obtain ⟨K, hK⟩ : ∃ K : Tn, K = (U.1 >>> N, U.2 >>> N) := ⟨_, rfl⟩
      have hUm : tmay U = true := by rw [hU]; exact up_may ha'.out N
      have hUh : Hs U (m <<< N) := by rw [hU]; exact up_hs hmem N
      have hDm : tmay D = true := by rw [hD]; exact shr_may ha'.out N
      have hDh : Hs D (m >>> N) := by rw [hD]; exact shr_hs hmem N
      have hKm : tmay K = true := by rw [hK]; exact shr_may hUm N
      have hKh : Hs K (m <<< N >>> N) := by rw [hK]; exact shr_hs hUh N
      have hf1 : ((cntU D.2 64 : Nat) : Int) ≤ ((cntU a.2 64 : Nat) : Int) := by rw [hD]; exact Int.ofNat_le.2 (cnt_shr _ _)
      have hf2 : ((cntU U.2 64 : Nat) : Int) ≤ ((cntU a.2 64 : Nat) : Int) := by rw [hU]; exact Int.ofNat_le.2 (cnt_shl _ _)
      have C1 := fun W => tLsh_any a (N : Int) W
      rw [show shT a (fun x => x <<< (N : Int).toNat) (N : Int) 64 = U by rw [hU]; exact (sh_yes ha'.out (fun x => x <<< (N : Int).toNat) hN0 hNb).1, show shE a (N : Int) 64 = 0 from (sh_yes ha'.out (fun x => x) hN0 hNb).2] at C1
      have C2 := fun W => tRsh_any a (N : Int) W
      rw [show shT a (fun x => x >>> (N : Int).toNat) (N : Int) 64 = D by rw [hD]; exact (sh_yes ha'.out (fun x => x >>> (N : Int).toNat) hN0 hNb).1, show shE a (N : Int) 64 = 0 from (sh_yes ha'.out (fun x => x) hN0 hNb).2] at C2
      have C3 := fun W => tRsh_any U (N : Int) W
      rw [show shT U (fun x => x >>> (N : Int).toNat) (N : Int) 64 = K by rw [hK]; exact (sh_yes hUm (fun x => x >>> (N : Int).toNat) hN0 hNb).1, show shE U (N : Int) 64 = 0 from (sh_yes hUm (fun x => x) hN0 hNb).2] at C3
      have hwb : (IntKind.u64.wrap (N : Int)).toNat = N := by rw [IntKind.wrap_u64]; omega
      have HWB := hid hwb
      have HWA := hid (show min (IntKind.u64.wrap (N : Int)).toNat 64 = N by rw [hwb]; omega)
      clear hwb
      have C4 := fun W => tHas_any U (m <<< N) W
      rw [hs_has2 hUm hUh] at C4
      have C5 := fun W => tHas_any D (m >>> N) W
      rw [hs_has2 hDm hDh] at C5
      have C6 := fun W => tHas_any K (m <<< N >>> N) W
      rw [hs_has2 hKm hKh] at C6
      have C7 := fun W => tFree_any D W
      rw [hDm] at C7
      have C8 := fun W => tFree_any a W
      rw [ha'.out] at C8
      have C9 := fun W => tFree_any U W
      rw [hUm] at C9
      simp only [if_true] at C7 C8 C9
      clear hU hD hK hUm hUh hDm hDh hKm hKh hmem
      generalize ((cntU D.2 64 : Nat) : Int) = f1 at *
      generalize ((cntU a.2 64 : Nat) : Int) = f0 at *
      generalize ((cntU U.2 64 : Nat) : Int) = f2 at *
      unfold tv at C1 C2 C3 C4 C5 C6 C7 C8 C9
      have H1 := hid C1
      have H2 := hid C2
      have H3 := hid C3
      have H4 := hid C4
      have H5 := hid C5
      have H6 := hid C6
      have H7 := hid C7
      have H8 := hid C8
      have H9 := hid C9
      clear C1 C2 C3 C4 C5 C6 C7 C8 C9
      have I := HI.out
      have p0 := I.ca.1
      have q0 := I.ca.2.1
      have r0 := I.ca.2.2
      go_wp2_with fail
      refine (H1.out _).mono ?_
      rintro e w4 ⟨rfl, z4⟩
      clear p0 q0 r0 HI
      replace I := I.next z4
      clear z4
      have p0 := I.ca.1
      have q0 := I.ca.2.1
      have r0 := I.ca.2.2
      go_wp2_with fail
      refine (H2.out _).mono ?_
      rintro e w5 ⟨rfl, z5⟩
      clear p0 q0 r0
      have G1 : TC w5 w4.heap.size U := (TC.new rfl).below z5
      replace I := (I.next ((Below.refl _ _).alloc (Nat.le_refl _) (.cells #[.int .u64 (ub U.1), .int .u64 (ub U.2)] 24))).next z5
      clear z5
      have p1 := G1.1
      have q1 := G1.2.1
      have r1 := G1.2.2
      go_wp2_with fail
      refine (H3.out _).mono ?_
      rintro e w6 ⟨rfl, z6⟩
      clear p1 q1 r1
      replace G1 := (G1.alloc (.cells #[.int .u64 (ub D.1), .int .u64 (ub D.2)] 24)).below z6
      have G2 : TC w6 w5.heap.size D := (TC.new rfl).below z6
      replace I := (I.next ((Below.refl _ _).alloc (Nat.le_refl _) (.cells #[.int .u64 (ub D.1), .int .u64 (ub D.2)] 24))).next z6
      clear z6
      go_wp2_with fail
      replace G1 := G1.alloc (.cells #[.int .u64 (ub K.1), .int .u64 (ub K.2)] 24)
      replace G2 := G2.alloc (.cells #[.int .u64 (ub K.1), .int .u64 (ub K.2)] 24)
      have G3 : TC (w6.alloc (.cells #[.int .u64 (ub K.1), .int .u64 (ub K.2)] 24)) w6.heap.size K := TC.new rfl
      have RR := hid (I.next ((Below.refl _ _).alloc (Nat.le_refl _) (.cells #[.int .u64 (ub K.1), .int .u64 (ub K.2)] 24)))
      clear I
      generalize w6.alloc (.cells #[.int .u64 (ub K.1), .int .u64 (ub K.2)] 24) = wv at RR G1 G2 G3 ⊢
      generalize w4.heap.size = g1 at G1 ⊢
      generalize w5.heap.size = g2 at G2 ⊢
      generalize w6.heap.size = g3 at G3 ⊢
      have q0 := RR.out.ca.2.1
      have r0 := RR.out.ca.2.2
      have q1 := G1.2.1
      have r1 := G1.2.2
      have q2 := G2.2.1
      have r2 := G2.2.2
      have q3 := G3.2.1
      have r3 := G3.2.2
      clear G1 G2 G3
      go_region_held3 (fun w' => w'.cell? ⟨w.heap.size, 0, none⟩ = some (.int .u64 (ub a.1)) ∧ w'.cell? ⟨w.heap.size, 1, none⟩ = some (.int .u64 (ub a.2)) ∧ w'.cell? ⟨g1, 0, none⟩ = some (.int .u64 (ub U.1)) ∧ w'.cell? ⟨g1, 1, none⟩ = some (.int .u64 (ub U.2)) ∧ w'.cell? ⟨g2, 0, none⟩ = some (.int .u64 (ub D.1)) ∧ w'.cell? ⟨g2, 1, none⟩ = some (.int .u64 (ub D.2)) ∧ w'.cell? ⟨g3, 0, none⟩ = some (.int .u64 (ub K.1)) ∧ w'.cell? ⟨g3, 1, none⟩ = some (.int .u64 (ub K.2)) ∧ Below wv.heap.size wv w')
        (first | (go_split_ands; exact ⟨cn bq (by assumption), cn bq (by assumption), cn bq (by assumption), cn bq (by assumption), cn bq (by assumption), cn bq (by assumption), cn bq (by assumption), cn bq (by assumption), below_next (by assumption) bq⟩) | exact ⟨cn (below_dr wv) q0, cn (below_dr wv) r0, cn (below_dr wv) q1, cn (below_dr wv) r1, cn (below_dr wv) q2, cn (below_dr wv) r2, cn (below_dr wv) q3, cn (below_dr wv) r3, below_dr wv⟩)
        (first | (go_at_call 21; go_split_ands; (first | simp only [HWA.out] | simp only [HWB.out] | skip); (with_reducible refine (H4.out _).mono ?_); rintro e wq ⟨rfl, bq⟩) | (go_at_call 21; go_split_ands; (first | simp only [HWA.out] | simp only [HWB.out] | skip); (with_reducible refine (H5.out _).mono ?_); rintro e wq ⟨rfl, bq⟩) | (go_at_call 21; go_split_ands; (first | simp only [HWA.out] | simp only [HWB.out] | skip); (with_reducible refine (H6.out _).mono ?_); rintro e wq ⟨rfl, bq⟩) | (go_at_call 25; go_split_ands; (with_reducible refine (H7.out _).mono ?_); rintro e wq ⟨rfl, bq⟩) | (go_at_call 25; go_split_ands; (with_reducible refine (H8.out _).mono ?_); rintro e wq ⟨rfl, bq⟩) | (go_at_call 25; go_split_ands; (with_reducible refine (H9.out _).mono ?_); rintro e wq ⟨rfl, bq⟩))
      go_split_ands
      obtain ⟨wn, rfl⟩ : ∃ X : World, X = wq := ⟨_, rfl⟩
      have HW := hid (RR.out.next (show Below wv.heap.size wv wn by assumption)).bel
      clear RR q0 r0 q1 r1 q2 r2 q3 r3
      go_wp2
      go_ret
      exact ⟨rfl, HW.out⟩
theorem moves_walk (a : Tn) (x : B64) (n : Int) (w : World) (hn0 : -9223372036854775808 ≤ n) (hn1 : n < 9223372036854775808) : Calls Try.prog 11 #[tv a, .int .u64 (ub x), .int .i64 n] w fun e w' => e = .returned (.bool true) ∧ Below w.heap.size w w' := by
  cases ha : tmay a
  · exact moves_a a x n w ha
  · exact moves_b a x n w hn0 hn1 ha
end Go.Proofs.Ytbinbjfpjielkaa
