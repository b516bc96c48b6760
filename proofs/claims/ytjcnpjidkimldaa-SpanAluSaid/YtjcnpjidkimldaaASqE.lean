/-
  Contract of the document's shifted: shifts with the sign.
-/
import Derived.Test.YtjcnpjidkimldaaASqD
namespace Go.Proofs.Ytjcnpjidkimldaa
set_option linter.unusedSimpArgs false
set_option linter.unusedVariables false
set_option maxRecDepth 100000
set_option maxRecDepth 100000
open Go.ChangeShapes Go.WideShapes Go.ChangeAt Go.RowKit Sq
set_option maxHeartbeats 16000000 in
theorem qShift12 (c : Bool) (a : Tn) (C D : Nat) (w : World) (hcd : C ≤ D) (hd : D < sizeW c) :
    Calls Try.prog 27 #[.int .i64 12, tv a, .int .i64 (C : Int), .int .i64 (D : Int), .int .i64 (szI c)] w fun e w' =>
      e = .returned (tv (shF (fun k => [drB (1#64 <<< (sizeW c - 1)) a.1 k, drB (1#64 <<< (sizeW c - 1)) a.2 k] ++ (if a.1.toNat < (1#64 <<< (sizeW c - 1)).toNat ∧ (1#64 <<< (sizeW c - 1)).toNat ≤ a.2.toNat then [drB (1#64 <<< (sizeW c - 1)) ((1#64 <<< (sizeW c - 1)) - 1#64) k, drB (1#64 <<< (sizeW c - 1)) (1#64 <<< (sizeW c - 1)) k] else [])) (topW c) C (D - C + 1))) ∧ Below w.heap.size w w' := by
  have h64 := sizeW_le c
  have HT := fun W => qTop_any (sizeW c) W (by omega)
  rw [show (1#64 <<< sizeW c - 1#64 : B64) = topW c by cases c <;> decide, ← sz_nat] at HT
  have HP := hid fun (k : Nat) (hk : k ≤ 64) W => qPower_any k W hk
  have HH := fun W => qPower_any (sizeW c - 1) W (by omega)
  have hs1 : wrap64 (szI c - 1) = ((sizeW c - 1 : Nat) : Int) := by unfold wrap64 szI sizeW; cases c <;> simp
  have HDr := hid fun (x : B64) (k : Nat) (hk : k ≤ 64) W => qDrawn_any c x k W hk
  have HX := hid fun (x y T : B64) W => qTimes_any x y T W
  obtain ⟨F, hF⟩ : ∃ F : Nat → List B64, F = fun k => [drB (1#64 <<< (sizeW c - 1)) a.1 k, drB (1#64 <<< (sizeW c - 1)) a.2 k] ++ (if a.1.toNat < (1#64 <<< (sizeW c - 1)).toNat ∧ (1#64 <<< (sizeW c - 1)).toNat ≤ a.2.toNat then [drB (1#64 <<< (sizeW c - 1)) ((1#64 <<< (sizeW c - 1)) - 1#64) k, drB (1#64 <<< (sizeW c - 1)) (1#64 <<< (sizeW c - 1)) k] else []) := ⟨_, rfl⟩
  rw [← hF]
  have hF' := hid hF
  clear hF
  obtain ⟨R, hR⟩ : ∃ R, R = shF F (topW c) C (D - C + 1) := ⟨_, rfl⟩
  rw [← hR]
  have hR' := hid hR
  clear hR
  have hd64 : D < 64 := by omega
  have hZ : Hid (shF F (topW c) C 0 = (topW c, 0#64)) := hid rfl
  generalize topW c = T at *
  generalize szI c = SZ at *
  generalize 1#64 <<< (sizeW c - 1) = HF at *
  generalize ((sizeW c - 1 : Nat) : Int) = S1 at *
  replace HT := hid HT
  replace HH := hid HH
  obtain ⟨w2, hw2⟩ : ∃ w2 : World, w2 = ((w.alloc (.cells #[.int .u64 (ub a.1), .int .u64 (ub a.2)] 24)).alloc (.cells #[.int .u64 0, .int .u64 0] 24)) := ⟨_, rfl⟩
  have A0 : TC w2 w.heap.size a ∧ TB w2 (w.heap.size + 1) t0 ∧ Below w.heap.size w w2 ∧ w2.heap.size = w.heap.size + 1 + 1 := by
    rw [hw2]
    have b1 : Below w.heap.size w (w.alloc (.cells #[.int .u64 (ub a.1), .int .u64 (ub a.2)] 24)) := (Below.refl _ _).alloc (Nat.le_refl _) _
    exact ⟨(TC.new rfl).alloc _, TB.new (a := t0) (by simp), b1.alloc (by simp) _, by simp⟩
  have Z0 : ∀ W', Below w2.heap.size w2 W' → W'.heap.size = w2.heap.size → ZI w a (shF F T C 0) (W'.alloc (.cells #[.int .u64 (ub T), .int .u64 0] 24)) := by
    intro W' hb hs
    rw [hZ.out]
    obtain ⟨a1, a2, a3, a4⟩ := A0
    exact ⟨(a1.below hb).alloc _, (a2.below hb).below ((Below.refl _ _).alloc (Nat.le_refl _) _), TB.new (a := (T, 0#64)) (by show w.heap.size + 1 + 1 = W'.heap.size; omega), (a3.trans (hb.mono (by omega))).alloc (by omega) _⟩
  have A1 := hid A0
  have hw2' := hid hw2
  clear A0 hw2
  have I1 := hid Z0
  clear Z0
  unfold tv
  clear h64 hd
  go_enter Try.func27, Try.ntmps27
  go_wp2_with fail
  refine (HT.out _).mono ?_
  rintro e w_ ⟨rfl, rfl⟩
  go_wp2_with fail
  go_quiet (fail)

  go_wp2_with fail
  refine (HH.out _).mono ?_
  rintro e w_ ⟨rfl, rfl⟩
  go_wp2_with fail
  go_loopw [14] (fun k wr => ∃ j : Nat, C + j ≤ D + 1 ∧ k = .int .i64 ((C + j : Nat) : Int) ∧ Hid (ZI w a (shF F T C j) wr)) (fun k _ => (D + 1 - (intOf k)).toNat)
  case atStart => exact ⟨0, by omega, rfl, hid (by have h := I1.out; rw [hw2'.out] at h; exact h _ (below_drewN _ _ _) rfl)⟩
  case round =>
    clear I1
    obtain ⟨j, hj, rfl, I0⟩ := hrel
    obtain ⟨wo, rfl⟩ : ∃ wo : World, wo = wr := ⟨_, rfl⟩
    by_cases hlt : C + j ≤ D
    · have hlt' : ((C + j : Nat) : Int) ≤ D := by omega
      have hk64 : C + j ≤ 64 := by omega
      have HFk := hid (show F (C + j) = [drB HF a.1 (C + j), drB HF a.2 (C + j)] ++ (if a.1.toNat < HF.toNat ∧ HF.toNat ≤ a.2.toNat then [drB HF (HF - 1#64) (C + j), drB HF HF (C + j)] else []) by rw [hF'.out])
      have HD1 := hid fun W => (HDr.out a.1 (C + j) hk64 W).mono fun e w' h => (⟨h.1, by rw [h.2]; exact Below.refl _ _⟩ : e = .returned (.int .u64 (ub (drB HF a.1 (C + j)))) ∧ Below W.heap.size W w')
      have HD2 := hid fun W => (HDr.out a.2 (C + j) hk64 W).mono fun e w' h => (⟨h.1, by rw [h.2]; exact Below.refl _ _⟩ : e = .returned (.int .u64 (ub (drB HF a.2 (C + j)))) ∧ Below W.heap.size W w')
      have HD3 := hid fun W => HDr.out (HF - 1#64) (C + j) hk64 W
      have HD4 := hid fun W => HDr.out HF (C + j) hk64 W
      clear HDr HP HX
      generalize drB HF a.1 (C + j) = D1 at *
      generalize drB HF a.2 (C + j) = D2 at *
      generalize drB HF (HF - 1#64) (C + j) = D3 at *
      generalize drB HF HF (C + j) = D4 at *
      have HNX : Hid (shF F T C (j + 1) = (F (C + j)).foldl mm (shF F T C j)) := hid rfl
      have wk : wrap64 (((C + j : Nat) : Int) + 1) = ((C + (j + 1) : Nat) : Int) := by unfold wrap64; omega
      have WK := hid wk
      clear wk
      have KN : Hid (((C + j : Nat) : Int) + 1 = ((C + (j + 1) : Nat) : Int)) := hid (by omega)
      generalize ((C + j : Nat) : Int) = KI at *
      have HZO : Hid (w.heap.size + 1 + 1 < wo.heap.size) := hid I0.out.out.1.1
      have q1 := I0.out.ca.2.1
      have q2 := I0.out.ca.2.2
      go_wp2_with fail
      refine wp_region_held_drew (S := (fun w' : World => Below wo.heap.size wo w')) (by kernel_rfl) ?_ (fun hHeld => ?_)
      · (try dsimp only); first | (with_reducible exact below_dr _) | (with_reducible exact Below.refl _ _) | exact below_dr _
      have hBk := below_dr wo
      refine tq 0 rfl (fun _ hS => by go_simp; try with_reducible rfl) ?_
      try simp only [s1, s2, s3]
      refine tq 1 rfl (fun _ hS => by go_simp; try with_reducible rfl) ?_
      try simp only [s1, s2, s3]
      refine tq 2 rfl (fun _ hS => by have c0 := cn hS q1; go_simp; try with_reducible rfl) ?_
      try simp only [s1, s2, s3]
      refine tq 3 rfl (fun _ hS => by go_simp; try with_reducible rfl) ?_
      try simp only [s1, s2, s3]
      refine tq 4 rfl (fun _ hS => by go_simp; try with_reducible rfl) ?_
      try simp only [s1, s2, s3]
      refine tq 6 rfl (fun _ hS => by go_simp; try with_reducible rfl) ?_
      try simp only [s1, s2, s3]
      refine tq 7 rfl (fun _ hS => by have c0 := cn hS q2; go_simp; try with_reducible rfl) ?_
      try simp only [s1, s2, s3]
      refine tq 8 rfl (fun _ hS => by go_simp; try with_reducible rfl) ?_
      try simp only [s1, s2, s3]
      refine tq 9 rfl (fun _ hS => by go_simp; try with_reducible rfl) ?_
      try simp only [s1, s2, s3]
      refine wpAnyH_ready (rs := [5]) (by kernel_rfl) (by simp) ?_
      refine AllReadyH.cons rfl (fun K hK => ?_) AllReadyH.nil
      go_simp
      go_at_call 56
      refine (HD1.out _).mono ?_
      rintro e wr1 ⟨rfl, bkr1⟩
      have hBn := below_next hBk bkr1
      clear hBk bkr1
      have hBk := hBn
      clear hBn
      try go_simp
      refine hK.out _ _ ?_ (fun hHeld => ?_)
      · (try dsimp only); exact hBk
      clear hK K
      (try simp only [Act.put, List.setIfInBounds_toArray, List.set_cons_zero, List.set_cons_succ])
      refine wpAnyH_ready (rs := [10]) (by kernel_rfl) (by simp) ?_
      refine AllReadyH.cons rfl (fun K hK => ?_) AllReadyH.nil
      go_simp
      go_at_call 56
      refine (HD2.out _).mono ?_
      rintro e wr2 ⟨rfl, bkr2⟩
      have hBn := below_next hBk bkr2
      clear hBk bkr2
      have hBk := hBn
      clear hBn
      try go_simp
      refine hK.out _ _ ?_ (fun hHeld => ?_)
      · (try dsimp only); exact hBk
      clear hK K
      (try simp only [Act.put, List.setIfInBounds_toArray, List.set_cons_zero, List.set_cons_succ])
      refine wpAnyH_ready (rs := [11]) (by kernel_rfl) (by simp) ?_
      refine AllReadyH.cons rfl (fun K hK => ?_) AllReadyH.nil
      go_simp
      refine hK.out _ _ ?_ (fun hHeld => ?_)
      · (try dsimp only); exact hBk.alloc hBk.size _
      clear hK K
      (try simp only [Act.put, List.setIfInBounds_toArray, List.set_cons_zero, List.set_cons_succ])
      refine wpAnyH_ready (rs := [12]) (by kernel_rfl) (by simp) ?_
      refine AllReadyH.cons rfl (fun K hK => ?_) AllReadyH.nil
      refine step_u rfl (.tmp 42) (.tmp 53) rfl wo wr2 (.slice none 0 0) [] _ _ (by exact rfl) (OwnU.nil _ _ (by assumption)) _ (by exact rfl) rfl (by decide) ?_
      intro v1 wv hown
      refine hK.out _ _ ?_ (fun hHeld => ?_)
      · exact hown.2
      clear hK K
      (try simp only [Act.put, List.setIfInBounds_toArray, List.set_cons_zero, List.set_cons_succ])
      refine tq 13 rfl (fun _ hS => by go_simp; try with_reducible rfl) ?_
      try simp only [s1, s2, s3]
      refine wpAnyH_done (by kernel_rfl) ?_ _
      have IW := I0.out.next hown.2
      have p1 := IW.ca.2.1
      have p2 := IW.ca.2.2
      clear hHeld q1 q2 IW
      have q1 := p1
      have q2 := p2
      by_cases h1 : ub a.1 < ub HF
      · by_cases h2 : ub HF ≤ ub a.2
        · have HFk' := hid (show F (C + j) = [D1, D2] ++ [D3, D4] by rw [HFk.out, if_pos (by unfold ub at h1 h2; omega)])
          clear HFk
          have HFk := HFk'
          clear HFk'
          go_wp2_with fail
          refine (HD3.out _).mono ?_
          rintro e w_ ⟨rfl, hw_⟩
          subst w_
          go_wp2_with fail
          refine (HD4.out _).mono ?_
          rintro e w_ ⟨rfl, hw_⟩
          subst w_
          go_wp2_with (at_builtin; refine append_u rfl (.tmp 65) (.tmp 75) rfl wo wv _ ([] ++ [D1, D2]) _ _ (by exact rfl) hown _ (by exact rfl) rfl (by simp) ?_; intro v2 wv2 own2)
          have own2' : OwnU wo wv2 v2 ([D1, D2] ++ [D3, D4]) := own2
          clear hown p1 p2 q1 q2 own2
          have hown := own2'
          clear own2'
          have q1 := trivial
          have q2 := trivial
          obtain ⟨g, cap, rfl, hcap, HLU⟩ := own_lu hown (by simp)
          obtain ⟨L, hL⟩ : ∃ L : List B64, L = ([D1, D2] ++ [D3, D4]) := ⟨_, rfl⟩
          rw [← hL] at HLU hcap ⊢
          have hlen : L.length = 4 := by rw [hL]; rfl
          have I2 := hid (show ZI w a ((L.take 0).foldl mm (shF F T C j)) wv2 from (I0.out.next hown.2))
          have HL := hid HLU
          have hL' := hid hL
          clear hL hown HLU I0 q1 q2
          have hgo : ¬ w.heap.size + 1 + 1 = g := by
            have h1 := HL.out.ge
            have h2 := I2.out.out.1.1
            intro e
            have h3 := HZO.out
            omega
          generalize shF F T C j = S0 at *
          go_wp2_with fail
          go_loopw [16] (fun i wi => ∃ n : Nat, n ≤ 4 ∧ i = .int .i64 (n : Int) ∧ Hid (ZI w a ((L.take n).foldl mm S0) wi) ∧ Hid (LU wo g L wi)) (fun i _ => 4 - (intOf i).toNat)
          case atStart => exact ⟨0, by omega, rfl, I2, HL⟩
          case round =>
            clear I2 HL
            obtain ⟨n, hn, rfl, I2, HL⟩ := hrel
            by_cases hnl : n < 4
            · have hnl' : (n : Int) < 4 := by omega
              have hn0 : (0 : Int) ≤ n := by omega
              have lt : n < L.length := by omega
              have TU := take_up L S0 n lt
              have c0 := HL.out.at_ n lt
              obtain ⟨X, hX⟩ : ∃ X : B64, L[n] = X := ⟨_, rfl⟩
              have HX1 := hid hX
              rw [hX] at TU c0
              clear hX
              replace TU := hid TU
              generalize (L.take n).foldl mm S0 = S at *
              obtain ⟨⟨_, c1, c2⟩, f1, f2⟩ := I2.out.out
              go_wp2_with fail
              go_region
              go_wp2_with fail
              have I3 := hid ((I2.out.put1 (bmin S.1 X)).next (below_dr _))
              have HL3 := hid ((HL.out.other hgo 0 (.int .u64 (ub (bmin S.1 X)))).below (below_dr _))
              clear I2 HL c0 c1 c2 f1 f2
              generalize (wr.setCell ⟨w.heap.size + 1 + 1, 0, none⟩ (.int .u64 (ub (bmin S.1 X)))).drew = wx at *
              have c0 := HL3.out.at_ n lt
              have hx : L[n] = X := HX1.out
              rw [hx] at c0
              obtain ⟨⟨_, c1, c2⟩, f1, f2⟩ := I3.out.out
              dsimp only at c1 c2
              go_region
              go_wp2_with fail
              have I4 := hid ((I3.out.put2 (bmax S.2 X)).next (below_dr _))
              have HL4 := hid ((HL3.out.other hgo 1 (.int .u64 (ub (bmax S.2 X)))).below (below_dr _))
              clear I3 HL3 c0 c1 c2 f1 f2
              refine ⟨⟨n + 1, by omega, by go_num, hid (by rw [TU.out]; exact I4.out), HL4⟩, by simp [intOf]; omega⟩
            · have hnl' : ¬ (n : Int) < 4 := by omega
              obtain rfl : n = 4 := by omega
              go_wp2_with fail
              refine ⟨⟨j + 1, by omega, by rw [WK.out], hid ?_⟩, by rw [WK.out, ← KN.out]; simp only [intOf]; omega⟩
              rw [HNX.out, HFk.out]
              have e : L.take 4 = ([D1, D2] ++ [D3, D4]) := by rw [hL'.out]; rfl
              have I5 := I2.out
              rw [e] at I5
              exact I5
        · have HFk' := hid (show F (C + j) = [D1, D2] by rw [HFk.out, if_neg (by unfold ub at h1 h2; omega)]; rfl)
          clear HFk
          have HFk := HFk'
          clear HFk'
          go_wp2_with fail
          replace hown : OwnU wo wv v1 [D1, D2] := hown
          obtain ⟨g, cap, rfl, hcap, HLU⟩ := own_lu hown (by simp)
          obtain ⟨L, hL⟩ : ∃ L : List B64, L = [D1, D2] := ⟨_, rfl⟩
          rw [← hL] at HLU hcap ⊢
          have hlen : L.length = 2 := by rw [hL]; rfl
          have I2 := hid (show ZI w a ((L.take 0).foldl mm (shF F T C j)) wv from (I0.out.next hown.2))
          have HL := hid HLU
          have hL' := hid hL
          clear hL hown HLU I0 q1 q2
          have hgo : ¬ w.heap.size + 1 + 1 = g := by
            have h1 := HL.out.ge
            have h2 := I2.out.out.1.1
            intro e
            have h3 := HZO.out
            omega
          generalize shF F T C j = S0 at *
          go_wp2_with fail
          go_loopw [16] (fun i wi => ∃ n : Nat, n ≤ 2 ∧ i = .int .i64 (n : Int) ∧ Hid (ZI w a ((L.take n).foldl mm S0) wi) ∧ Hid (LU wo g L wi)) (fun i _ => 2 - (intOf i).toNat)
          case atStart => exact ⟨0, by omega, rfl, I2, HL⟩
          case round =>
            clear I2 HL
            obtain ⟨n, hn, rfl, I2, HL⟩ := hrel
            by_cases hnl : n < 2
            · have hnl' : (n : Int) < 2 := by omega
              have hn0 : (0 : Int) ≤ n := by omega
              have lt : n < L.length := by omega
              have TU := take_up L S0 n lt
              have c0 := HL.out.at_ n lt
              obtain ⟨X, hX⟩ : ∃ X : B64, L[n] = X := ⟨_, rfl⟩
              have HX1 := hid hX
              rw [hX] at TU c0
              clear hX
              replace TU := hid TU
              generalize (L.take n).foldl mm S0 = S at *
              obtain ⟨⟨_, c1, c2⟩, f1, f2⟩ := I2.out.out
              go_wp2_with fail
              go_region
              go_wp2_with fail
              have I3 := hid ((I2.out.put1 (bmin S.1 X)).next (below_dr _))
              have HL3 := hid ((HL.out.other hgo 0 (.int .u64 (ub (bmin S.1 X)))).below (below_dr _))
              clear I2 HL c0 c1 c2 f1 f2
              generalize (wr.setCell ⟨w.heap.size + 1 + 1, 0, none⟩ (.int .u64 (ub (bmin S.1 X)))).drew = wx at *
              have c0 := HL3.out.at_ n lt
              have hx : L[n] = X := HX1.out
              rw [hx] at c0
              obtain ⟨⟨_, c1, c2⟩, f1, f2⟩ := I3.out.out
              dsimp only at c1 c2
              go_region
              go_wp2_with fail
              have I4 := hid ((I3.out.put2 (bmax S.2 X)).next (below_dr _))
              have HL4 := hid ((HL3.out.other hgo 1 (.int .u64 (ub (bmax S.2 X)))).below (below_dr _))
              clear I3 HL3 c0 c1 c2 f1 f2
              refine ⟨⟨n + 1, by omega, by go_num, hid (by rw [TU.out]; exact I4.out), HL4⟩, by simp [intOf]; omega⟩
            · have hnl' : ¬ (n : Int) < 2 := by omega
              obtain rfl : n = 2 := by omega
              go_wp2_with fail
              refine ⟨⟨j + 1, by omega, by rw [WK.out], hid ?_⟩, by rw [WK.out, ← KN.out]; simp only [intOf]; omega⟩
              rw [HNX.out, HFk.out]
              have e : L.take 2 = [D1, D2] := by rw [hL'.out]; rfl
              have I5 := I2.out
              rw [e] at I5
              exact I5
      · have HFk' := hid (show F (C + j) = [D1, D2] by rw [HFk.out, if_neg (by unfold ub at h1; omega)]; rfl)
        clear HFk
        have HFk := HFk'
        clear HFk'
        go_wp2_with fail
        replace hown : OwnU wo wv v1 [D1, D2] := hown
        obtain ⟨g, cap, rfl, hcap, HLU⟩ := own_lu hown (by simp)
        obtain ⟨L, hL⟩ : ∃ L : List B64, L = [D1, D2] := ⟨_, rfl⟩
        rw [← hL] at HLU hcap ⊢
        have hlen : L.length = 2 := by rw [hL]; rfl
        have I2 := hid (show ZI w a ((L.take 0).foldl mm (shF F T C j)) wv from (I0.out.next hown.2))
        have HL := hid HLU
        have hL' := hid hL
        clear hL hown HLU I0 q1 q2
        have hgo : ¬ w.heap.size + 1 + 1 = g := by
          have h1 := HL.out.ge
          have h2 := I2.out.out.1.1
          intro e
          have h3 := HZO.out
          omega
        generalize shF F T C j = S0 at *
        go_wp2_with fail
        go_loopw [16] (fun i wi => ∃ n : Nat, n ≤ 2 ∧ i = .int .i64 (n : Int) ∧ Hid (ZI w a ((L.take n).foldl mm S0) wi) ∧ Hid (LU wo g L wi)) (fun i _ => 2 - (intOf i).toNat)
        case atStart => exact ⟨0, by omega, rfl, I2, HL⟩
        case round =>
          clear I2 HL
          obtain ⟨n, hn, rfl, I2, HL⟩ := hrel
          by_cases hnl : n < 2
          · have hnl' : (n : Int) < 2 := by omega
            have hn0 : (0 : Int) ≤ n := by omega
            have lt : n < L.length := by omega
            have TU := take_up L S0 n lt
            have c0 := HL.out.at_ n lt
            obtain ⟨X, hX⟩ : ∃ X : B64, L[n] = X := ⟨_, rfl⟩
            have HX1 := hid hX
            rw [hX] at TU c0
            clear hX
            replace TU := hid TU
            generalize (L.take n).foldl mm S0 = S at *
            obtain ⟨⟨_, c1, c2⟩, f1, f2⟩ := I2.out.out
            go_wp2_with fail
            go_region
            go_wp2_with fail
            have I3 := hid ((I2.out.put1 (bmin S.1 X)).next (below_dr _))
            have HL3 := hid ((HL.out.other hgo 0 (.int .u64 (ub (bmin S.1 X)))).below (below_dr _))
            clear I2 HL c0 c1 c2 f1 f2
            generalize (wr.setCell ⟨w.heap.size + 1 + 1, 0, none⟩ (.int .u64 (ub (bmin S.1 X)))).drew = wx at *
            have c0 := HL3.out.at_ n lt
            have hx : L[n] = X := HX1.out
            rw [hx] at c0
            obtain ⟨⟨_, c1, c2⟩, f1, f2⟩ := I3.out.out
            dsimp only at c1 c2
            go_region
            go_wp2_with fail
            have I4 := hid ((I3.out.put2 (bmax S.2 X)).next (below_dr _))
            have HL4 := hid ((HL3.out.other hgo 1 (.int .u64 (ub (bmax S.2 X)))).below (below_dr _))
            clear I3 HL3 c0 c1 c2 f1 f2
            refine ⟨⟨n + 1, by omega, by go_num, hid (by rw [TU.out]; exact I4.out), HL4⟩, by simp [intOf]; omega⟩
          · have hnl' : ¬ (n : Int) < 2 := by omega
            obtain rfl : n = 2 := by omega
            go_wp2_with fail
            refine ⟨⟨j + 1, by omega, by rw [WK.out], hid ?_⟩, by rw [WK.out, ← KN.out]; simp only [intOf]; omega⟩
            rw [HNX.out, HFk.out]
            have e : L.take 2 = [D1, D2] := by rw [hL'.out]; rfl
            have I5 := I2.out
            rw [e] at I5
            exact I5
    · have hlt' : ¬ ((C + j : Nat) : Int) ≤ D := by omega
      obtain rfl : j = D - C + 1 := by omega
      have HR2 := hR'.out
      rw [← HR2] at I0
      have r1 := I0.out.out.1.2.1
      have r2 := I0.out.out.1.2.2
      have r0 := I0.out.out.1.1
      have s0 := I0.out.res.1.1
      have f1 := I0.out.res.2.1
      have f2 := I0.out.res.2.2
      have s1 := I0.out.res.1.2.1
      have s2 := I0.out.res.1.2.2
      clear HR2
      go_wp2_with fail
      exact bodyPost_ret (v := .agg #[.int .u64 (ub R.1), .int .u64 (ub R.2)]) (by simp [results, Try.results27, go_sem, r1, r2, r0, s0, s1, s2, f1, f2]; try rfl) rfl ⟨rfl, (I0.out.bel.setCell (by simp) _).setCell (by simp) _⟩

end Go.Proofs.Ytjcnpjidkimldaa
