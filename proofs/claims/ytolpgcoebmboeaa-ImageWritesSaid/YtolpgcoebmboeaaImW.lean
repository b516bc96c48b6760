/-
  ImageWrites: the law's walk.
-/
import Derived.Test.YtolpgcoebmboeaaImE
import Derived.Test.YtolpgcoebmboeaaImR
import Derived.Test.YtolpgcoebmboeaaImU
namespace Go.Proofs.Ytolpgcoebmboeaa
set_option linter.unusedSimpArgs false
set_option linter.unusedVariables false
open Go.ChangeShapes Go.WideShapes Go.ChangeAt Go.RowKit

theorem num_fl {n m : Nat} (h : n ≤ 1000 ∧ m ≤ 100000) : 3 + 4 * n + 8 * m < 4611686018427387904 := by omega
theorem num_fp {n m : Nat} : 0 < 3 + 4 * n + 8 * m := by omega
theorem ImS.up {w w' : World} {pm pc : Option Addr} {l : List M4} {c : List I5} (h : ImS w.heap.size w pm l pc c) (hb : Below w.heap.size w w') : ImS w'.heap.size w' pm l pc c := (h.kept hb (Nat.le_refl _)).wide hb.size
set_option maxHeartbeats 3200000 in
set_option maxRecDepth 20000 in
theorem imageWrites_walk (pm pc : Option Addr) (cm cc : Nat) (l : List M4) (c : List I5) (w : World) (hS : ImS w.heap.size w pm l pc c) :
    Calls Try.prog 3 #[.agg #[.slice pm l.length cm, .slice pc c.length cc]] w fun e w' => e = .returned (.bool true) ∧ Below w.heap.size w w' := by
  have hB := (Below.refl w.heap.size w).alloc (Nat.le_refl _) (.cells #[.slice pm l.length cm, .slice pc c.length cc] 25)
  have k0 : (w.alloc (.cells #[.slice pm l.length cm, .slice pc c.length cc] 25)).cell? ⟨w.heap.size, 0, none⟩ = some (.slice pm l.length cm) := by simp
  have k1 : (w.alloc (.cells #[.slice pm l.length cm, .slice pc c.length cc] 25)).cell? ⟨w.heap.size, 1, none⟩ = some (.slice pc c.length cc) := by simp
  have HS0 := hid (hS.up hB)
  have HOK := hid hS.c.2.1
  have HWK := hid wakes_any
  have HB := hid hB
  clear hB hS
  go_enter Try.func3, Try.ntmps3
  go_wp2_with fail
  generalize w.alloc (.cells #[.slice pm l.length cm, .slice pc c.length cc] 25) = W0 at *
  refine (large_any pm pc cm cc l.length c.length W0).mono ?_
  rintro e w1 ⟨rfl, b1⟩
  replace k0 := cn b1 k0
  replace k1 := cn b1 k1
  replace HS0 := hid (HS0.out.up b1)
  have HB1 := hid (HB.out.trans (b1.mono HB.out.size))
  clear b1 HB
  cases hlg : (decide (100 < l.length) || decide (2000 < c.length))
  rotate_left
  · go_wp2_with fail
    refine (HWK.out _).mono ?_
    rintro e w2 ⟨rfl, b2⟩
    go_wp2
    go_ret
    exact ⟨rfl, below_next HB1.out b2⟩
  have HSM := hid (sm_of hlg)
  clear hlg
  go_wp2_with fail
  refine (rCopy_any pm pc cm cc w1.heap.size l c w1 (Nat.le_refl _) HS0.out HSM.out.1 HSM.out.2).mono ?_
  rintro e w2 ⟨pm', cm', pc', cc', rfl, S2, b2⟩
  have bx := (Below.refl w2.heap.size w2).alloc (Nat.le_refl _) (.cells #[.slice pm' l.length cm', .slice pc' c.length cc'] 25)
  have j0 : (w2.alloc (.cells #[.slice pm' l.length cm', .slice pc' c.length cc'] 25)).cell? ⟨w2.heap.size, 0, none⟩ = some (.slice pm' l.length cm') := by simp
  have j1 : (w2.alloc (.cells #[.slice pm' l.length cm', .slice pc' c.length cc'] 25)).cell? ⟨w2.heap.size, 1, none⟩ = some (.slice pc' c.length cc') := by simp
  have b12 := below_next b2 bx
  have HS1 := hid (HS0.out.up b12)
  have HS2 := hid (S2.up bx)
  have HB2 := hid (below_next HB1.out b12)
  replace k0 := cn b12 k0
  replace k1 := cn b12 k1
  clear b2 bx S2 b12 HS0 HB1
  go_wp2_with fail
  generalize w2.alloc (.cells #[.slice pm' l.length cm', .slice pc' c.length cc'] 25) = W2 at *
  go_loopw [4] (fun i wr => ∃ k : Nat, k ≤ 2 ∧ i = .int .i64 k ∧ Hid (Below W2.heap.size W2 wr)) (fun i _ => 2 - (intOf i).toNat)
  case atStart => exact ⟨0, by decide, rfl, hid (Below.refl _ _)⟩
  case round =>
    obtain ⟨k, hk, rfl, HR⟩ := hrel
    obtain ⟨wo, hwo⟩ : ∃ wo : World, wo = wr := ⟨_, rfl⟩
    subst hwo
    have x0 := cn HR.out k0
    have x1 := cn HR.out k1
    have z0 := cn HR.out j0
    have z1 := cn HR.out j1
    have S1 := hid (HS1.out.up HR.out)
    have S2 := hid (HS2.out.up HR.out)
    by_cases hlt : k < 2
    · have hli : (k : Int) < 2 := by omega
      have HE := hid (cEncode_any pm' pc' cm' cc' l c wo S2.out.m S2.out.c)
      go_wp2_with fail
      refine HE.out.mono ?_
      clear HE
      rintro e wa h
      rcases h with ⟨hE, v, rfl, O⟩ | ⟨hE, rfl, ba⟩
      · have hY := By.form hE HOK.out
        obtain ⟨pa, ca, rfl, hca, La⟩ := own_by O.own hY
        have ba := O.bel
        have HO := hid O
        have HLa := hid La
        have HHE := hid hE
        have HHY := hid hY
        replace x0 := cn ba x0
        replace x1 := cn ba x1
        replace z0 := cn ba z0
        replace z1 := cn ba z1
        have S1a := hid (S1.out.up ba)
        have S2a := hid (S2.out.up ba)
        have HBA := hid ba
        clear O La hE hY hca ba S1 S2
        go_wp2_with fail
        have HF := hid (rEncode_any pm pc cm cc l c wa S1a.out.m S1a.out.c)
        refine HF.out.mono ?_
        clear HF
        rintro e wb h
        obtain ⟨_, v, rfl, O2⟩ := h.resolve_right (fun h => h.1 HHE.out)
        obtain ⟨pb, cb, rfl, _, Lb⟩ := own_by O2.own HHY.out
        have bb := O2.bel
        have HLb := hid Lb
        have HLa2 := hid (by_kept HLa.out (Nat.le_refl _) bb)
        replace x0 := cn bb x0
        replace x1 := cn bb x1
        replace z0 := cn bb z0
        replace z1 := cn bb z1
        have S1b := hid (S1a.out.up bb)
        have S2b := hid (S2a.out.up bb)
        have HBB := hid bb
        clear Lb bb h O2 S1a S2a HLa
        have hln := form_len l c
        have HFN := hid (num_fl HSM.out)
        have HFP := hid (num_fp (n := l.length) (m := c.length))
        generalize formB l c = zs at *
        generalize 3 + 4 * l.length + 8 * c.length = n at *
        subst hln
        go_wp2_with fail
        refine (same_any pa pb ca cb wb.heap.size zs zs wb (Nat.le_refl _) HFN.out HLa2.out HLb.out).mono ?_
        rw [show decide (zs = zs) = true from decide_eq_true rfl]
        rintro e wc ⟨rfl, bc⟩
        replace x0 := cn bc x0
        replace x1 := cn bc x1
        replace z0 := cn bc z0
        replace z1 := cn bc z1
        have S1c := hid (S1b.out.up bc)
        have S2c := hid (S2b.out.up bc)
        have HBC := hid (below_next HBB.out bc)
        clear bc HBB S1b S2b
        go_wp2_with fail
        refine (rSame_any pm' pc' pm pc cm' cc' cm cc wc.heap.size l l c c wc (Nat.le_refl _) S2c.out S1c.out).mono ?_
        rw [show (decide (l = l) && decide (c = c)) = true by rw [decide_eq_true rfl, decide_eq_true rfl]; rfl]
        rintro e wd ⟨rfl, bd⟩
        have HBD := hid (below_next HBC.out bd)
        clear bd HBC S1c S2c x0 x1 z0 z1
        obtain ⟨g, hpo, hg0, hg1⟩ : ∃ g, pa = some ⟨g, 0, none⟩ ∧ wo.heap.size ≤ g ∧ g < wa.heap.size := by
          obtain ⟨p', c', e, _, hx⟩ := own_slice HO.out.own
          injection e with e1 e2 e3
          obtain ⟨g, e4, h1, h2, _⟩ := hx.resolve_left (Nat.ne_of_gt HFP.out)
          exact ⟨g, e1.trans e4, h1, h2⟩
        subst hpo
        have HW6 := hid ((wrB_own HO.out.own).kept hg1 HBD.out)
        have HG := hid (And.intro hg0 hg1)
        have HBE := hid (HR.out.trans ((HBA.out.trans (HBD.out.mono HBA.out.size)).mono HR.out.size))
        have hfn := HFN.out
        clear hg0 hg1 HO HBA HBD HLa2 HLb HHE HHY
        go_wp2
        go_loopw [9] (fun i wr => ∃ j : Nat, j ≤ zs.length ∧ i = .int .i64 j ∧ Hid (But g wd wr) ∧ Hid (WrB g zs.length wr)) (fun i _ => zs.length - (intOf i).toNat)
        case atStart => exact ⟨0, Nat.zero_le _, rfl, hid (But.refl _ _), HW6⟩
        case round =>
          obtain ⟨j, hj, rfl, HBT, HW⟩ := hrel
          by_cases hlt2 : j < zs.length
          · have hli2 : (j : Int) < (zs.length : Int) := Int.ofNat_lt.2 hlt2
            have hl0 : 0 ≤ (j : Int) := Int.natCast_nonneg j
            obtain ⟨u, hu⟩ := HW.out.c j hlt2
            have hf := HW.out.f j
            go_wp2
            go_roundw
            case rel => exact ⟨j + 1, Nat.succ_le_of_lt hlt2, by go_num, hid (HBT.out.put j _), hid (HW.out.put j _)⟩
            case measure => simp [intOf]; omega
          · obtain rfl : j = zs.length := Nat.le_antisymm hj (Nat.le_of_not_lt hlt2)
            have HZ := hid (HBE.out.trans (HBT.out.below (Nat.le_trans HR.out.size HG.out.1) HBE.out.size))
            clear hlt2
            go_wp2
            go_roundw
            case rel => exact ⟨k + 1, by omega, by go_num, HZ⟩
            case measure => simp [intOf]; omega
      · have HHE := hid hE
        replace x0 := cn ba x0
        replace x1 := cn ba x1
        replace z0 := cn ba z0
        replace z1 := cn ba z1
        have S1a := hid (S1.out.up ba)
        have S2a := hid (S2.out.up ba)
        have HBA := hid ba
        clear hE ba S1 S2
        go_wp2_with fail
        have HF := hid (rEncode_any pm pc cm cc l c wa S1a.out.m S1a.out.c)
        refine HF.out.mono ?_
        clear HF
        rintro e wb h
        obtain ⟨_, rfl, bb⟩ := h.resolve_left (fun h => HHE.out h.1)
        replace x0 := cn bb x0
        replace x1 := cn bb x1
        replace z0 := cn bb z0
        replace z1 := cn bb z1
        have S1b := hid (S1a.out.up bb)
        have S2b := hid (S2a.out.up bb)
        have HBB := hid bb
        clear bb h S1a S2a HHE
        generalize encE l c = ee at *
        go_wp2_with fail
        refine (same_any none none 0 0 wb.heap.size [] [] wb (Nat.le_refl _) (by decide) ⟨rfl, (fun z h => by cases h), .inl rfl⟩ ⟨rfl, (fun z h => by cases h), .inl rfl⟩).mono ?_
        rw [show decide (([] : List Int) = []) = true from decide_eq_true rfl]
        rintro e wc ⟨rfl, bc⟩
        replace x0 := cn bc x0
        replace x1 := cn bc x1
        replace z0 := cn bc z0
        replace z1 := cn bc z1
        have S1c := hid (S1b.out.up bc)
        have S2c := hid (S2b.out.up bc)
        have HBC := hid (below_next HBB.out bc)
        clear bc HBB S1b S2b
        go_wp2_with fail
        refine (rSame_any pm' pc' pm pc cm' cc' cm cc wc.heap.size l l c c wc (Nat.le_refl _) S2c.out S1c.out).mono ?_
        rw [show (decide (l = l) && decide (c = c)) = true by rw [decide_eq_true rfl, decide_eq_true rfl]; rfl]
        rintro e wd ⟨rfl, bd⟩
        have HBD := hid (below_next HBC.out bd)
        have HBE := hid (HR.out.trans ((HBA.out.trans (HBD.out.mono HBA.out.size)).mono HR.out.size))
        clear bd HBC S1c S2c x0 x1 z0 z1 HBA HBD
        go_wp2
        refine wp_loop_rounds 1 ?_
        rw [rounds_succ]
        go_wp2
        go_roundw
        case rel => exact ⟨k + 1, by omega, by go_num, HBE⟩
        case measure => simp [intOf]; omega
    · obtain rfl : k = 2 := by omega
      clear hlt
      go_wp2_with fail
      refine (HWK.out _).mono ?_
      rintro e w9 ⟨rfl, b9⟩
      go_wp2
      go_ret
      exact ⟨rfl, below_next (HB2.out.trans (HR.out.mono HB2.out.size)) b9⟩
end Go.Proofs.Ytolpgcoebmboeaa
