/-
  ImageBack: the law's walk.
-/
import Derived.Test.YtolpgcoebmboeaaImR
import Derived.Test.YtolpgcoebmboeaaImQ
import Derived.Test.YtolpgcoebmboeaaImU
namespace Go.Proofs.Ytolpgcoebmboeaa
set_option linter.unusedSimpArgs false
set_option linter.unusedVariables false
open Go.ChangeShapes Go.WideShapes Go.ChangeAt Go.RowKit

theorem num_fl2 {n m : Nat} (h : n ≤ 1000 ∧ m ≤ 100000) : 3 + 4 * n + 8 * m < 4611686018427387904 := by omega
theorem num_fp2 {n m : Nat} : 0 < 3 + 4 * n + 8 * m := by omega
theorem ims_up {w w' : World} {pm pc : Option Addr} {l : List M4} {c : List I5} (h : ImS w.heap.size w pm l pc c) (hb : Below w.heap.size w w') : ImS w'.heap.size w' pm l pc c := (h.kept hb (Nat.le_refl _)).wide hb.size
theorem enp_any {w : World} {l : List M4} {c : List I5} {e : Ending} {w' : World} (h : EnP w l c e w') : ∃ v k, e = .returned (.tuple #[v, .int .i64 k]) ∧ Below w.heap.size w w' := by
  rcases h with ⟨_, v, h, O⟩ | ⟨_, h, b⟩
  · exact ⟨v, 0, h, O.bel⟩
  · exact ⟨_, _, h, b⟩
theorem dLC_form {l : List M4} {c : List I5} (h : encE l c = 0) (hc : CdOk c) : dL (formB l c) = l ∧ dC (formB l c) = c ∧ decE (formB l c) = 0 := by
  obtain ⟨h1, h2, h3⟩ := dec_form h hc
  unfold dL dC
  rw [if_pos h1, if_pos h1]
  exact ⟨h2, h3, h1⟩
theorem dLC_dec {zs : List Int} (hb : By zs) (h : decE zs = 0) : encE (dL zs) (dC zs) = 0 ∧ formB (dL zs) (dC zs) = zs ∧ CdOk (dC zs) := by
  unfold dL dC
  rw [if_pos h, if_pos h]
  exact form_dec hb h
theorem alike_eq {l l' : List M4} {c c' : List I5} (h : encE l c = 0) (h' : encE l' c' = 0) (hc : CdOk c) (hc' : CdOk c') : (decide (l = l') && decide (c = c')) = decide (formB l c = formB l' c') := by
  by_cases e : formB l c = formB l' c'
  · obtain ⟨e1, e2⟩ := form_inj h h' hc hc' e
    rw [decide_eq_true e, decide_eq_true e1, decide_eq_true e2]
    rfl
  · rw [decide_eq_false e]
    by_cases e1 : l = l'
    · by_cases e2 : c = c'
      · exact absurd (by rw [e1, e2]) e
      · rw [decide_eq_false e2, Bool.and_false]
    · rw [decide_eq_false e1]
      rfl
set_option maxHeartbeats 3200000 in
set_option maxRecDepth 20000 in
theorem imageBack_walk (pm pc pm' pc' pl : Option Addr) (cm cc cm' cc' cl : Nat) (l l' : List M4) (c c' : List I5) (ls : List Int) (w : World) (h1 : ImS w.heap.size w pm l pc c) (h2 : ImS w.heap.size w pm' l' pc' c')
    (hL : ByL w.heap.size w pl ls.length ls) (hcl : ls.length ≤ cl) (h9 : ls.length < 4611686018427387904) :
    Calls Try.prog 6 #[.agg #[.slice pm l.length cm, .slice pc c.length cc], .agg #[.slice pm' l'.length cm', .slice pc' c'.length cc'], .slice pl ls.length cl] w fun e w' => e = .returned (.bool true) ∧ Below w.heap.size w w' := by
  have hB : Below w.heap.size w ((w.alloc (.cells #[.slice pm l.length cm, .slice pc c.length cc] 25)).alloc (.cells #[.slice pm' l'.length cm', .slice pc' c'.length cc'] 25)) := ((Below.refl w.heap.size w).alloc (Nat.le_refl _) _).alloc (by simp) _
  have k0 : ((w.alloc (.cells #[.slice pm l.length cm, .slice pc c.length cc] 25)).alloc (.cells #[.slice pm' l'.length cm', .slice pc' c'.length cc'] 25)).cell? ⟨w.heap.size, 0, none⟩ = some (.slice pm l.length cm) := by simp
  have k1 : ((w.alloc (.cells #[.slice pm l.length cm, .slice pc c.length cc] 25)).alloc (.cells #[.slice pm' l'.length cm', .slice pc' c'.length cc'] 25)).cell? ⟨w.heap.size, 1, none⟩ = some (.slice pc c.length cc) := by simp
  have k2 : ((w.alloc (.cells #[.slice pm l.length cm, .slice pc c.length cc] 25)).alloc (.cells #[.slice pm' l'.length cm', .slice pc' c'.length cc'] 25)).cell? ⟨w.heap.size + 1, 0, none⟩ = some (.slice pm' l'.length cm') := by simp
  have k3 : ((w.alloc (.cells #[.slice pm l.length cm, .slice pc c.length cc] 25)).alloc (.cells #[.slice pm' l'.length cm', .slice pc' c'.length cc'] 25)).cell? ⟨w.heap.size + 1, 1, none⟩ = some (.slice pc' c'.length cc') := by simp
  have HS1 := hid (ims_up h1 hB)
  have HS2 := hid (ims_up h2 hB)
  have HL := hid (by_kept hL (Nat.le_refl _) hB)
  have HK1 := hid h1.c.2.1
  have HK2 := hid h2.c.2.1
  have HCL := hid hcl
  have HWK := hid wakes_any
  have HB := hid hB
  clear hB h1 h2 hL hcl
  by_cases h7 : ls.length ≤ 70000
  rotate_left
  · have d7 : decide (70000 < (ls.length : Int)) = true := decide_eq_true (by omega)
    clear h7 h9
    go_enter Try.func6, Try.ntmps6
    go_wp2_with fail
    refine (large_any pm pc cm cc l.length c.length _).mono ?_
    rintro e w1 ⟨rfl, b1⟩
    have HB1 := hid (HB.out.trans (b1.mono HB.out.size))
    replace k2 := cn b1 k2
    replace k3 := cn b1 k3
    clear b1
    cases (decide (100 < l.length) || decide (2000 < c.length))
    rotate_left
    · go_wp2_with fail
      refine (HWK.out _).mono ?_
      rintro e w2 ⟨rfl, b2⟩
      go_wp2
      go_ret
      exact ⟨rfl, below_next HB1.out b2⟩

    go_wp2_with fail
    refine (large_any pm' pc' cm' cc' l'.length c'.length _).mono ?_
    rintro e w2 ⟨rfl, b2⟩
    have HB2 := hid (below_next HB1.out b2)
    clear b2
    cases (decide (100 < l'.length) || decide (2000 < c'.length))
    rotate_left
    · go_wp2_with fail
      refine (HWK.out _).mono ?_
      rintro e w2 ⟨rfl, b2⟩
      go_wp2
      go_ret
      exact ⟨rfl, below_next HB2.out b2⟩

    go_wp2_with fail
    refine (HWK.out _).mono ?_
    rintro e w3 ⟨rfl, b3⟩
    go_wp2
    go_ret
    exact ⟨rfl, below_next HB2.out b3⟩
  have d7 : decide (70000 < (ls.length : Int)) = false := decide_eq_false (by omega)
  have H7 := hid h7
  clear h7 h9
  go_enter Try.func6, Try.ntmps6
  go_wp2_with fail
  generalize (w.alloc (.cells #[.slice pm l.length cm, .slice pc c.length cc] 25)).alloc (.cells #[.slice pm' l'.length cm', .slice pc' c'.length cc'] 25) = W0 at *
  refine (large_any pm pc cm cc l.length c.length W0).mono ?_
  rintro e w1 ⟨rfl, b1⟩
  replace k0 := cn b1 k0
  replace k1 := cn b1 k1
  replace k2 := cn b1 k2
  replace k3 := cn b1 k3
  replace HS1 := hid (ims_up HS1.out b1)
  replace HS2 := hid (ims_up HS2.out b1)
  replace HL := hid (by_kept HL.out (Nat.le_refl _) b1)
  have HB1 := hid (HB.out.trans (b1.mono HB.out.size))
  clear b1 HB
  cases hlg : (decide (100 < l.length) || decide (2000 < c.length))
  rotate_left
  · go_wp2_with fail
    refine (HWK.out _).mono ?_
    rintro e w2 ⟨rfl, b2⟩
    go_wp2
    go_ret
    exact ⟨rfl, below_next HB1.out b2⟩
  have HSM := hid (sm_of hlg)
  clear hlg
  go_wp2_with fail
  refine (large_any pm' pc' cm' cc' l'.length c'.length w1).mono ?_
  rintro e w2 ⟨rfl, b1⟩
  replace k0 := cn b1 k0
  replace k1 := cn b1 k1
  replace k2 := cn b1 k2
  replace k3 := cn b1 k3
  replace HS1 := hid (ims_up HS1.out b1)
  replace HS2 := hid (ims_up HS2.out b1)
  replace HL := hid (by_kept HL.out (Nat.le_refl _) b1)
  have HB2 := hid (below_next HB1.out b1)
  clear b1 HB1
  cases hlg : (decide (100 < l'.length) || decide (2000 < c'.length))
  rotate_left
  · go_wp2_with fail
    refine (HWK.out _).mono ?_
    rintro e w2 ⟨rfl, b2⟩
    go_wp2
    go_ret
    exact ⟨rfl, below_next HB2.out b2⟩
  have HSM2 := hid (sm_of hlg)
  clear hlg
  go_wp2_with fail
  refine (cEncode_any pm pc cm cc l c w2 HS1.out.m HS1.out.c).mono ?_
  rintro e w3 h
  rcases h with ⟨hE, va, rfl, O⟩ | ⟨hE, rfl, b3⟩
  rotate_left
  · have d1 : (encE l c == 0) = false := by simpa using hE
    replace k2 := cn b3 k2
    replace k3 := cn b3 k3
    replace HS2 := hid (ims_up HS2.out b3)
    replace HL := hid (by_kept HL.out (Nat.le_refl _) b3)
    have HB3 := hid (below_next HB2.out b3)
    clear b3 HB2 hE
    generalize encE l c = ke at *
    go_wp2_with fail
    refine (cEncode_any pm' pc' cm' cc' l' c' w3 HS2.out.m HS2.out.c).mono ?_
    rintro e w4 h
    obtain ⟨vb, kb, rfl, b4⟩ := enp_any h
    replace HL := hid (by_kept HL.out (Nat.le_refl _) b4)
    have HB4 := hid (below_next HB3.out b4)
    clear b4 h HB3
    have HLt := HL
    have HBt := HB4
    go_wp2_with fail
    refine (cDecode_any pl cl ls w4 HLt.out HCL.out (num_r1 H7.out)).mono ?_
    rintro e v ⟨pm5, cm5, pc5, cc5, rfl, S5, b5, _, _⟩
    have bx5 := (Below.refl v.heap.size v).alloc (Nat.le_refl _) (.cells #[.slice pm5 (dL ls).length cm5, .slice pc5 (dC ls).length cc5] 25)
    have y0 : (v.alloc (.cells #[.slice pm5 (dL ls).length cm5, .slice pc5 (dC ls).length cc5] 25)).cell? ⟨v.heap.size, 0, none⟩ = some (.slice pm5 (dL ls).length cm5) := by simp
    have y1 : (v.alloc (.cells #[.slice pm5 (dL ls).length cm5, .slice pc5 (dC ls).length cc5] 25)).cell? ⟨v.heap.size, 1, none⟩ = some (.slice pc5 (dC ls).length cc5) := by simp
    have SV := hid (ims_up S5 bx5)
    have HLv := hid (by_kept HLt.out (Nat.le_refl _) (below_next b5 bx5))
    have HBv := hid (below_next HBt.out (below_next b5 bx5))
    clear S5 b5 bx5 HLt HBt
    by_cases hd : decE ls = 0
    · obtain ⟨e1, e2, e3⟩ := dLC_dec HLv.out.2.1 hd
      have hn : 3 + 4 * (dL ls).length + 8 * (dC ls).length = ls.length := by rw [← form_len, e2]
      have E1 := hid e1
      have E2 := hid e2
      have EN := hid hn
      have d9 : (decE ls != 0) = false := by rw [hd]; rfl
      clear e1 e2 e3 hn hd
      generalize decE ls = kk at *
      go_wp2_with fail
      generalize v.alloc (.cells #[.slice pm5 (dL ls).length cm5, .slice pc5 (dC ls).length cc5] 25) = v2 at *
      refine (cEncode_any pm5 pc5 cm5 cc5 (dL ls) (dC ls) v2 SV.out.m SV.out.c).mono ?_
      rintro e v3 h
      obtain ⟨_, z, rfl, O⟩ := h.resolve_right (fun h => h.1 E1.out)
      rw [E2.out, EN.out] at O
      obtain ⟨pz, cz, rfl, _, Lz⟩ := own_by O.own HLv.out.2.1
      have HLz := hid Lz
      have HLv3 := hid (by_kept HLv.out (Nat.le_refl _) O.bel)
      have HBv3 := hid (below_next HBv.out O.bel)
      clear O h Lz HLv HBv
      go_wp2_with fail
      refine (same_any pz pl cz cl v3.heap.size ls ls v3 (Nat.le_refl _) (num_r1 H7.out) HLz.out HLv3.out).mono ?_
      rw [show decide (ls = ls) = true from decide_eq_true rfl]
      rintro e v4 ⟨rfl, b4⟩
      go_wp2_with fail
      refine (HWK.out _).mono ?_
      rintro e v5 ⟨rfl, b5⟩
      go_wp2
      go_ret
      exact ⟨rfl, below_next HBv3.out (below_next b4 b5)⟩
    · have d9 : (decE ls != 0) = true := by simpa using hd
      obtain ⟨e1, e2⟩ := dec_lens ls hd
      simp only [e1, e2, List.length_nil] at y0 y1 HBv ⊢
      have qv : v.heap.size < (v.alloc (.cells #[.slice pm5 0 cm5, .slice pc5 0 cc5] 25)).heap.size := by simp
      clear SV HLv
      clear e1 e2 hd
      generalize decE ls = kk at *
      go_wp2_with fail
      refine (HWK.out _).mono ?_
      rintro e v5 ⟨rfl, b5⟩
      go_wp2
      go_ret
      exact ⟨rfl, below_next HBv.out b5⟩

  have hY := By.form hE HK1.out
  obtain ⟨pa, ca, rfl, hca, La⟩ := own_by O.own hY
  have HLA := hid La
  have HCA := hid hca
  have HEA := hid hE
  have HYA := hid hY
  have b3 := O.bel
  replace k0 := cn b3 k0
  replace k1 := cn b3 k1
  replace k2 := cn b3 k2
  replace k3 := cn b3 k3
  replace HS1 := hid (ims_up HS1.out b3)
  replace HS2 := hid (ims_up HS2.out b3)
  replace HL := hid (by_kept HL.out (Nat.le_refl _) b3)
  have HB3 := hid (below_next HB2.out b3)
  clear b3 HB2 O La hca hE hY
  have hlnA := form_len l c
  have HFN := hid (num_fl2 HSM.out)
  have HFP := hid (num_fp2 (n := l.length) (m := c.length))
  obtain ⟨hdl, hdc, hde⟩ := dLC_form HEA.out HK1.out
  have HDL := hid hdl
  have HDC := hid hdc
  have HDE := hid hde
  have HAL := hid (fun (h : encE l' c' = 0) => alike_eq HEA.out h HK1.out HK2.out)
  clear hdl hdc hde
  generalize formB l c = xs at *
  generalize 3 + 4 * l.length + 8 * c.length = na at *
  subst hlnA
  go_wp2_with fail
  refine (cEncode_any pm' pc' cm' cc' l' c' w3 HS2.out.m HS2.out.c).mono ?_
  rintro e w4 h
  rcases h with ⟨hE, vb, rfl, O⟩ | ⟨hE, rfl, b4⟩
  rotate_left
  · have d2 : (encE l' c' == 0) = false := by simpa using hE
    replace k0 := cn b4 k0
    replace k1 := cn b4 k1
    replace k2 := cn b4 k2
    replace k3 := cn b4 k3
    replace HS1 := hid (ims_up HS1.out b4)
    replace HS2 := hid (ims_up HS2.out b4)
    replace HL := hid (by_kept HL.out (Nat.le_refl _) b4)
    replace HLA := hid (by_kept HLA.out (Nat.le_refl _) b4)
    have HB4 := hid (below_next HB3.out b4)
    clear b4 HB3 hE
    generalize encE l' c' = kf at *
    go_wp2_with fail
    refine (cDecode_any pa ca xs w4 HLA.out HCA.out HFN.out).mono ?_
    rintro e w5 ⟨pm6, cm6, pc6, cc6, rfl, S6, b6, _, _⟩
    rw [HDL.out, HDC.out, HDE.out]
    rw [HDL.out, HDC.out] at S6
    have bx6 := (Below.refl w5.heap.size w5).alloc (Nat.le_refl _) (.cells #[.slice pm6 l.length cm6, .slice pc6 c.length cc6] 25)
    have g0 : (w5.alloc (.cells #[.slice pm6 l.length cm6, .slice pc6 c.length cc6] 25)).cell? ⟨w5.heap.size, 0, none⟩ = some (.slice pm6 l.length cm6) := by simp
    have g1 : (w5.alloc (.cells #[.slice pm6 l.length cm6, .slice pc6 c.length cc6] 25)).cell? ⟨w5.heap.size, 1, none⟩ = some (.slice pc6 c.length cc6) := by simp
    have S6x := hid (ims_up S6 bx6)
    have b56 := below_next b6 bx6
    replace k0 := cn b56 k0
    replace k1 := cn b56 k1
    replace k2 := cn b56 k2
    replace k3 := cn b56 k3
    replace HS1 := hid (ims_up HS1.out b56)
    replace HS2 := hid (ims_up HS2.out b56)
    replace HL := hid (by_kept HL.out (Nat.le_refl _) b56)
    replace HLA := hid (by_kept HLA.out (Nat.le_refl _) b56)
    have HB5 := hid (below_next HB4.out b56)
    clear b56 b6 bx6 S6 HB4
    go_wp2_with fail
    generalize w5.alloc (.cells #[.slice pm6 l.length cm6, .slice pc6 c.length cc6] 25) = w6 at *
    refine (cSame_any pm6 pc6 pm pc cm6 cc6 cm cc w6.heap.size l l c c w6 (Nat.le_refl _) S6x.out HS1.out).mono ?_
    rw [show (decide (l = l) && decide (c = c)) = true by rw [decide_eq_true rfl, decide_eq_true rfl]; rfl]
    rintro e w7 ⟨rfl, b7⟩
    replace k0 := cn b7 k0
    replace k1 := cn b7 k1
    replace k2 := cn b7 k2
    replace k3 := cn b7 k3
    replace HS1 := hid (ims_up HS1.out b7)
    replace HS2 := hid (ims_up HS2.out b7)
    replace HL := hid (by_kept HL.out (Nat.le_refl _) b7)
    replace HLA := hid (by_kept HLA.out (Nat.le_refl _) b7)
    have HB7 := hid (below_next HB5.out b7)
    clear b7 HB5 S6x g0 g1
    have HLt := HL
    have HBt := HB7
    go_wp2_with fail
    refine (cDecode_any pl cl ls w7 HLt.out HCL.out (num_r1 H7.out)).mono ?_
    rintro e v ⟨pm5, cm5, pc5, cc5, rfl, S5, b5, _, _⟩
    have bx5 := (Below.refl v.heap.size v).alloc (Nat.le_refl _) (.cells #[.slice pm5 (dL ls).length cm5, .slice pc5 (dC ls).length cc5] 25)
    have y0 : (v.alloc (.cells #[.slice pm5 (dL ls).length cm5, .slice pc5 (dC ls).length cc5] 25)).cell? ⟨v.heap.size, 0, none⟩ = some (.slice pm5 (dL ls).length cm5) := by simp
    have y1 : (v.alloc (.cells #[.slice pm5 (dL ls).length cm5, .slice pc5 (dC ls).length cc5] 25)).cell? ⟨v.heap.size, 1, none⟩ = some (.slice pc5 (dC ls).length cc5) := by simp
    have SV := hid (ims_up S5 bx5)
    have HLv := hid (by_kept HLt.out (Nat.le_refl _) (below_next b5 bx5))
    have HBv := hid (below_next HBt.out (below_next b5 bx5))
    clear S5 b5 bx5 HLt HBt
    by_cases hd : decE ls = 0
    · obtain ⟨e1, e2, e3⟩ := dLC_dec HLv.out.2.1 hd
      have hn : 3 + 4 * (dL ls).length + 8 * (dC ls).length = ls.length := by rw [← form_len, e2]
      have E1 := hid e1
      have E2 := hid e2
      have EN := hid hn
      have d9 : (decE ls != 0) = false := by rw [hd]; rfl
      clear e1 e2 e3 hn hd
      generalize decE ls = kk at *
      go_wp2_with fail
      generalize v.alloc (.cells #[.slice pm5 (dL ls).length cm5, .slice pc5 (dC ls).length cc5] 25) = v2 at *
      refine (cEncode_any pm5 pc5 cm5 cc5 (dL ls) (dC ls) v2 SV.out.m SV.out.c).mono ?_
      rintro e v3 h
      obtain ⟨_, z, rfl, O⟩ := h.resolve_right (fun h => h.1 E1.out)
      rw [E2.out, EN.out] at O
      obtain ⟨pz, cz, rfl, _, Lz⟩ := own_by O.own HLv.out.2.1
      have HLz := hid Lz
      have HLv3 := hid (by_kept HLv.out (Nat.le_refl _) O.bel)
      have HBv3 := hid (below_next HBv.out O.bel)
      clear O h Lz HLv HBv
      go_wp2_with fail
      refine (same_any pz pl cz cl v3.heap.size ls ls v3 (Nat.le_refl _) (num_r1 H7.out) HLz.out HLv3.out).mono ?_
      rw [show decide (ls = ls) = true from decide_eq_true rfl]
      rintro e v4 ⟨rfl, b4⟩
      go_wp2_with fail
      refine (HWK.out _).mono ?_
      rintro e v5 ⟨rfl, b5⟩
      go_wp2
      go_ret
      exact ⟨rfl, below_next HBv3.out (below_next b4 b5)⟩
    · have d9 : (decE ls != 0) = true := by simpa using hd
      obtain ⟨e1, e2⟩ := dec_lens ls hd
      simp only [e1, e2, List.length_nil] at y0 y1 HBv ⊢
      have qv : v.heap.size < (v.alloc (.cells #[.slice pm5 0 cm5, .slice pc5 0 cc5] 25)).heap.size := by simp
      clear SV HLv
      clear e1 e2 hd
      generalize decE ls = kk at *
      go_wp2_with fail
      refine (HWK.out _).mono ?_
      rintro e v5 ⟨rfl, b5⟩
      go_wp2
      go_ret
      exact ⟨rfl, below_next HBv.out b5⟩

  have hY := By.form hE HK2.out
  obtain ⟨pb, cb, rfl, hcb, Lb⟩ := own_by O.own hY
  have HLB := hid Lb
  have HCB := hid hcb
  have HDB := hid (dLC_form hE HK2.out).2.2
  have HALK := hid (HAL.out hE)
  have b4 := O.bel
  replace k0 := cn b4 k0
  replace k1 := cn b4 k1
  replace k2 := cn b4 k2
  replace k3 := cn b4 k3
  replace HS1 := hid (ims_up HS1.out b4)
  replace HS2 := hid (ims_up HS2.out b4)
  replace HL := hid (by_kept HL.out (Nat.le_refl _) b4)
  replace HLA := hid (by_kept HLA.out (Nat.le_refl _) b4)
  have HB4 := hid (below_next HB3.out b4)
  clear b4 HB3 O Lb hcb hE hY HAL
  have hlnB := form_len l' c'
  have HGN := hid (num_fl2 HSM2.out)
  have HGP := hid (num_fp2 (n := l'.length) (m := c'.length))
  generalize formB l' c' = ys at *
  generalize 3 + 4 * l'.length + 8 * c'.length = nb at *
  subst hlnB
  go_wp2_with fail
  refine (cDecode_any pa ca xs w4 HLA.out HCA.out HFN.out).mono ?_
  rintro e w5 ⟨pm6, cm6, pc6, cc6, rfl, S6, b6, _, _⟩
  rw [HDL.out, HDC.out, HDE.out]
  rw [HDL.out, HDC.out] at S6
  have bx6 := (Below.refl w5.heap.size w5).alloc (Nat.le_refl _) (.cells #[.slice pm6 l.length cm6, .slice pc6 c.length cc6] 25)
  have g0 : (w5.alloc (.cells #[.slice pm6 l.length cm6, .slice pc6 c.length cc6] 25)).cell? ⟨w5.heap.size, 0, none⟩ = some (.slice pm6 l.length cm6) := by simp
  have g1 : (w5.alloc (.cells #[.slice pm6 l.length cm6, .slice pc6 c.length cc6] 25)).cell? ⟨w5.heap.size, 1, none⟩ = some (.slice pc6 c.length cc6) := by simp
  have S6x := hid (ims_up S6 bx6)
  have b56 := below_next b6 bx6
  replace k0 := cn b56 k0
  replace k1 := cn b56 k1
  replace k2 := cn b56 k2
  replace k3 := cn b56 k3
  replace HS1 := hid (ims_up HS1.out b56)
  replace HS2 := hid (ims_up HS2.out b56)
  replace HL := hid (by_kept HL.out (Nat.le_refl _) b56)
  replace HLA := hid (by_kept HLA.out (Nat.le_refl _) b56)
  replace HLB := hid (by_kept HLB.out (Nat.le_refl _) b56)
  have HB5 := hid (below_next HB4.out b56)
  clear b56 b6 bx6 S6 HB4
  go_wp2_with fail
  generalize w5.alloc (.cells #[.slice pm6 l.length cm6, .slice pc6 c.length cc6] 25) = w6 at *
  refine (cSame_any pm6 pc6 pm pc cm6 cc6 cm cc w6.heap.size l l c c w6 (Nat.le_refl _) S6x.out HS1.out).mono ?_
  rw [show (decide (l = l) && decide (c = c)) = true by rw [decide_eq_true rfl, decide_eq_true rfl]; rfl]
  rintro e w7 ⟨rfl, b7⟩
  replace k0 := cn b7 k0
  replace k1 := cn b7 k1
  replace k2 := cn b7 k2
  replace k3 := cn b7 k3
  replace HS1 := hid (ims_up HS1.out b7)
  replace HS2 := hid (ims_up HS2.out b7)
  replace HL := hid (by_kept HL.out (Nat.le_refl _) b7)
  replace HLA := hid (by_kept HLA.out (Nat.le_refl _) b7)
  replace HLB := hid (by_kept HLB.out (Nat.le_refl _) b7)
  have HB7 := hid (below_next HB5.out b7)
  clear b7 HB5 S6x g0 g1
  go_wp2_with fail
  refine (same_any pa pb ca cb w7.heap.size xs ys w7 (Nat.le_refl _) HFN.out HLA.out HLB.out).mono ?_
  rintro e w8 ⟨rfl, b8⟩
  replace k0 := cn b8 k0
  replace k1 := cn b8 k1
  replace k2 := cn b8 k2
  replace k3 := cn b8 k3
  replace HS1 := hid (ims_up HS1.out b8)
  replace HS2 := hid (ims_up HS2.out b8)
  replace HL := hid (by_kept HL.out (Nat.le_refl _) b8)
  replace HLA := hid (by_kept HLA.out (Nat.le_refl _) b8)
  replace HLB := hid (by_kept HLB.out (Nat.le_refl _) b8)
  have HB8 := hid (below_next HB7.out b8)
  clear b8 HB7
  go_wp2_with fail
  refine (cSame_any pm pc pm' pc' cm cc cm' cc' w8.heap.size l l' c c' w8 (Nat.le_refl _) HS1.out HS2.out).mono ?_
  rw [HALK.out]
  rintro e w9 ⟨rfl, b9⟩
  replace k0 := cn b9 k0
  replace k1 := cn b9 k1
  replace k2 := cn b9 k2
  replace k3 := cn b9 k3
  replace HS1 := hid (ims_up HS1.out b9)
  replace HS2 := hid (ims_up HS2.out b9)
  replace HL := hid (by_kept HL.out (Nat.le_refl _) b9)
  replace HLA := hid (by_kept HLA.out (Nat.le_refl _) b9)
  replace HLB := hid (by_kept HLB.out (Nat.le_refl _) b9)
  have HB9 := hid (below_next HB8.out b9)
  clear b9 HB8
  have HNE := hid (fun (h : decide (xs = ys) = false) (hl : xs.length ≤ ys.length) => (decide_eq_false (fun (e : xs = ys.take xs.length) => of_decide_eq_false h (dec_apart HDE.out HDB.out hl e)) : decide (xs = ys.take xs.length) = false))
  cases hr : decide (xs = ys)
  rotate_left
  · clear hr HNE
    have HLt := HL
    have HBt := HB9
    go_wp2_with fail
    refine (cDecode_any pl cl ls w9 HLt.out HCL.out (num_r1 H7.out)).mono ?_
    rintro e v ⟨pm5, cm5, pc5, cc5, rfl, S5, b5, _, _⟩
    have bx5 := (Below.refl v.heap.size v).alloc (Nat.le_refl _) (.cells #[.slice pm5 (dL ls).length cm5, .slice pc5 (dC ls).length cc5] 25)
    have y0 : (v.alloc (.cells #[.slice pm5 (dL ls).length cm5, .slice pc5 (dC ls).length cc5] 25)).cell? ⟨v.heap.size, 0, none⟩ = some (.slice pm5 (dL ls).length cm5) := by simp
    have y1 : (v.alloc (.cells #[.slice pm5 (dL ls).length cm5, .slice pc5 (dC ls).length cc5] 25)).cell? ⟨v.heap.size, 1, none⟩ = some (.slice pc5 (dC ls).length cc5) := by simp
    have SV := hid (ims_up S5 bx5)
    have HLv := hid (by_kept HLt.out (Nat.le_refl _) (below_next b5 bx5))
    have HBv := hid (below_next HBt.out (below_next b5 bx5))
    clear S5 b5 bx5 HLt HBt
    by_cases hd : decE ls = 0
    · obtain ⟨e1, e2, e3⟩ := dLC_dec HLv.out.2.1 hd
      have hn : 3 + 4 * (dL ls).length + 8 * (dC ls).length = ls.length := by rw [← form_len, e2]
      have E1 := hid e1
      have E2 := hid e2
      have EN := hid hn
      have d9 : (decE ls != 0) = false := by rw [hd]; rfl
      clear e1 e2 e3 hn hd
      generalize decE ls = kk at *
      go_wp2_with fail
      generalize v.alloc (.cells #[.slice pm5 (dL ls).length cm5, .slice pc5 (dC ls).length cc5] 25) = v2 at *
      refine (cEncode_any pm5 pc5 cm5 cc5 (dL ls) (dC ls) v2 SV.out.m SV.out.c).mono ?_
      rintro e v3 h
      obtain ⟨_, z, rfl, O⟩ := h.resolve_right (fun h => h.1 E1.out)
      rw [E2.out, EN.out] at O
      obtain ⟨pz, cz, rfl, _, Lz⟩ := own_by O.own HLv.out.2.1
      have HLz := hid Lz
      have HLv3 := hid (by_kept HLv.out (Nat.le_refl _) O.bel)
      have HBv3 := hid (below_next HBv.out O.bel)
      clear O h Lz HLv HBv
      go_wp2_with fail
      refine (same_any pz pl cz cl v3.heap.size ls ls v3 (Nat.le_refl _) (num_r1 H7.out) HLz.out HLv3.out).mono ?_
      rw [show decide (ls = ls) = true from decide_eq_true rfl]
      rintro e v4 ⟨rfl, b4⟩
      go_wp2_with fail
      refine (HWK.out _).mono ?_
      rintro e v5 ⟨rfl, b5⟩
      go_wp2
      go_ret
      exact ⟨rfl, below_next HBv3.out (below_next b4 b5)⟩
    · have d9 : (decE ls != 0) = true := by simpa using hd
      obtain ⟨e1, e2⟩ := dec_lens ls hd
      simp only [e1, e2, List.length_nil] at y0 y1 HBv ⊢
      have qv : v.heap.size < (v.alloc (.cells #[.slice pm5 0 cm5, .slice pc5 0 cc5] 25)).heap.size := by simp
      clear SV HLv
      clear e1 e2 hd
      generalize decE ls = kk at *
      go_wp2_with fail
      refine (HWK.out _).mono ?_
      rintro e v5 ⟨rfl, b5⟩
      go_wp2
      go_ret
      exact ⟨rfl, below_next HBv.out b5⟩

  by_cases hle : xs.length ≤ ys.length
  rotate_left
  · have d3 : decide ((xs.length : Int) ≤ (ys.length : Int)) = false := decide_eq_false (by omega)
    have d4 : decide (xs.length ≤ ys.length) = false := decide_eq_false hle
    clear hr HNE hle
    have HLt := HL
    have HBt := HB9
    go_wp2_with fail
    refine (cDecode_any pl cl ls w9 HLt.out HCL.out (num_r1 H7.out)).mono ?_
    rintro e v ⟨pm5, cm5, pc5, cc5, rfl, S5, b5, _, _⟩
    have bx5 := (Below.refl v.heap.size v).alloc (Nat.le_refl _) (.cells #[.slice pm5 (dL ls).length cm5, .slice pc5 (dC ls).length cc5] 25)
    have y0 : (v.alloc (.cells #[.slice pm5 (dL ls).length cm5, .slice pc5 (dC ls).length cc5] 25)).cell? ⟨v.heap.size, 0, none⟩ = some (.slice pm5 (dL ls).length cm5) := by simp
    have y1 : (v.alloc (.cells #[.slice pm5 (dL ls).length cm5, .slice pc5 (dC ls).length cc5] 25)).cell? ⟨v.heap.size, 1, none⟩ = some (.slice pc5 (dC ls).length cc5) := by simp
    have SV := hid (ims_up S5 bx5)
    have HLv := hid (by_kept HLt.out (Nat.le_refl _) (below_next b5 bx5))
    have HBv := hid (below_next HBt.out (below_next b5 bx5))
    clear S5 b5 bx5 HLt HBt
    by_cases hd : decE ls = 0
    · obtain ⟨e1, e2, e3⟩ := dLC_dec HLv.out.2.1 hd
      have hn : 3 + 4 * (dL ls).length + 8 * (dC ls).length = ls.length := by rw [← form_len, e2]
      have E1 := hid e1
      have E2 := hid e2
      have EN := hid hn
      have d9 : (decE ls != 0) = false := by rw [hd]; rfl
      clear e1 e2 e3 hn hd
      generalize decE ls = kk at *
      go_wp2_with fail
      generalize v.alloc (.cells #[.slice pm5 (dL ls).length cm5, .slice pc5 (dC ls).length cc5] 25) = v2 at *
      refine (cEncode_any pm5 pc5 cm5 cc5 (dL ls) (dC ls) v2 SV.out.m SV.out.c).mono ?_
      rintro e v3 h
      obtain ⟨_, z, rfl, O⟩ := h.resolve_right (fun h => h.1 E1.out)
      rw [E2.out, EN.out] at O
      obtain ⟨pz, cz, rfl, _, Lz⟩ := own_by O.own HLv.out.2.1
      have HLz := hid Lz
      have HLv3 := hid (by_kept HLv.out (Nat.le_refl _) O.bel)
      have HBv3 := hid (below_next HBv.out O.bel)
      clear O h Lz HLv HBv
      go_wp2_with fail
      refine (same_any pz pl cz cl v3.heap.size ls ls v3 (Nat.le_refl _) (num_r1 H7.out) HLz.out HLv3.out).mono ?_
      rw [show decide (ls = ls) = true from decide_eq_true rfl]
      rintro e v4 ⟨rfl, b4⟩
      go_wp2_with fail
      refine (HWK.out _).mono ?_
      rintro e v5 ⟨rfl, b5⟩
      go_wp2
      go_ret
      exact ⟨rfl, below_next HBv3.out (below_next b4 b5)⟩
    · have d9 : (decE ls != 0) = true := by simpa using hd
      obtain ⟨e1, e2⟩ := dec_lens ls hd
      simp only [e1, e2, List.length_nil] at y0 y1 HBv ⊢
      have qv : v.heap.size < (v.alloc (.cells #[.slice pm5 0 cm5, .slice pc5 0 cc5] 25)).heap.size := by simp
      clear SV HLv
      clear e1 e2 hd
      generalize decE ls = kk at *
      go_wp2_with fail
      refine (HWK.out _).mono ?_
      rintro e v5 ⟨rfl, b5⟩
      go_wp2
      go_ret
      exact ⟨rfl, below_next HBv.out b5⟩

  have d3 : decide ((xs.length : Int) ≤ (ys.length : Int)) = true := decide_eq_true (by omega)
  have d4 : decide (xs.length ≤ ys.length) = true := decide_eq_true hle
  have hne := HNE.out hr hle
  have HP := hid hne
  have hsl := slice_first pb ys.length cb xs.length hle HCB.out HGP.out HLB.out
  have HLC := hid (by_first HLB.out hle)
  have ltk : (ys.take xs.length).length = xs.length := List.length_take_of_le hle
  have HTK := hid ltk
  clear hr HNE hle hne ltk
  go_wp2_with fail
  have hsame := same_any pa pb ca cb w9.heap.size xs (ys.take xs.length) w9 (Nat.le_refl _) HFN.out HLA.out (by rw [HTK.out]; exact HLC.out)
  rw [HTK.out, HP.out] at hsame
  refine hsame.mono ?_
  rintro e w10 ⟨rfl, b10⟩
  replace HL := hid (by_kept HL.out (Nat.le_refl _) b10)
  have HB10 := hid (below_next HB9.out b10)
  clear b10 HB9 hsl hsame
  have HLt := HL
  have HBt := HB10
  go_wp2_with fail
  refine (cDecode_any pl cl ls w10 HLt.out HCL.out (num_r1 H7.out)).mono ?_
  rintro e v ⟨pm5, cm5, pc5, cc5, rfl, S5, b5, _, _⟩
  have bx5 := (Below.refl v.heap.size v).alloc (Nat.le_refl _) (.cells #[.slice pm5 (dL ls).length cm5, .slice pc5 (dC ls).length cc5] 25)
  have y0 : (v.alloc (.cells #[.slice pm5 (dL ls).length cm5, .slice pc5 (dC ls).length cc5] 25)).cell? ⟨v.heap.size, 0, none⟩ = some (.slice pm5 (dL ls).length cm5) := by simp
  have y1 : (v.alloc (.cells #[.slice pm5 (dL ls).length cm5, .slice pc5 (dC ls).length cc5] 25)).cell? ⟨v.heap.size, 1, none⟩ = some (.slice pc5 (dC ls).length cc5) := by simp
  have SV := hid (ims_up S5 bx5)
  have HLv := hid (by_kept HLt.out (Nat.le_refl _) (below_next b5 bx5))
  have HBv := hid (below_next HBt.out (below_next b5 bx5))
  clear S5 b5 bx5 HLt HBt
  by_cases hd : decE ls = 0
  · obtain ⟨e1, e2, e3⟩ := dLC_dec HLv.out.2.1 hd
    have hn : 3 + 4 * (dL ls).length + 8 * (dC ls).length = ls.length := by rw [← form_len, e2]
    have E1 := hid e1
    have E2 := hid e2
    have EN := hid hn
    have d9 : (decE ls != 0) = false := by rw [hd]; rfl
    clear e1 e2 e3 hn hd
    generalize decE ls = kk at *
    go_wp2_with fail
    generalize v.alloc (.cells #[.slice pm5 (dL ls).length cm5, .slice pc5 (dC ls).length cc5] 25) = v2 at *
    refine (cEncode_any pm5 pc5 cm5 cc5 (dL ls) (dC ls) v2 SV.out.m SV.out.c).mono ?_
    rintro e v3 h
    obtain ⟨_, z, rfl, O⟩ := h.resolve_right (fun h => h.1 E1.out)
    rw [E2.out, EN.out] at O
    obtain ⟨pz, cz, rfl, _, Lz⟩ := own_by O.own HLv.out.2.1
    have HLz := hid Lz
    have HLv3 := hid (by_kept HLv.out (Nat.le_refl _) O.bel)
    have HBv3 := hid (below_next HBv.out O.bel)
    clear O h Lz HLv HBv
    go_wp2_with fail
    refine (same_any pz pl cz cl v3.heap.size ls ls v3 (Nat.le_refl _) (num_r1 H7.out) HLz.out HLv3.out).mono ?_
    rw [show decide (ls = ls) = true from decide_eq_true rfl]
    rintro e v4 ⟨rfl, b4⟩
    go_wp2_with fail
    refine (HWK.out _).mono ?_
    rintro e v5 ⟨rfl, b5⟩
    go_wp2
    go_ret
    exact ⟨rfl, below_next HBv3.out (below_next b4 b5)⟩
  · have d9 : (decE ls != 0) = true := by simpa using hd
    obtain ⟨e1, e2⟩ := dec_lens ls hd
    simp only [e1, e2, List.length_nil] at y0 y1 HBv ⊢
    have qv : v.heap.size < (v.alloc (.cells #[.slice pm5 0 cm5, .slice pc5 0 cc5] 25)).heap.size := by simp
    clear SV HLv
    clear e1 e2 hd
    generalize decE ls = kk at *
    go_wp2_with fail
    refine (HWK.out _).mono ?_
    rintro e v5 ⟨rfl, b5⟩
    go_wp2
    go_ret
    exact ⟨rfl, below_next HBv.out b5⟩
end Go.Proofs.Ytolpgcoebmboeaa
