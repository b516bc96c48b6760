/-
  The laws' wakes.
-/
import Derived.Test.YtolpgcoebmboeaaImK
import Derived.Test.YtolpgcoebmboeaaImH
namespace Go.Proofs.Ytolpgcoebmboeaa
set_option linter.unusedSimpArgs false
set_option linter.unusedVariables false
open Go.ChangeShapes Go.WideShapes Go.ChangeAt Go.RowKit

theorem by_lit (w : World) (zs : List Int) (t : TypeId) (n : Nat) (hn : zs.length = n) (hz : By zs) : ByL (w.alloc (.cells (bC zs).toArray t)).heap.size (w.alloc (.cells (bC zs).toArray t)) (some ⟨w.heap.size, 0, none⟩) n zs := by
  refine ⟨hn, hz, .inr ⟨_, 0, rfl, by simp, fun j hj => ?_⟩⟩
  rw [World.cell?_alloc_at _ _ _ _ rfl, Nat.zero_add]
  simp [bC, List.getElem?_map, List.getElem?_eq_getElem (show j < zs.length by omega), List.getD_eq_getElem?_getD]
theorem by_kept {n₀ : Nat} {w w' : World} {p : Option Addr} {n : Nat} {zs : List Int} (h : ByL n₀ w p n zs) (hn : n₀ ≤ w.heap.size) (hb : Below w.heap.size w w') : ByL w'.heap.size w' p n zs := (h.kept hb hn).wide (Nat.le_trans hn hb.size)
def xE : I5 := ⟨149, 0, 0, 0, 0⟩
theorem encE_x : encE [] [xE] = 0 := by decide
theorem form_x : formB [] [xE] = [0, 1, 0, 149, 0, 0, 0, 0, 0, 0, 0] := by decide
def dB : List Int := [1, 2, 4, 8, 16, 0, 0]
theorem decE_d : decE dB = 0 := by decide
theorem dL_d : dL dB = [⟨2, 4, 8, 16⟩] := by decide
theorem dC_d : dC dB = [] := by decide
theorem by_of {zs : List Int} (h : zs.all (fun z => decide (0 ≤ z) && decide (z < 256)) = true) : By zs := fun z hz => by
  have := List.all_eq_true.1 h z hz
  simpa using this
theorem xE_cd (w : World) : CdSl (w.heap.size + 1) (w.alloc (.cells #[.int .u8 149, .int .u8 0, .int .u8 0, .int .i16 0, .int .i32 0] 51)) (some ⟨w.heap.size, 0, none⟩) [xE].length [xE] := by
  refine ⟨rfl, ?_, by decide, .inr ⟨_, 0, rfl, Nat.lt_succ_self _, fun j hj => ?_⟩⟩
  · intro x hx
    rw [List.mem_singleton.1 hx]
    unfold I5.ok xE
    decide
  · have e : j = 0 := Nat.lt_one_iff.1 hj
    subst e
    refine ⟨?_, ?_, ?_, ?_, ?_⟩ <;> (rw [World.cell?_alloc_at _ _ _ _ rfl]; rfl)
set_option maxHeartbeats 3200000 in
theorem wakes_any (w : World) : Calls Try.prog 10 #[] w fun e w' => e = .returned (.bool true) ∧ Below w.heap.size w w' := by
  have b0 := (Below.refl w.heap.size w).alloc (Nat.le_refl _) (.cells #[.int .u8 149, .int .u8 0, .int .u8 0, .int .i16 0, .int .i32 0] 51)
  have q0 : (w.alloc (.cells #[.int .u8 149, .int .u8 0, .int .u8 0, .int .i16 0, .int .i32 0] 51)).heap.size = w.heap.size + 1 := World.size_alloc _ _
  have HE := hid (cEncode_any none (some ⟨w.heap.size, 0, none⟩) 0 1 [] [xE] (w.alloc (.cells #[.int .u8 149, .int .u8 0, .int .u8 0, .int .i16 0, .int .i32 0] 51)) ⟨rfl, by decide, .inl rfl⟩ (by rw [q0]; exact xE_cd w))
  have HB0 := hid b0
  clear b0
  go_enter Try.func10, Try.ntmps10
  go_wp2_with fail
  generalize w.alloc (.cells #[.int .u8 149, .int .u8 0, .int .u8 0, .int .i16 0, .int .i32 0] 51) = W0 at *
  refine HE.out.mono ?_
  rintro e w1 h
  obtain ⟨_, v, rfl, O⟩ := h.resolve_right (fun h => h.1 encE_x)
  rw [form_x] at O
  obtain ⟨pa, ca, rfl, hca, La⟩ := own_by O.own (by_of (by decide))
  have HLa := hid La
  have HB1 := hid (HB0.out.trans (O.bel.mono (by omega)))
  clear O h HE La
  go_wp2_with fail
  have lb := by_lit w1 dB 5 7 rfl (by_of (by decide))
  have HD := hid (cDecode_any (some ⟨w1.heap.size, 0, none⟩) 7 dB (w1.alloc (.cells (bC dB).toArray 5)) lb (by decide) (by decide))
  have bb := (Below.refl w1.heap.size w1).alloc (Nat.le_refl _) (.cells (bC dB).toArray 5)
  refine HD.out.mono ?_
  rintro e w2 ⟨pm, cm, pc, cc, rfl, I2, b2, _, _⟩
  rw [dL_d, dC_d, decE_d]
  rw [dL_d, dC_d] at I2
  have b12 := below_next bb b2
  have HLa2 := hid (by_kept HLa.out (Nat.le_refl _) b12)
  have HB2 := hid (below_next HB1.out b12)
  obtain ⟨gm, om, rfl, hgm, hmc⟩ := I2.m.2.2.resolve_left (by decide)
  obtain ⟨m0, m1, m2, m3⟩ := hmc 0 (by decide)
  have hmz : (mpA [(⟨2, 4, 8, 16⟩ : M4)] 0) = ⟨2, 4, 8, 16⟩ := rfl
  rw [hmz, Nat.zero_mul, Nat.add_zero] at m0 m1 m2 m3
  clear hmc I2 b12 b2 bb lb HD HLa HB1 hmz
  go_wp2_with fail
  generalize hP : (3 + 4 * ([] : List M4).length + 8 * [xE].length) = P11 at *
  have hP' : P11 = 11 := hP.symm
  subst hP'
  clear hP
  have HBx := hid ((Below.refl w2.heap.size w2).alloc (Nat.le_refl _) (.cells #[.slice (some ⟨gm, om, none⟩) 1 cm, .slice pc 0 cc] 25))
  have k0 : (w2.alloc (.cells #[.slice (some ⟨gm, om, none⟩) 1 cm, .slice pc 0 cc] 25)).cell? ⟨w2.heap.size, 0, none⟩ = some (.slice (some ⟨gm, om, none⟩) 1 cm) := by simp
  have k1 : (w2.alloc (.cells #[.slice (some ⟨gm, om, none⟩) 1 cm, .slice pc 0 cc] 25)).cell? ⟨w2.heap.size, 1, none⟩ = some (.slice pc 0 cc) := by simp
  replace m0 := cn HBx.out m0
  replace m1 := cn HBx.out m1
  replace m2 := cn HBx.out m2
  replace m3 := cn HBx.out m3
  have HLa3 := hid (by_kept HLa2.out (Nat.le_refl _) HBx.out)
  have HB3 := hid (below_next HB2.out HBx.out)
  have hqx : (w2.alloc (.cells #[.slice (some ⟨gm, om, none⟩) 1 cm, .slice pc 0 cc] 25)).heap.size = w2.heap.size + 1 := World.size_alloc _ _
  clear HLa2 HB2 HBx
  generalize w2.alloc (.cells #[.slice (some ⟨gm, om, none⟩) 1 cm, .slice pc 0 cc] 25) = w3 at *
  rw [← hqx]
  have lb := by_lit w3 [5] 5 1 rfl (by_of (by decide))
  have HD := hid (cDecode_any (some ⟨w3.heap.size, 0, none⟩) 1 [5] (w3.alloc (.cells (bC [5]).toArray 5)) lb (by decide) (by decide))
  have bb := (Below.refl w3.heap.size w3).alloc (Nat.le_refl _) (.cells (bC [5]).toArray 5)
  refine HD.out.mono ?_
  rintro e w4 ⟨pm5, cm5, pc5, cc5, rfl, I5, b4, _, _⟩
  rw [show dL [5] = [] by decide, show dC [5] = [] by decide, show decE [5] = 5 by decide]
  have b34 := below_next bb b4
  replace k0 := cn b34 k0
  replace k1 := cn b34 k1
  replace m0 := cn b34 m0
  replace m1 := cn b34 m1
  replace m2 := cn b34 m2
  replace m3 := cn b34 m3
  have HLa4 := hid (by_kept HLa3.out (Nat.le_refl _) b34)
  have HB4 := hid (below_next HB3.out b34)
  clear I5 b34 b4 bb lb HD HLa3 HB3 hqx
  go_wp2_with fail
  have HB5 := hid ((Below.refl w4.heap.size w4).alloc (Nat.le_refl _) (.cells #[.slice pm5 0 cm5, .slice pc5 0 cc5] 25))
  have hq5 : (w4.alloc (.cells #[.slice pm5 0 cm5, .slice pc5 0 cc5] 25)).heap.size = w4.heap.size + 1 := World.size_alloc _ _
  replace k0 := cn HB5.out k0
  replace k1 := cn HB5.out k1
  replace m0 := cn HB5.out m0
  replace m1 := cn HB5.out m1
  replace m2 := cn HB5.out m2
  replace m3 := cn HB5.out m3
  have HLa5 := hid (by_kept HLa4.out (Nat.le_refl _) HB5.out)
  have HB6 := hid (below_next HB4.out HB5.out)
  clear HLa4 HB4 HB5
  try simp only [List.length_nil] at *
  generalize w4.alloc (.cells #[.slice pm5 0 cm5, .slice pc5 0 cc5] 25) = w5 at *
  rw [← hq5]
  have lb := by_lit w5 [0, 1, 0, 149, 0, 0, 0, 0, 0, 0, 0] 5 11 rfl (by_of (by decide))
  have bb := (Below.refl w5.heap.size w5).alloc (Nat.le_refl _) (.cells (bC [0, 1, 0, 149, 0, 0, 0, 0, 0, 0, 0]).toArray 5)
  have HS := hid (same_any pa (some ⟨w5.heap.size, 0, none⟩) ca 11 (w5.alloc (.cells (bC [0, 1, 0, 149, 0, 0, 0, 0, 0, 0, 0]).toArray 5)).heap.size [0, 1, 0, 149, 0, 0, 0, 0, 0, 0, 0] [0, 1, 0, 149, 0, 0, 0, 0, 0, 0, 0] _ (Nat.le_refl _) (by decide) (by_kept HLa5.out (Nat.le_refl _) bb) lb)
  refine HS.out.mono ?_
  rintro e w6 ⟨rfl, b6⟩
  have b56 := below_next bb b6
  replace k0 := cn b56 k0
  replace k1 := cn b56 k1
  replace m0 := cn b56 m0
  replace m1 := cn b56 m1
  replace m2 := cn b56 m2
  replace m3 := cn b56 m3
  have HB7 := hid (below_next HB6.out b56)
  clear b56 b6 bb lb HS HLa5 HB6 hq5
  go_wp2
  go_ret
  exact ⟨rfl, HB7.out⟩
end Go.Proofs.Ytolpgcoebmboeaa
