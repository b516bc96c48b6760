/-
  Contracts of package tnum's questions, of Range, and of what is shifted and cut, as the landed code has them.
-/
import Derived.Test.YtodmikjpmcabiaaGreatZTnC0
namespace Go.Proofs.YtodmikjpmcabiaaGreat
set_option linter.unusedSimpArgs false
set_option linter.unusedVariables false
set_option maxRecDepth 100000
open Go.ChangeShapes Go.WideShapes Go.ChangeAt Go.RowKit

theorem tHas_any (a : Tn) (n : B64) (w : World) : Calls Tryz.prog 54 #[tv a, .int .u64 (ub n)] w fun e w' => e = .returned (.bool (thas a n)) ∧ Below w.heap.size w w' := by
  have HA := hid (tMay_any a)
  obtain ⟨v, m⟩ := a
  unfold thas
  unfold tv at HA ⊢
  cases ha : tmay (v, m) <;> rw [ha] at HA <;> clear ha
  · go_enter Tryz.func54, Tryz.ntmps54
    go_wp2_with fail
    refine (HA.out _).mono ?_
    rintro e w1 ⟨rfl, b1⟩
    have hb : Below w.heap.size w w1 := ((Below.refl _ _).alloc (Nat.le_refl _) _).trans (b1.mono (by simp))
    obtain ⟨hc, hf⟩ := bcell b1
    have hz : w.heap.size < w1.heap.size := by have := b1.size; simp at this; omega
    have HB := hid hb
    clear b1 hb
    go_wp2
    go_ret
    exact ⟨rfl, HB.out⟩
  · go_enter Tryz.func54, Tryz.ntmps54
    go_wp2_with fail
    refine (HA.out _).mono ?_
    rintro e w1 ⟨rfl, b1⟩
    have hb : Below w.heap.size w w1 := ((Below.refl _ _).alloc (Nat.le_refl _) _).trans (b1.mono (by simp))
    obtain ⟨hc, hf⟩ := bcell b1
    have hz : w.heap.size < w1.heap.size := by have := b1.size; simp at this; omega
    have HB := hid hb
    clear b1 hb
    go_wp2
    go_ret
    exact ⟨rfl, HB.out⟩
theorem tIn_any (a b : Tn) (w : World) : Calls Tryz.prog 57 #[tv a, tv b] w fun e w' => e = .returned (.bool (tin a b)) ∧ Below w.heap.size w w' := by
  have HA := hid (tMay_any a)
  have HB := hid (tMay_any b)
  obtain ⟨v, m⟩ := a
  obtain ⟨v', m'⟩ := b
  unfold tin
  unfold tv at HA HB ⊢
  cases ha : tmay (v, m)
  · rw [ha] at HA; clear ha
    go_enter Tryz.func57, Tryz.ntmps57
    go_wp2_with fail
    refine (HA.out _).mono ?_
    rintro e w1 ⟨rfl, b1⟩
    have hb : Below w.heap.size w w1 := (((Below.refl _ _).alloc (Nat.le_refl _) _).alloc (by simp) _).trans (b1.mono (by simp; omega))
    obtain ⟨hc1, hf1⟩ := bcell b1
    have hz1 : w.heap.size + 1 < w1.heap.size := by have := b1.size; simp at this; omega
    have hy1 : w.heap.size < w1.heap.size := by omega
    have HB1 := hid hb
    clear b1 hb
    go_wp2
    go_ret
    exact ⟨rfl, HB1.out⟩
  rw [ha] at HA; clear ha
  cases hb' : tmay (v', m')
  · rw [hb'] at HB; clear hb'
    go_enter Tryz.func57, Tryz.ntmps57
    go_wp2_with fail
    refine (HA.out _).mono ?_
    rintro e w1 ⟨rfl, b1⟩
    have hb : Below w.heap.size w w1 := (((Below.refl _ _).alloc (Nat.le_refl _) _).alloc (by simp) _).trans (b1.mono (by simp; omega))
    obtain ⟨hc1, hf1⟩ := bcell b1
    have hz1 : w.heap.size + 1 < w1.heap.size := by have := b1.size; simp at this; omega
    have hy1 : w.heap.size < w1.heap.size := by omega
    have HB1 := hid hb
    clear b1 hb
    go_wp2_with fail
    refine (HB.out _).mono ?_
    rintro e w2 ⟨rfl, b2⟩
    have hb : Below w.heap.size w w2 := HB1.out.trans (b2.mono (by omega))
    obtain ⟨hc2, hf2⟩ := bcell b2
    have hz2 : w.heap.size + 1 < w2.heap.size := by have := b2.size; omega
    have hy2 : w.heap.size < w2.heap.size := by omega
    have HB2 := hid hb
    clear b2 hb
    go_wp2
    go_ret
    exact ⟨rfl, HB2.out⟩
  rw [hb'] at HB; clear hb'
  dsimp only
  cases h1 : (m &&& ~~~m' == 0#64)
  · have hx := h1
    go_enter Tryz.func57, Tryz.ntmps57
    go_wp2_with fail
    refine (HA.out _).mono ?_
    rintro e w1 ⟨rfl, b1⟩
    have hb : Below w.heap.size w w1 := (((Below.refl _ _).alloc (Nat.le_refl _) _).alloc (by simp) _).trans (b1.mono (by simp; omega))
    obtain ⟨hc1, hf1⟩ := bcell b1
    have hz1 : w.heap.size + 1 < w1.heap.size := by have := b1.size; simp at this; omega
    have hy1 : w.heap.size < w1.heap.size := by omega
    have HB1 := hid hb
    clear b1 hb
    go_wp2_with fail
    refine (HB.out _).mono ?_
    rintro e w2 ⟨rfl, b2⟩
    have hb : Below w.heap.size w w2 := HB1.out.trans (b2.mono (by omega))
    obtain ⟨hc2, hf2⟩ := bcell b2
    have hz2 : w.heap.size + 1 < w2.heap.size := by have := b2.size; omega
    have hy2 : w.heap.size < w2.heap.size := by omega
    have HB2 := hid hb
    clear b2 hb
    go_wp2
    go_ret
    exact ⟨rfl, HB2.out⟩
  · have hx := h1
    go_enter Tryz.func57, Tryz.ntmps57
    go_wp2_with fail
    refine (HA.out _).mono ?_
    rintro e w1 ⟨rfl, b1⟩
    have hb : Below w.heap.size w w1 := (((Below.refl _ _).alloc (Nat.le_refl _) _).alloc (by simp) _).trans (b1.mono (by simp; omega))
    obtain ⟨hc1, hf1⟩ := bcell b1
    have hz1 : w.heap.size + 1 < w1.heap.size := by have := b1.size; simp at this; omega
    have hy1 : w.heap.size < w1.heap.size := by omega
    have HB1 := hid hb
    clear b1 hb
    go_wp2_with fail
    refine (HB.out _).mono ?_
    rintro e w2 ⟨rfl, b2⟩
    have hb : Below w.heap.size w w2 := HB1.out.trans (b2.mono (by omega))
    obtain ⟨hc2, hf2⟩ := bcell b2
    have hz2 : w.heap.size + 1 < w2.heap.size := by have := b2.size; omega
    have hy2 : w.heap.size < w2.heap.size := by omega
    have HB2 := hid hb
    clear b2 hb
    go_wp2
    go_ret
    exact ⟨rfl, HB2.out⟩
def rangeT (lo hi : B64) : Tn := if ub hi < ub lo then t0 else butT lo (1#64 <<< Lib.bitLen (lo ^^^ hi).toNat - 1#64)
def rangeE (lo hi : B64) : Int := if ub hi < ub lo then 1 else 0
theorem bitLen_le (x : B64) : Lib.bitLen x.toNat ≤ 64 := Lib.bitLen_le _ 64 (Nat.le_refl _) x.isLt
theorem tRange_any (lo hi : B64) (w : World) : Calls Tryz.prog 76 #[.int .u64 (ub lo), .int .u64 (ub hi)] w fun e w' => e = .returned (.tuple #[tv (rangeT lo hi), .int .i64 (rangeE lo hi)]) ∧ Below w.heap.size w w' := by
  have HL := hid fun W => len_any (lo ^^^ hi) W
  have HW := hid fun W => low_any (Lib.bitLen (lo ^^^ hi).toNat) W (bitLen_le _)
  obtain ⟨R, HR⟩ : ∃ R, R = rangeT lo hi := ⟨_, rfl⟩
  rw [← HR]
  unfold rangeT at HR
  unfold rangeE
  by_cases hh : ub hi < ub lo
  · rw [if_pos hh] at HR ⊢
    subst HR
    go_enter Tryz.func76, Tryz.ntmps76
    go_wp2
    exact bodyPost_ret (v := .tuple #[tv t0, .int .i64 1]) (by simp [results, Tryz.results76, go_sem]; try rfl) rfl ⟨rfl, (Below.refl _ _).alloc (Nat.le_refl _) _⟩
  · rw [if_neg hh] at HR ⊢
    subst HR
    have hh' : ub lo ≤ ub hi := by omega
    go_enter Tryz.func76, Tryz.ntmps76
    go_wp2_with fail
    refine (HL.out _).mono ?_
    rintro e w1 ⟨rfl, rfl⟩
    go_wp2_with fail
    refine (HW.out _).mono ?_
    rintro e w1 ⟨rfl, rfl⟩
    go_wp2_with fail
    refine (tBut_any _ _ _).mono ?_
    rintro e w1 ⟨rfl, b1⟩
    have hb : Below w.heap.size w w1 := ((Below.refl _ _).alloc (Nat.le_refl _) _).trans (b1.mono (by simp))
    obtain ⟨hc, hf⟩ := bcell b1
    have hz : w.heap.size < w1.heap.size := by have := b1.size; simp at this; omega
    have HB := hid hb
    clear b1 hb
    unfold tv butT
    dsimp only
    go_wp2
    refine bodyPost_ret (v := .tuple #[tv (butT lo (1#64 <<< Lib.bitLen (lo ^^^ hi).toNat - 1#64)), .int .i64 0]) (by simp [results, Tryz.results76, go_sem, hc, hz]; try rfl) rfl ⟨rfl, ?_⟩
    exact (HB.out.setCell (by simp) _).setCell (by simp) _
end Go.Proofs.YtodmikjpmcabiaaGreat
