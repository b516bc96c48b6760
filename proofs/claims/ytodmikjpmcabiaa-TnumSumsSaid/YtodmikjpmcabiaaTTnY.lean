/-
  Contracts of the document's Lsh, Rsh, Arsh and Cut.
-/
import Derived.Test.YtodmikjpmcabiaaTTnHp
namespace Go.Proofs.Ytodmikjpmcabiaa
set_option linter.unusedSimpArgs false
set_option linter.unusedVariables false
set_option maxRecDepth 100000
open Go.ChangeShapes Go.WideShapes Go.ChangeAt Go.RowKit

theorem each_no {a : Tn} (h : tmay a = false) (f : B64 → B64) : eachT a f = t0 ∧ eachE a = 1 := by unfold eachT eachE; rw [h]; exact ⟨rfl, rfl⟩
theorem each_yes {a : Tn} (h : tmay a = true) (f : B64 → B64) : eachT a f = (f a.1, f a.2) ∧ eachE a = 0 := by unfold eachT eachE; rw [h]; exact ⟨rfl, rfl⟩
theorem sh_no {a : Tn} (h : tmay a = false) (f : B64 → B64) (n l : Int) : shT a f n l = t0 ∧ shE a n l = 1 := by
  unfold shT shE
  by_cases hb : n < 0 ∨ l ≤ n
  · rw [if_pos hb, if_pos hb]; exact ⟨rfl, rfl⟩
  · rw [if_neg hb, if_neg hb]; exact each_no h f
theorem sh_bad (a : Tn) (f : B64 → B64) {n l : Int} (hb : n < 0 ∨ l ≤ n) : shT a f n l = t0 ∧ shE a n l = 1 := by
  unfold shT shE; rw [if_pos hb, if_pos hb]; exact ⟨rfl, rfl⟩
theorem sh_yes {a : Tn} (h : tmay a = true) (f : B64 → B64) {n l : Int} (h0 : 0 ≤ n) (h1 : n < l) : shT a f n l = (f a.1, f a.2) ∧ shE a n l = 0 := by
  unfold shT shE; rw [if_neg (by omega), if_neg (by omega)]; exact each_yes h f
theorem tMay_any_r (a : Tn) (w : World) : Calls Try.prog 57 #[tv a] w fun e w' => e = .returned (.bool (tmay a)) ∧ Below w.heap.size w w' := rMay_any a w
theorem rLsh_any (a : Tn) (n : Int) (w : World) : Calls Try.prog 63 #[tv a, .int .i64 n] w fun e w' => e = .returned (.tuple #[tv (shT a (fun x => x <<< n.toNat) n 64), .int .i64 (shE a n 64)]) ∧ Below w.heap.size w w' := by
  have HA := hid (tMay_any_r a)
  unfold tv at HA
  cases ha : tmay a
  · rw [ha] at HA
    obtain ⟨eT, eE⟩ := sh_no ha (fun x => x <<< n.toNat) n 64
    rw [eT, eE]
    clear eT eE
    clear ha
    unfold tv
    go_enter Try.func63, Try.ntmps63
    go_wp2_with fail
    refine (HA.out _).mono ?_
    rintro e w1 ⟨rfl, b1⟩
    have hb : Below w.heap.size w w1 := (((Below.refl _ _).alloc (Nat.le_refl _) _).alloc (by simp) _).trans (b1.mono (by simp; omega))
    obtain ⟨hc, hf⟩ := bcell b1
    have hz : w.heap.size + 1 < w1.heap.size := by have := b1.size; simp at this; omega
    have hy : w.heap.size < w1.heap.size := by omega
    have HB := hid hb
    clear b1 hb
    go_wp2
    refine bodyPost_ret (v := .tuple #[.agg #[.int .u64 0, .int .u64 0], .int .i64 1]) (by simp [results, Try.results63, go_sem, hc, hz]; try rfl) rfl ⟨rfl, ?_⟩
    exact (HB.out.setCell (by simp) _).setCell (by simp) _
  rw [ha] at HA
  by_cases h0 : n < 0
  · clear ha
    obtain ⟨eT, eE⟩ := sh_bad a (fun x => x <<< n.toNat) (n := n) (l := 64) (Or.inl h0)
    rw [eT, eE]
    clear eT eE
    unfold tv
    go_enter Try.func63, Try.ntmps63
    go_wp2_with fail
    refine (HA.out _).mono ?_
    rintro e w1 ⟨rfl, b1⟩
    have hb : Below w.heap.size w w1 := (((Below.refl _ _).alloc (Nat.le_refl _) _).alloc (by simp) _).trans (b1.mono (by simp; omega))
    obtain ⟨hc, hf⟩ := bcell b1
    have hz : w.heap.size + 1 < w1.heap.size := by have := b1.size; simp at this; omega
    have hy : w.heap.size < w1.heap.size := by omega
    have HB := hid hb
    clear b1 hb
    go_wp2
    refine bodyPost_ret (v := .tuple #[.agg #[.int .u64 0, .int .u64 0], .int .i64 1]) (by simp [results, Try.results63, go_sem, hc, hz]; try rfl) rfl ⟨rfl, ?_⟩
    exact (HB.out.setCell (by simp) _).setCell (by simp) _
  by_cases h1 : 63 < n
  · clear ha
    have h0' : 0 ≤ n := by omega
    obtain ⟨eT, eE⟩ := sh_bad a (fun x => x <<< n.toNat) (n := n) (l := 64) (Or.inr (by omega))
    rw [eT, eE]
    clear eT eE
    unfold tv
    go_enter Try.func63, Try.ntmps63
    go_wp2_with fail
    refine (HA.out _).mono ?_
    rintro e w1 ⟨rfl, b1⟩
    have hb : Below w.heap.size w w1 := (((Below.refl _ _).alloc (Nat.le_refl _) _).alloc (by simp) _).trans (b1.mono (by simp; omega))
    obtain ⟨hc, hf⟩ := bcell b1
    have hz : w.heap.size + 1 < w1.heap.size := by have := b1.size; simp at this; omega
    have hy : w.heap.size < w1.heap.size := by omega
    have HB := hid hb
    clear b1 hb
    go_wp2
    refine bodyPost_ret (v := .tuple #[.agg #[.int .u64 0, .int .u64 0], .int .i64 1]) (by simp [results, Try.results63, go_sem, hc, hz]; try rfl) rfl ⟨rfl, ?_⟩
    exact (HB.out.setCell (by simp) _).setCell (by simp) _
  obtain ⟨k, rfl⟩ := Int.eq_ofNat_of_zero_le (show 0 ≤ n by omega)
  have h0' : 0 ≤ (k : Int) := by omega
  have h1' : (k : Int) ≤ 63 := by omega
  rw [Int.toNat_natCast]
  obtain ⟨eT, eE⟩ := sh_yes ha (fun x => x <<< k) (n := (k : Int)) (l := 64) h0' (by omega)
  rw [eT, eE]
  clear eT eE
  have HV := hid fun W => rMoved_any a (-(k : Int)) 64 (-1) W (by omega) (by omega) (by omega) (by omega) (by omega) (by omega)
  rw [mov_ext ha (-(k : Int)) 64 (-1) (b := (a.1 <<< k, a.2 <<< k)) (fun i hi => lsh_one a.1 k i hi) (fun i hi => lsh_one a.2 k i hi)] at HV
  clear ha
  generalize (a.1 <<< k, a.2 <<< k) = R at HV ⊢
  unfold tv at HV ⊢
  go_enter Try.func63, Try.ntmps63
  go_wp2_with fail
  refine (HA.out _).mono ?_
  rintro e w1 ⟨rfl, b1⟩
  have hb : Below w.heap.size w w1 := (((Below.refl _ _).alloc (Nat.le_refl _) _).alloc (by simp) _).trans (b1.mono (by simp; omega))
  obtain ⟨hc, hf⟩ := bcell b1
  have hz : w.heap.size + 1 < w1.heap.size := by have := b1.size; simp at this; omega
  have hy : w.heap.size < w1.heap.size := by omega
  have HB := hid hb
  clear b1 hb
  go_wp2_with fail
  refine (HV.out _).mono ?_
  rintro e w2 ⟨rfl, b2⟩
  have hb : Below w.heap.size w w2 := HB.out.trans (b2.mono (by omega))
  obtain ⟨hc2, hf2⟩ := bcell b2
  have hz2 : w.heap.size + 1 < w2.heap.size := by have := b2.size; omega
  have HB2 := hid hb
  clear b2 hb
  go_wp2
  refine bodyPost_ret (v := .tuple #[.agg #[.int .u64 (ub R.1), .int .u64 (ub R.2)], .int .i64 0]) (by simp [results, Try.results63, go_sem, hc, hz, hc2, hz2]; try rfl) rfl ⟨rfl, ?_⟩
  exact (HB2.out.setCell (by simp) _).setCell (by simp) _
end Go.Proofs.Ytodmikjpmcabiaa
