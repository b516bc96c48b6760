/-
  Contracts of the document's Lsh, Rsh, Arsh and Cut.
-/
import Derived.Test.YtbinbjfpjielkaaTnX
namespace Go.Proofs.Ytbinbjfpjielkaa
set_option linter.unusedSimpArgs false
set_option linter.unusedVariables false
open Go.ChangeShapes Go.WideShapes Go.ChangeAt Go.RowKit

theorem each_no {a : Tn} (h : tmay a = false) (f : B64 → B64) : eachT a f = t0 ∧ eachE a = 1 := by unfold eachT eachE; rw [h]; exact ⟨rfl, rfl⟩
theorem each_yes {a : Tn} (h : tmay a = true) (f : B64 → B64) : eachT a f = (f a.1, f a.2) ∧ eachE a = 0 := by unfold eachT eachE; rw [h]; exact ⟨rfl, rfl⟩
theorem sh_no {a : Tn} (h : tmay a = false) (f : B64 → B64) (n l : Int) : shT a f n l = t0 ∧ shE a n l = 1 := by
  unfold shT shE
  by_cases hb : n < 0 ∨ l ≤ n
  · rw [if_pos hb, if_pos hb]; exact ⟨rfl, rfl⟩
  · rw [if_neg hb, if_neg hb]; exact each_no h f
theorem sh_bad (a : Tn) (f : B64 → B64) {n l : Int} (hb : n < 0 ∨ l ≤ n) : shT a f n l = t0 ∧ shE a n l = 1 := by
  unfold shT shE; rw [if_pos hb, if_pos hb]; exact ⟨rfl, rfl⟩
theorem sh_yes {a : Tn} (h : tmay a = true) (f : B64 → B64) {n l : Int} (h0 : 0 ≤ n) (h1 : n < l) : shT a f n l = (f a.1, f a.2) ∧ shE a n l = 0 := by
  unfold shT shE; rw [if_neg (by omega), if_neg (by omega)]; exact each_yes h f
theorem tMay_any_r (a : Tn) (w : World) : Calls Try.prog 20 #[tv a] w fun e w' => e = .returned (.bool (tmay a)) ∧ Below w.heap.size w w' := rMay_any a w
theorem rLsh_any (a : Tn) (n : Int) (w : World) : Calls Try.prog 43 #[tv a, .int .i64 n] w fun e w' => e = .returned (.tuple #[tv (shT a (fun x => x <<< n.toNat) n 64), .int .i64 (shE a n 64)]) ∧ Below w.heap.size w w' := by
  have HA := hid (tMay_any_r a)
  unfold tv at HA
  cases ha : tmay a
  · rw [ha] at HA
    obtain ⟨eT, eE⟩ := sh_no ha (fun x => x <<< n.toNat) n 64
    rw [eT, eE]
    clear eT eE
    clear ha
    unfold tv
    go_enter Try.func43, Try.ntmps43
    go_wp2_with fail
    refine (HA.out _).mono ?_
    rintro e w1 ⟨rfl, b1⟩
    have hb : Below w.heap.size w w1 := (((Below.refl _ _).alloc (Nat.le_refl _) _).alloc (by simp) _).trans (b1.mono (by simp; omega))
    obtain ⟨hc, hf⟩ := bcell b1
    have hz : w.heap.size + 1 < w1.heap.size := by have := b1.size; simp at this; omega
    have hy : w.heap.size < w1.heap.size := by omega
    have HB := hid hb
    clear b1 hb
    go_wp2
    refine bodyPost_ret (v := .tuple #[.agg #[.int .u64 0, .int .u64 0], .int .i64 1]) (by simp [results, Try.results43, go_sem, hc, hz]; try rfl) rfl ⟨rfl, ?_⟩
    exact (HB.out.setCell (by simp) _).setCell (by simp) _
  rw [ha] at HA
  by_cases h0 : n < 0
  · clear ha
    obtain ⟨eT, eE⟩ := sh_bad a (fun x => x <<< n.toNat) (n := n) (l := 64) (Or.inl h0)
    rw [eT, eE]
    clear eT eE
    unfold tv
    go_enter Try.func43, Try.ntmps43
    go_wp2_with fail
    refine (HA.out _).mono ?_
    rintro e w1 ⟨rfl, b1⟩
    have hb : Below w.heap.size w w1 := (((Below.refl _ _).alloc (Nat.le_refl _) _).alloc (by simp) _).trans (b1.mono (by simp; omega))
    obtain ⟨hc, hf⟩ := bcell b1
    have hz : w.heap.size + 1 < w1.heap.size := by have := b1.size; simp at this; omega
    have hy : w.heap.size < w1.heap.size := by omega
    have HB := hid hb
    clear b1 hb
    go_wp2
    refine bodyPost_ret (v := .tuple #[.agg #[.int .u64 0, .int .u64 0], .int .i64 1]) (by simp [results, Try.results43, go_sem, hc, hz]; try rfl) rfl ⟨rfl, ?_⟩
    exact (HB.out.setCell (by simp) _).setCell (by simp) _
  by_cases h1 : 63 < n
  · clear ha
    have h0' : 0 ≤ n := by omega
    obtain ⟨eT, eE⟩ := sh_bad a (fun x => x <<< n.toNat) (n := n) (l := 64) (Or.inr (by omega))
    rw [eT, eE]
    clear eT eE
    unfold tv
    go_enter Try.func43, Try.ntmps43
    go_wp2_with fail
    refine (HA.out _).mono ?_
    rintro e w1 ⟨rfl, b1⟩
    have hb : Below w.heap.size w w1 := (((Below.refl _ _).alloc (Nat.le_refl _) _).alloc (by simp) _).trans (b1.mono (by simp; omega))
    obtain ⟨hc, hf⟩ := bcell b1
    have hz : w.heap.size + 1 < w1.heap.size := by have := b1.size; simp at this; omega
    have hy : w.heap.size < w1.heap.size := by omega
    have HB := hid hb
    clear b1 hb
    go_wp2
    refine bodyPost_ret (v := .tuple #[.agg #[.int .u64 0, .int .u64 0], .int .i64 1]) (by simp [results, Try.results43, go_sem, hc, hz]; try rfl) rfl ⟨rfl, ?_⟩
    exact (HB.out.setCell (by simp) _).setCell (by simp) _
  obtain ⟨k, rfl⟩ := Int.eq_ofNat_of_zero_le (show 0 ≤ n by omega)
  have h0' : 0 ≤ (k : Int) := by omega
  have h1' : (k : Int) ≤ 63 := by omega
  rw [Int.toNat_natCast]
  obtain ⟨eT, eE⟩ := sh_yes ha (fun x => x <<< k) (n := (k : Int)) (l := 64) h0' (by omega)
  rw [eT, eE]
  clear eT eE
  have HV := hid fun W => rMoved_any a (-(k : Int)) 64 (-1) W (by omega) (by omega) (by omega) (by omega) (by omega) (by omega)
  rw [mov_ext ha (-(k : Int)) 64 (-1) (b := (a.1 <<< k, a.2 <<< k)) (fun i hi => lsh_one a.1 k i hi) (fun i hi => lsh_one a.2 k i hi)] at HV
  clear ha
  generalize (a.1 <<< k, a.2 <<< k) = R at HV ⊢
  unfold tv at HV ⊢
  go_enter Try.func43, Try.ntmps43
  go_wp2_with fail
  refine (HA.out _).mono ?_
  rintro e w1 ⟨rfl, b1⟩
  have hb : Below w.heap.size w w1 := (((Below.refl _ _).alloc (Nat.le_refl _) _).alloc (by simp) _).trans (b1.mono (by simp; omega))
  obtain ⟨hc, hf⟩ := bcell b1
  have hz : w.heap.size + 1 < w1.heap.size := by have := b1.size; simp at this; omega
  have hy : w.heap.size < w1.heap.size := by omega
  have HB := hid hb
  clear b1 hb
  go_wp2_with fail
  refine (HV.out _).mono ?_
  rintro e w2 ⟨rfl, b2⟩
  have hb : Below w.heap.size w w2 := HB.out.trans (b2.mono (by omega))
  obtain ⟨hc2, hf2⟩ := bcell b2
  have hz2 : w.heap.size + 1 < w2.heap.size := by have := b2.size; omega
  have HB2 := hid hb
  clear b2 hb
  go_wp2
  refine bodyPost_ret (v := .tuple #[.agg #[.int .u64 (ub R.1), .int .u64 (ub R.2)], .int .i64 0]) (by simp [results, Try.results43, go_sem, hc, hz, hc2, hz2]; try rfl) rfl ⟨rfl, ?_⟩
  exact (HB2.out.setCell (by simp) _).setCell (by simp) _
theorem rRsh_any (a : Tn) (n : Int) (w : World) : Calls Try.prog 45 #[tv a, .int .i64 n] w fun e w' => e = .returned (.tuple #[tv (shT a (fun x => x >>> n.toNat) n 64), .int .i64 (shE a n 64)]) ∧ Below w.heap.size w w' := by
  have HA := hid (tMay_any_r a)
  unfold tv at HA
  cases ha : tmay a
  · rw [ha] at HA
    obtain ⟨eT, eE⟩ := sh_no ha (fun x => x >>> n.toNat) n 64
    rw [eT, eE]
    clear eT eE
    clear ha
    unfold tv
    go_enter Try.func45, Try.ntmps45
    go_wp2_with fail
    refine (HA.out _).mono ?_
    rintro e w1 ⟨rfl, b1⟩
    have hb : Below w.heap.size w w1 := (((Below.refl _ _).alloc (Nat.le_refl _) _).alloc (by simp) _).trans (b1.mono (by simp; omega))
    obtain ⟨hc, hf⟩ := bcell b1
    have hz : w.heap.size + 1 < w1.heap.size := by have := b1.size; simp at this; omega
    have hy : w.heap.size < w1.heap.size := by omega
    have HB := hid hb
    clear b1 hb
    go_wp2
    refine bodyPost_ret (v := .tuple #[.agg #[.int .u64 0, .int .u64 0], .int .i64 1]) (by simp [results, Try.results45, go_sem, hc, hz]; try rfl) rfl ⟨rfl, ?_⟩
    exact (HB.out.setCell (by simp) _).setCell (by simp) _
  rw [ha] at HA
  by_cases h0 : n < 0
  · clear ha
    obtain ⟨eT, eE⟩ := sh_bad a (fun x => x >>> n.toNat) (n := n) (l := 64) (Or.inl h0)
    rw [eT, eE]
    clear eT eE
    unfold tv
    go_enter Try.func45, Try.ntmps45
    go_wp2_with fail
    refine (HA.out _).mono ?_
    rintro e w1 ⟨rfl, b1⟩
    have hb : Below w.heap.size w w1 := (((Below.refl _ _).alloc (Nat.le_refl _) _).alloc (by simp) _).trans (b1.mono (by simp; omega))
    obtain ⟨hc, hf⟩ := bcell b1
    have hz : w.heap.size + 1 < w1.heap.size := by have := b1.size; simp at this; omega
    have hy : w.heap.size < w1.heap.size := by omega
    have HB := hid hb
    clear b1 hb
    go_wp2
    refine bodyPost_ret (v := .tuple #[.agg #[.int .u64 0, .int .u64 0], .int .i64 1]) (by simp [results, Try.results45, go_sem, hc, hz]; try rfl) rfl ⟨rfl, ?_⟩
    exact (HB.out.setCell (by simp) _).setCell (by simp) _
  by_cases h1 : 63 < n
  · clear ha
    have h0' : 0 ≤ n := by omega
    obtain ⟨eT, eE⟩ := sh_bad a (fun x => x >>> n.toNat) (n := n) (l := 64) (Or.inr (by omega))
    rw [eT, eE]
    clear eT eE
    unfold tv
    go_enter Try.func45, Try.ntmps45
    go_wp2_with fail
    refine (HA.out _).mono ?_
    rintro e w1 ⟨rfl, b1⟩
    have hb : Below w.heap.size w w1 := (((Below.refl _ _).alloc (Nat.le_refl _) _).alloc (by simp) _).trans (b1.mono (by simp; omega))
    obtain ⟨hc, hf⟩ := bcell b1
    have hz : w.heap.size + 1 < w1.heap.size := by have := b1.size; simp at this; omega
    have hy : w.heap.size < w1.heap.size := by omega
    have HB := hid hb
    clear b1 hb
    go_wp2
    refine bodyPost_ret (v := .tuple #[.agg #[.int .u64 0, .int .u64 0], .int .i64 1]) (by simp [results, Try.results45, go_sem, hc, hz]; try rfl) rfl ⟨rfl, ?_⟩
    exact (HB.out.setCell (by simp) _).setCell (by simp) _
  obtain ⟨k, rfl⟩ := Int.eq_ofNat_of_zero_le (show 0 ≤ n by omega)
  have h0' : 0 ≤ (k : Int) := by omega
  have h1' : (k : Int) ≤ 63 := by omega
  rw [Int.toNat_natCast]
  obtain ⟨eT, eE⟩ := sh_yes ha (fun x => x >>> k) (n := (k : Int)) (l := 64) h0' (by omega)
  rw [eT, eE]
  clear eT eE
  have HV := hid fun W => rMoved_any a ((k : Int)) 64 (-1) W (by omega) (by omega) (by omega) (by omega) (by omega) (by omega)
  rw [mov_ext ha ((k : Int)) 64 (-1) (b := (a.1 >>> k, a.2 >>> k)) (fun i hi => rsh_one a.1 k i hi) (fun i hi => rsh_one a.2 k i hi)] at HV
  clear ha
  generalize (a.1 >>> k, a.2 >>> k) = R at HV ⊢
  unfold tv at HV ⊢
  go_enter Try.func45, Try.ntmps45
  go_wp2_with fail
  refine (HA.out _).mono ?_
  rintro e w1 ⟨rfl, b1⟩
  have hb : Below w.heap.size w w1 := (((Below.refl _ _).alloc (Nat.le_refl _) _).alloc (by simp) _).trans (b1.mono (by simp; omega))
  obtain ⟨hc, hf⟩ := bcell b1
  have hz : w.heap.size + 1 < w1.heap.size := by have := b1.size; simp at this; omega
  have hy : w.heap.size < w1.heap.size := by omega
  have HB := hid hb
  clear b1 hb
  go_wp2_with fail
  refine (HV.out _).mono ?_
  rintro e w2 ⟨rfl, b2⟩
  have hb : Below w.heap.size w w2 := HB.out.trans (b2.mono (by omega))
  obtain ⟨hc2, hf2⟩ := bcell b2
  have hz2 : w.heap.size + 1 < w2.heap.size := by have := b2.size; omega
  have HB2 := hid hb
  clear b2 hb
  go_wp2
  refine bodyPost_ret (v := .tuple #[.agg #[.int .u64 (ub R.1), .int .u64 (ub R.2)], .int .i64 0]) (by simp [results, Try.results45, go_sem, hc, hz, hc2, hz2]; try rfl) rfl ⟨rfl, ?_⟩
  exact (HB2.out.setCell (by simp) _).setCell (by simp) _
theorem rCut_any (a : Tn) (n : Int) (w : World) : Calls Try.prog 49 #[tv a, .int .i64 n] w fun e w' => e = .returned (.tuple #[tv (cutT a n), .int .i64 (cutE a n)]) ∧ Below w.heap.size w w' := by
  have HA := hid (tMay_any_r a)
  unfold tv at HA
  cases ha : tmay a
  · rw [ha] at HA
    have e0 : cutT a n = t0 ∧ cutE a n = 1 := by
      unfold cutT cutE
      split
      · exact each_no ha _
      · exact ⟨rfl, rfl⟩
    clear ha
    obtain ⟨eT, eE⟩ := e0
    rw [eT, eE]
    clear eT eE
    unfold tv
    go_enter Try.func49, Try.ntmps49
    go_wp2_with fail
    refine (HA.out _).mono ?_
    rintro e w1 ⟨rfl, b1⟩
    have hb : Below w.heap.size w w1 := (((Below.refl _ _).alloc (Nat.le_refl _) _).alloc (by simp) _).trans (b1.mono (by simp; omega))
    obtain ⟨hc, hf⟩ := bcell b1
    have hz : w.heap.size + 1 < w1.heap.size := by have := b1.size; simp at this; omega
    have hy : w.heap.size < w1.heap.size := by omega
    have HB := hid hb
    clear b1 hb
    go_wp2
    refine bodyPost_ret (v := .tuple #[.agg #[.int .u64 0, .int .u64 0], .int .i64 1]) (by simp [results, Try.results49, go_sem, hc, hz]; try rfl) rfl ⟨rfl, ?_⟩
    exact (HB.out.setCell (by simp) _).setCell (by simp) _
  rw [ha] at HA
  by_cases h4 : sz4 n = true
  · have hs : n = 8 ∨ n = 16 ∨ n = 32 ∨ n = 64 := by unfold sz4 at h4; simp at h4; omega
    obtain ⟨k, rfl⟩ := Int.eq_ofNat_of_zero_le (show 0 ≤ n by omega)
    have ey : cutT a (k : Int) = (a.1 &&& lowB k, a.2 &&& lowB k) ∧ cutE a (k : Int) = 0 := by
      unfold cutT cutE
      rw [if_pos h4, if_pos h4, Int.toNat_natCast]
      exact each_yes ha _
    have hk : k ≤ 64 := by omega
    have HV := hid fun W => rMoved_any a 0 (k : Int) (-1) W (by omega) (by omega) (by omega) (by omega) (by omega) (by omega)
    rw [mov_ext ha 0 (k : Int) (-1) (b := (a.1 &&& lowB k, a.2 &&& lowB k)) (fun i hi => cut_one a.1 k i hk hi) (fun i hi => cut_one a.2 k i hk hi)] at HV
    obtain ⟨eT, eE⟩ := ey
    rw [eT, eE]
    clear eT eE ha h4
    generalize (a.1 &&& lowB k, a.2 &&& lowB k) = R at HV ⊢
    unfold tv at HV ⊢
    generalize (k : Int) = K at *
    clear hk
    rcases hs with rfl | rfl | rfl | rfl
    · go_enter Try.func49, Try.ntmps49
      go_wp2_with fail
      refine (HA.out _).mono ?_
      rintro e w1 ⟨rfl, b1⟩
      have hb : Below w.heap.size w w1 := (((Below.refl _ _).alloc (Nat.le_refl _) _).alloc (by simp) _).trans (b1.mono (by simp; omega))
      obtain ⟨hc, hf⟩ := bcell b1
      have hz : w.heap.size + 1 < w1.heap.size := by have := b1.size; simp at this; omega
      have hy : w.heap.size < w1.heap.size := by omega
      have HB := hid hb
      clear b1 hb
      go_wp2_with fail
      refine (HV.out _).mono ?_
      rintro e w2 ⟨rfl, b2⟩
      have hb : Below w.heap.size w w2 := HB.out.trans (b2.mono (by omega))
      obtain ⟨hc2, hf2⟩ := bcell b2
      have hz2 : w.heap.size + 1 < w2.heap.size := by have := b2.size; omega
      have HB2 := hid hb
      clear b2 hb
      go_wp2
      refine bodyPost_ret (v := .tuple #[.agg #[.int .u64 (ub R.1), .int .u64 (ub R.2)], .int .i64 0]) (by simp [results, Try.results49, go_sem, hc, hz, hc2, hz2]; try rfl) rfl ⟨rfl, ?_⟩
      exact (HB2.out.setCell (by simp) _).setCell (by simp) _
    · go_enter Try.func49, Try.ntmps49
      go_wp2_with fail
      refine (HA.out _).mono ?_
      rintro e w1 ⟨rfl, b1⟩
      have hb : Below w.heap.size w w1 := (((Below.refl _ _).alloc (Nat.le_refl _) _).alloc (by simp) _).trans (b1.mono (by simp; omega))
      obtain ⟨hc, hf⟩ := bcell b1
      have hz : w.heap.size + 1 < w1.heap.size := by have := b1.size; simp at this; omega
      have hy : w.heap.size < w1.heap.size := by omega
      have HB := hid hb
      clear b1 hb
      go_wp2_with fail
      refine (HV.out _).mono ?_
      rintro e w2 ⟨rfl, b2⟩
      have hb : Below w.heap.size w w2 := HB.out.trans (b2.mono (by omega))
      obtain ⟨hc2, hf2⟩ := bcell b2
      have hz2 : w.heap.size + 1 < w2.heap.size := by have := b2.size; omega
      have HB2 := hid hb
      clear b2 hb
      go_wp2
      refine bodyPost_ret (v := .tuple #[.agg #[.int .u64 (ub R.1), .int .u64 (ub R.2)], .int .i64 0]) (by simp [results, Try.results49, go_sem, hc, hz, hc2, hz2]; try rfl) rfl ⟨rfl, ?_⟩
      exact (HB2.out.setCell (by simp) _).setCell (by simp) _
    · go_enter Try.func49, Try.ntmps49
      go_wp2_with fail
      refine (HA.out _).mono ?_
      rintro e w1 ⟨rfl, b1⟩
      have hb : Below w.heap.size w w1 := (((Below.refl _ _).alloc (Nat.le_refl _) _).alloc (by simp) _).trans (b1.mono (by simp; omega))
      obtain ⟨hc, hf⟩ := bcell b1
      have hz : w.heap.size + 1 < w1.heap.size := by have := b1.size; simp at this; omega
      have hy : w.heap.size < w1.heap.size := by omega
      have HB := hid hb
      clear b1 hb
      go_wp2_with fail
      refine (HV.out _).mono ?_
      rintro e w2 ⟨rfl, b2⟩
      have hb : Below w.heap.size w w2 := HB.out.trans (b2.mono (by omega))
      obtain ⟨hc2, hf2⟩ := bcell b2
      have hz2 : w.heap.size + 1 < w2.heap.size := by have := b2.size; omega
      have HB2 := hid hb
      clear b2 hb
      go_wp2
      refine bodyPost_ret (v := .tuple #[.agg #[.int .u64 (ub R.1), .int .u64 (ub R.2)], .int .i64 0]) (by simp [results, Try.results49, go_sem, hc, hz, hc2, hz2]; try rfl) rfl ⟨rfl, ?_⟩
      exact (HB2.out.setCell (by simp) _).setCell (by simp) _
    · go_enter Try.func49, Try.ntmps49
      go_wp2_with fail
      refine (HA.out _).mono ?_
      rintro e w1 ⟨rfl, b1⟩
      have hb : Below w.heap.size w w1 := (((Below.refl _ _).alloc (Nat.le_refl _) _).alloc (by simp) _).trans (b1.mono (by simp; omega))
      obtain ⟨hc, hf⟩ := bcell b1
      have hz : w.heap.size + 1 < w1.heap.size := by have := b1.size; simp at this; omega
      have hy : w.heap.size < w1.heap.size := by omega
      have HB := hid hb
      clear b1 hb
      go_wp2_with fail
      refine (HV.out _).mono ?_
      rintro e w2 ⟨rfl, b2⟩
      have hb : Below w.heap.size w w2 := HB.out.trans (b2.mono (by omega))
      obtain ⟨hc2, hf2⟩ := bcell b2
      have hz2 : w.heap.size + 1 < w2.heap.size := by have := b2.size; omega
      have HB2 := hid hb
      clear b2 hb
      go_wp2
      refine bodyPost_ret (v := .tuple #[.agg #[.int .u64 (ub R.1), .int .u64 (ub R.2)], .int .i64 0]) (by simp [results, Try.results49, go_sem, hc, hz, hc2, hz2]; try rfl) rfl ⟨rfl, ?_⟩
      exact (HB2.out.setCell (by simp) _).setCell (by simp) _
  · have e1 : (n != 8) = true := by unfold sz4 at h4; simp at h4 ⊢; omega
    have e2 : (n != 16) = true := by unfold sz4 at h4; simp at h4 ⊢; omega
    have e3 : (n != 32) = true := by unfold sz4 at h4; simp at h4 ⊢; omega
    have e4 : (n != 64) = true := by unfold sz4 at h4; simp at h4 ⊢; omega
    have e0 : cutT a n = t0 ∧ cutE a n = 1 := by unfold cutT cutE; rw [if_neg h4, if_neg h4]; exact ⟨rfl, rfl⟩
    clear ha h4
    obtain ⟨eT, eE⟩ := e0
    rw [eT, eE]
    clear eT eE
    unfold tv
    go_enter Try.func49, Try.ntmps49
    go_wp2_with fail
    refine (HA.out _).mono ?_
    rintro e w1 ⟨rfl, b1⟩
    have hb : Below w.heap.size w w1 := (((Below.refl _ _).alloc (Nat.le_refl _) _).alloc (by simp) _).trans (b1.mono (by simp; omega))
    obtain ⟨hc, hf⟩ := bcell b1
    have hz : w.heap.size + 1 < w1.heap.size := by have := b1.size; simp at this; omega
    have hy : w.heap.size < w1.heap.size := by omega
    have HB := hid hb
    clear b1 hb
    go_wp2
    refine bodyPost_ret (v := .tuple #[.agg #[.int .u64 0, .int .u64 0], .int .i64 1]) (by simp [results, Try.results49, go_sem, hc, hz]; try rfl) rfl ⟨rfl, ?_⟩
    exact (HB.out.setCell (by simp) _).setCell (by simp) _
theorem rArsh32 (a : Tn) (n : Int) (w : World) : Calls Try.prog 47 #[tv a, .int .i64 n, .int .i64 32] w fun e w' => e = .returned (.tuple #[tv (shT a (arB 32 n.toNat 32) n 32), .int .i64 (shE a n 32)]) ∧ Below w.heap.size w w' := by
  have HA := hid (tMay_any_r a)
  unfold tv at HA
  cases ha : tmay a
  · rw [ha] at HA
    have e0 := sh_no ha (arB 32 n.toNat 32) n 32
    clear ha
    obtain ⟨eT, eE⟩ := e0
    rw [eT, eE]
    clear eT eE
    unfold tv
    go_enter Try.func47, Try.ntmps47
    go_wp2_with fail
    refine (HA.out _).mono ?_
    rintro e w1 ⟨rfl, b1⟩
    have hb : Below w.heap.size w w1 := (((Below.refl _ _).alloc (Nat.le_refl _) _).alloc (by simp) _).trans (b1.mono (by simp; omega))
    obtain ⟨hc, hf⟩ := bcell b1
    have hz : w.heap.size + 1 < w1.heap.size := by have := b1.size; simp at this; omega
    have hy : w.heap.size < w1.heap.size := by omega
    have HB := hid hb
    clear b1 hb
    go_wp2
    refine bodyPost_ret (v := .tuple #[.agg #[.int .u64 0, .int .u64 0], .int .i64 1]) (by simp [results, Try.results47, go_sem, hc, hz]; try rfl) rfl ⟨rfl, ?_⟩
    exact (HB.out.setCell (by simp) _).setCell (by simp) _
  rw [ha] at HA
  by_cases h0 : n < 0
  · clear ha
    obtain ⟨eT, eE⟩ := sh_bad a (arB 32 n.toNat 32) (n := n) (l := 32) (Or.inl h0)
    rw [eT, eE]
    clear eT eE
    unfold tv
    go_enter Try.func47, Try.ntmps47
    go_wp2_with fail
    refine (HA.out _).mono ?_
    rintro e w1 ⟨rfl, b1⟩
    have hb : Below w.heap.size w w1 := (((Below.refl _ _).alloc (Nat.le_refl _) _).alloc (by simp) _).trans (b1.mono (by simp; omega))
    obtain ⟨hc, hf⟩ := bcell b1
    have hz : w.heap.size + 1 < w1.heap.size := by have := b1.size; simp at this; omega
    have hy : w.heap.size < w1.heap.size := by omega
    have HB := hid hb
    clear b1 hb
    go_wp2
    refine bodyPost_ret (v := .tuple #[.agg #[.int .u64 0, .int .u64 0], .int .i64 1]) (by simp [results, Try.results47, go_sem, hc, hz]; try rfl) rfl ⟨rfl, ?_⟩
    exact (HB.out.setCell (by simp) _).setCell (by simp) _
  by_cases h1 : 32 ≤ n
  · clear ha
    have h0' : 0 ≤ n := by omega
    obtain ⟨eT, eE⟩ := sh_bad a (arB 32 n.toNat 32) (n := n) (l := 32) (Or.inr h1)
    rw [eT, eE]
    clear eT eE
    unfold tv
    go_enter Try.func47, Try.ntmps47
    go_wp2_with fail
    refine (HA.out _).mono ?_
    rintro e w1 ⟨rfl, b1⟩
    have hb : Below w.heap.size w w1 := (((Below.refl _ _).alloc (Nat.le_refl _) _).alloc (by simp) _).trans (b1.mono (by simp; omega))
    obtain ⟨hc, hf⟩ := bcell b1
    have hz : w.heap.size + 1 < w1.heap.size := by have := b1.size; simp at this; omega
    have hy : w.heap.size < w1.heap.size := by omega
    have HB := hid hb
    clear b1 hb
    go_wp2
    refine bodyPost_ret (v := .tuple #[.agg #[.int .u64 0, .int .u64 0], .int .i64 1]) (by simp [results, Try.results47, go_sem, hc, hz]; try rfl) rfl ⟨rfl, ?_⟩
    exact (HB.out.setCell (by simp) _).setCell (by simp) _
  obtain ⟨k, rfl⟩ := Int.eq_ofNat_of_zero_le (show 0 ≤ n by omega)
  have h0' : 0 ≤ (k : Int) := by omega
  have h1' : (k : Int) < 32 := by omega
  rw [Int.toNat_natCast]
  obtain ⟨eT, eE⟩ := sh_yes ha (arB 32 k 32) (n := (k : Int)) (l := 32) h0' h1'
  rw [eT, eE]
  clear eT eE
  have HV := hid fun W => rMoved_any a (k : Int) 32 31 W (by omega) (by omega) (by omega) (by omega) (by omega) (by omega)
  rw [mov_ext ha (k : Int) 32 31 (b := (arB 32 k 32 a.1, arB 32 k 32 a.2)) (fun i hi => arsh_one a.1 32 k i (by omega) (by omega) hi) (fun i hi => arsh_one a.2 32 k i (by omega) (by omega) hi)] at HV
  clear ha
  generalize (arB 32 k 32 a.1, arB 32 k 32 a.2) = R at HV ⊢
  unfold tv at HV ⊢
  go_enter Try.func47, Try.ntmps47
  go_wp2_with fail
  refine (HA.out _).mono ?_
  rintro e w1 ⟨rfl, b1⟩
  have hb : Below w.heap.size w w1 := (((Below.refl _ _).alloc (Nat.le_refl _) _).alloc (by simp) _).trans (b1.mono (by simp; omega))
  obtain ⟨hc, hf⟩ := bcell b1
  have hz : w.heap.size + 1 < w1.heap.size := by have := b1.size; simp at this; omega
  have hy : w.heap.size < w1.heap.size := by omega
  have HB := hid hb
  clear b1 hb
  go_wp2_with fail
  refine (HV.out _).mono ?_
  rintro e w2 ⟨rfl, b2⟩
  have hb : Below w.heap.size w w2 := HB.out.trans (b2.mono (by omega))
  obtain ⟨hc2, hf2⟩ := bcell b2
  have hz2 : w.heap.size + 1 < w2.heap.size := by have := b2.size; omega
  have HB2 := hid hb
  clear b2 hb
  go_wp2
  refine bodyPost_ret (v := .tuple #[.agg #[.int .u64 (ub R.1), .int .u64 (ub R.2)], .int .i64 0]) (by simp [results, Try.results47, go_sem, hc, hz, hc2, hz2]; try rfl) rfl ⟨rfl, ?_⟩
  exact (HB2.out.setCell (by simp) _).setCell (by simp) _
theorem rArsh64 (a : Tn) (n : Int) (w : World) : Calls Try.prog 47 #[tv a, .int .i64 n, .int .i64 64] w fun e w' => e = .returned (.tuple #[tv (shT a (arB 0 n.toNat 64) n 64), .int .i64 (shE a n 64)]) ∧ Below w.heap.size w w' := by
  have HA := hid (tMay_any_r a)
  unfold tv at HA
  cases ha : tmay a
  · rw [ha] at HA
    have e0 := sh_no ha (arB 0 n.toNat 64) n 64
    clear ha
    obtain ⟨eT, eE⟩ := e0
    rw [eT, eE]
    clear eT eE
    unfold tv
    go_enter Try.func47, Try.ntmps47
    go_wp2_with fail
    refine (HA.out _).mono ?_
    rintro e w1 ⟨rfl, b1⟩
    have hb : Below w.heap.size w w1 := (((Below.refl _ _).alloc (Nat.le_refl _) _).alloc (by simp) _).trans (b1.mono (by simp; omega))
    obtain ⟨hc, hf⟩ := bcell b1
    have hz : w.heap.size + 1 < w1.heap.size := by have := b1.size; simp at this; omega
    have hy : w.heap.size < w1.heap.size := by omega
    have HB := hid hb
    clear b1 hb
    go_wp2
    refine bodyPost_ret (v := .tuple #[.agg #[.int .u64 0, .int .u64 0], .int .i64 1]) (by simp [results, Try.results47, go_sem, hc, hz]; try rfl) rfl ⟨rfl, ?_⟩
    exact (HB.out.setCell (by simp) _).setCell (by simp) _
  rw [ha] at HA
  by_cases h0 : n < 0
  · clear ha
    obtain ⟨eT, eE⟩ := sh_bad a (arB 0 n.toNat 64) (n := n) (l := 64) (Or.inl h0)
    rw [eT, eE]
    clear eT eE
    unfold tv
    go_enter Try.func47, Try.ntmps47
    go_wp2_with fail
    refine (HA.out _).mono ?_
    rintro e w1 ⟨rfl, b1⟩
    have hb : Below w.heap.size w w1 := (((Below.refl _ _).alloc (Nat.le_refl _) _).alloc (by simp) _).trans (b1.mono (by simp; omega))
    obtain ⟨hc, hf⟩ := bcell b1
    have hz : w.heap.size + 1 < w1.heap.size := by have := b1.size; simp at this; omega
    have hy : w.heap.size < w1.heap.size := by omega
    have HB := hid hb
    clear b1 hb
    go_wp2
    refine bodyPost_ret (v := .tuple #[.agg #[.int .u64 0, .int .u64 0], .int .i64 1]) (by simp [results, Try.results47, go_sem, hc, hz]; try rfl) rfl ⟨rfl, ?_⟩
    exact (HB.out.setCell (by simp) _).setCell (by simp) _
  by_cases h1 : 64 ≤ n
  · clear ha
    have h0' : 0 ≤ n := by omega
    obtain ⟨eT, eE⟩ := sh_bad a (arB 0 n.toNat 64) (n := n) (l := 64) (Or.inr h1)
    rw [eT, eE]
    clear eT eE
    unfold tv
    go_enter Try.func47, Try.ntmps47
    go_wp2_with fail
    refine (HA.out _).mono ?_
    rintro e w1 ⟨rfl, b1⟩
    have hb : Below w.heap.size w w1 := (((Below.refl _ _).alloc (Nat.le_refl _) _).alloc (by simp) _).trans (b1.mono (by simp; omega))
    obtain ⟨hc, hf⟩ := bcell b1
    have hz : w.heap.size + 1 < w1.heap.size := by have := b1.size; simp at this; omega
    have hy : w.heap.size < w1.heap.size := by omega
    have HB := hid hb
    clear b1 hb
    go_wp2
    refine bodyPost_ret (v := .tuple #[.agg #[.int .u64 0, .int .u64 0], .int .i64 1]) (by simp [results, Try.results47, go_sem, hc, hz]; try rfl) rfl ⟨rfl, ?_⟩
    exact (HB.out.setCell (by simp) _).setCell (by simp) _
  obtain ⟨k, rfl⟩ := Int.eq_ofNat_of_zero_le (show 0 ≤ n by omega)
  have h0' : 0 ≤ (k : Int) := by omega
  have h1' : (k : Int) < 64 := by omega
  rw [Int.toNat_natCast]
  obtain ⟨eT, eE⟩ := sh_yes ha (arB 0 k 64) (n := (k : Int)) (l := 64) h0' h1'
  rw [eT, eE]
  clear eT eE
  have HV := hid fun W => rMoved_any a (k : Int) 64 63 W (by omega) (by omega) (by omega) (by omega) (by omega) (by omega)
  rw [mov_ext ha (k : Int) 64 63 (b := (arB 0 k 64 a.1, arB 0 k 64 a.2)) (fun i hi => arsh_one a.1 64 k i (by omega) (by omega) hi) (fun i hi => arsh_one a.2 64 k i (by omega) (by omega) hi)] at HV
  clear ha
  generalize (arB 0 k 64 a.1, arB 0 k 64 a.2) = R at HV ⊢
  unfold tv at HV ⊢
  go_enter Try.func47, Try.ntmps47
  go_wp2_with fail
  refine (HA.out _).mono ?_
  rintro e w1 ⟨rfl, b1⟩
  have hb : Below w.heap.size w w1 := (((Below.refl _ _).alloc (Nat.le_refl _) _).alloc (by simp) _).trans (b1.mono (by simp; omega))
  obtain ⟨hc, hf⟩ := bcell b1
  have hz : w.heap.size + 1 < w1.heap.size := by have := b1.size; simp at this; omega
  have hy : w.heap.size < w1.heap.size := by omega
  have HB := hid hb
  clear b1 hb
  go_wp2_with fail
  refine (HV.out _).mono ?_
  rintro e w2 ⟨rfl, b2⟩
  have hb : Below w.heap.size w w2 := HB.out.trans (b2.mono (by omega))
  obtain ⟨hc2, hf2⟩ := bcell b2
  have hz2 : w.heap.size + 1 < w2.heap.size := by have := b2.size; omega
  have HB2 := hid hb
  clear b2 hb
  go_wp2
  refine bodyPost_ret (v := .tuple #[.agg #[.int .u64 (ub R.1), .int .u64 (ub R.2)], .int .i64 0]) (by simp [results, Try.results47, go_sem, hc, hz, hc2, hz2]; try rfl) rfl ⟨rfl, ?_⟩
  exact (HB2.out.setCell (by simp) _).setCell (by simp) _
theorem rArsh_any (a : Tn) (n size : Int) (w : World) : Calls Try.prog 47 #[tv a, .int .i64 n, .int .i64 size] w fun e w' => e = .returned (.tuple #[tv (arshT a n size), .int .i64 (arshE a n size)]) ∧ Below w.heap.size w w' := by
  by_cases h1 : size = 32
  · subst h1; exact rArsh32 a n w
  by_cases h2 : size = 64
  · subst h2; exact rArsh64 a n w
  have HA := hid (tMay_any_r a)
  unfold tv at HA
  have e0 : arshT a n size = t0 ∧ arshE a n size = 1 := by unfold arshT arshE; rw [if_neg h1, if_neg h1, if_neg h2, if_neg h2]; exact ⟨rfl, rfl⟩
  have e3 : (size != 32) = true := by simp [h1]
  have e4 : (size != 64) = true := by simp [h2]
  clear h1 h2
  cases ha : tmay a
  · rw [ha] at HA
    clear ha
    obtain ⟨eT, eE⟩ := e0
    rw [eT, eE]
    clear eT eE
    unfold tv
    go_enter Try.func47, Try.ntmps47
    go_wp2_with fail
    refine (HA.out _).mono ?_
    rintro e w1 ⟨rfl, b1⟩
    have hb : Below w.heap.size w w1 := (((Below.refl _ _).alloc (Nat.le_refl _) _).alloc (by simp) _).trans (b1.mono (by simp; omega))
    obtain ⟨hc, hf⟩ := bcell b1
    have hz : w.heap.size + 1 < w1.heap.size := by have := b1.size; simp at this; omega
    have hy : w.heap.size < w1.heap.size := by omega
    have HB := hid hb
    clear b1 hb
    go_wp2
    refine bodyPost_ret (v := .tuple #[.agg #[.int .u64 0, .int .u64 0], .int .i64 1]) (by simp [results, Try.results47, go_sem, hc, hz]; try rfl) rfl ⟨rfl, ?_⟩
    exact (HB.out.setCell (by simp) _).setCell (by simp) _
  · rw [ha] at HA
    clear ha
    obtain ⟨eT, eE⟩ := e0
    rw [eT, eE]
    clear eT eE
    unfold tv
    go_enter Try.func47, Try.ntmps47
    go_wp2_with fail
    refine (HA.out _).mono ?_
    rintro e w1 ⟨rfl, b1⟩
    have hb : Below w.heap.size w w1 := (((Below.refl _ _).alloc (Nat.le_refl _) _).alloc (by simp) _).trans (b1.mono (by simp; omega))
    obtain ⟨hc, hf⟩ := bcell b1
    have hz : w.heap.size + 1 < w1.heap.size := by have := b1.size; simp at this; omega
    have hy : w.heap.size < w1.heap.size := by omega
    have HB := hid hb
    clear b1 hb
    go_wp2
    refine bodyPost_ret (v := .tuple #[.agg #[.int .u64 0, .int .u64 0], .int .i64 1]) (by simp [results, Try.results47, go_sem, hc, hz]; try rfl) rfl ⟨rfl, ?_⟩
    exact (HB.out.setCell (by simp) _).setCell (by simp) _
end Go.Proofs.Ytbinbjfpjielkaa
