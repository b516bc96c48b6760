/-
  Contracts of package tnum's shifts and cuts, as the landed code has them.
-/
import Derived.Test.YtodmikjpmcabiaaTTnD
import Derived.Deep.RegionHeld3
import Derived.BigRegion
import Derived.Deep.RegionWith
namespace Go.Proofs.Ytodmikjpmcabiaa
set_option linter.unusedSimpArgs false
set_option linter.unusedVariables false
set_option maxRecDepth 100000
open Go.ChangeShapes Go.WideShapes Go.ChangeAt Go.RowKit

def shT (a : Tn) (mv : B64 → B64) (n size : Int) : Tn := if n < 0 ∨ size ≤ n then t0 else eachT a mv
def shE (a : Tn) (n size : Int) : Int := if n < 0 ∨ size ≤ n then 1 else eachE a
def lowB (k : Nat) : B64 := 1#64 <<< k - 1#64
theorem shArsh (a : Tn) (mv : B64 → B64) (n size : Int) (p0 : Value) (p1 : Value) (p2 : Value) (w : World)
    (hcl : 0 ≤ n → n < size → ∀ W x, Below w.heap.size w W → Calls Try.prog 108 #[.int .u64 (ub x), p0, p1, p2] W fun e w' => e = .returned (.int .u64 (ub (mv x))) ∧ W.drew = w') :
    Calls Try.prog 107 #[tv a, .int .i64 n, .int .i64 size, .func (.func 108) #[] #[p0, p1, p2]] w fun e w' => e = .returned (.tuple #[tv (shT a mv n size), .int .i64 (shE a n size)]) ∧ Below w.heap.size w w' := by
  have HC := hid hcl
  clear hcl
  by_cases h0 : n < 0
  · obtain ⟨hR, hE⟩ : shT a mv n size = t0 ∧ shE a n size = 1 := by unfold shT shE; rw [if_pos (Or.inl h0), if_pos (Or.inl h0)]; exact ⟨rfl, rfl⟩
    rw [hR, hE]
    clear hR hE
    unfold tv
    go_enter Try.func107, Try.ntmps107
    go_wp2
    refine bodyPost_ret (v := .tuple #[.agg #[.int .u64 0, .int .u64 0], .int .i64 1]) (by simp [results, Try.results107, go_sem]; try rfl) rfl ⟨rfl, ?_⟩
    exact ((Below.refl _ _).alloc (Nat.le_refl _) _).alloc (by simp) _
  by_cases h1 : size ≤ n
  · obtain ⟨hR, hE⟩ : shT a mv n size = t0 ∧ shE a n size = 1 := by unfold shT shE; rw [if_pos (Or.inr h1), if_pos (Or.inr h1)]; exact ⟨rfl, rfl⟩
    rw [hR, hE]
    clear hR hE
    have h0' : 0 ≤ n := by omega
    unfold tv
    go_enter Try.func107, Try.ntmps107
    go_wp2
    refine bodyPost_ret (v := .tuple #[.agg #[.int .u64 0, .int .u64 0], .int .i64 1]) (by simp [results, Try.results107, go_sem]; try rfl) rfl ⟨rfl, ?_⟩
    exact ((Below.refl _ _).alloc (Nat.le_refl _) _).alloc (by simp) _
  obtain ⟨hR, hE⟩ : shT a mv n size = eachT a mv ∧ shE a n size = eachE a := by unfold shT shE; rw [if_neg (by omega), if_neg (by omega)]; exact ⟨rfl, rfl⟩
  rw [hR, hE]
  clear hR hE
  have HX := hid fun W (hW : Below w.heap.size w W) => eachArsh a mv p0 p1 p2 W (fun W' x hW' => HC.out (by omega) (by omega) W' x (hW.trans (hW'.mono hW.size)))
  clear HC
  generalize eachE a = E at *
  generalize eachT a mv = R at *
  have h0' : 0 ≤ n := by omega
  have h1' : n < size := by omega
  unfold tv at HX ⊢
  go_enter Try.func107, Try.ntmps107
  go_wp2_with fail
  refine (HX.out _ (((Below.refl _ _).alloc (Nat.le_refl _) _).alloc (by simp) _)).mono ?_
  rintro e w1 ⟨rfl, b1⟩
  have hb : Below w.heap.size w w1 := (((Below.refl _ _).alloc (Nat.le_refl _) _).alloc (by simp) _).trans (b1.mono (by simp; omega))
  obtain ⟨hc, hf⟩ := bcell b1
  have hz : w.heap.size + 1 < w1.heap.size := by have := b1.size; simp at this; omega
  have HB := hid hb
  clear b1 hb
  go_wp2
  refine bodyPost_ret (v := .tuple #[.agg #[.int .u64 (ub R.1), .int .u64 (ub R.2)], .int .i64 E]) (by simp [results, Try.results107, go_sem, hc, hz]; try rfl) rfl ⟨rfl, ?_⟩
  exact (HB.out.setCell (by simp) _).setCell (by simp) _
end Go.Proofs.Ytodmikjpmcabiaa
