/-
  Contracts of package tnum's shifts and cuts, as the landed code has them.
-/
import Derived.Test.YtodmikjpmcabiaaGreatZTnD
import Derived.Deep.RegionHeld3
import Derived.BigRegion
import Derived.Deep.RegionWith
namespace Go.Proofs.YtodmikjpmcabiaaGreat
set_option linter.unusedSimpArgs false
set_option linter.unusedVariables false
set_option maxRecDepth 100000
open Go.ChangeShapes Go.WideShapes Go.ChangeAt Go.RowKit

def shT (a : Tn) (mv : B64 → B64) (n size : Int) : Tn := if n < 0 ∨ size ≤ n then t0 else eachT a mv
def shE (a : Tn) (n size : Int) : Int := if n < 0 ∨ size ≤ n then 1 else eachE a
theorem nc {w : World} {u : Value} {t : TypeId} {o : Obj} {b : Nat} (hb : b = w.heap.size) : ((w.alloc (.cells #[u] t)).alloc o).cell? ⟨b, 0, none⟩ = some u := by
  subst hb
  exact cn ((Below.refl _ _).alloc (Nat.le_refl _) o) (by simp)
def lowB (k : Nat) : B64 := 1#64 <<< k - 1#64
theorem cLsh (p : Nat) (k : Nat) (x : B64) (w : World) (hk : k ≤ 64) (hp : w.cell? ⟨p, 0, none⟩ = some (.int .i64 (k : Int))) :
    Calls Tryz.prog 153 #[.int .u64 (ub x), .pointer (some ⟨p, 0, none⟩)] w fun e w' => e = .returned (.int .u64 (ub (x <<< k))) ∧ w = w' := by
  go_enter Tryz.func153, Tryz.ntmps153
  go_wp2
  go_ret
  exact ⟨rfl, rfl⟩
theorem cRsh (p : Nat) (k : Nat) (x : B64) (w : World) (hk : k ≤ 64) (hp : w.cell? ⟨p, 0, none⟩ = some (.int .i64 (k : Int))) :
    Calls Tryz.prog 154 #[.int .u64 (ub x), .pointer (some ⟨p, 0, none⟩)] w fun e w' => e = .returned (.int .u64 (ub (x >>> k))) ∧ w = w' := by
  go_enter Tryz.func154, Tryz.ntmps154
  go_wp2
  go_ret
  exact ⟨rfl, rfl⟩
theorem cCut (p : Nat) (k : Nat) (x : B64) (w : World) (hk : k ≤ 64) (hp : w.cell? ⟨p, 0, none⟩ = some (.int .i64 (k : Int))) :
    Calls Tryz.prog 86 #[.int .u64 (ub x), .pointer (some ⟨p, 0, none⟩)] w fun e w' => e = .returned (.int .u64 (ub (x &&& lowB k))) ∧ w = w' := by
  have HL := hid fun W => low_any k W hk
  go_enter Tryz.func86, Tryz.ntmps86
  go_wp2_with fail
  refine (HL.out _).mono ?_
  rintro e w1 ⟨rfl, rfl⟩
  go_wp2
  go_ret
  exact ⟨rfl, rfl⟩
theorem shLsh (a : Tn) (mv : B64 → B64) (n size : Int) (p0 : Value) (w : World)
    (hcl : 0 ≤ n → n < size → ∀ W x, Below w.heap.size w W → Calls Tryz.prog 153 #[.int .u64 (ub x), p0] W fun e w' => e = .returned (.int .u64 (ub (mv x))) ∧ W = w') :
    Calls Tryz.prog 152 #[tv a, .int .i64 n, .int .i64 size, .func (.func 153) #[] #[p0]] w fun e w' => e = .returned (.tuple #[tv (shT a mv n size), .int .i64 (shE a n size)]) ∧ Below w.heap.size w w' := by
  have HC := hid hcl
  clear hcl
  by_cases h0 : n < 0
  · obtain ⟨hR, hE⟩ : shT a mv n size = t0 ∧ shE a n size = 1 := by unfold shT shE; rw [if_pos (Or.inl h0), if_pos (Or.inl h0)]; exact ⟨rfl, rfl⟩
    rw [hR, hE]
    clear hR hE
    unfold tv
    go_enter Tryz.func152, Tryz.ntmps152
    go_wp2
    refine bodyPost_ret (v := .tuple #[.agg #[.int .u64 0, .int .u64 0], .int .i64 1]) (by simp [results, Tryz.results152, go_sem]; try rfl) rfl ⟨rfl, ?_⟩
    exact ((Below.refl _ _).alloc (Nat.le_refl _) _).alloc (by simp) _
  by_cases h1 : size ≤ n
  · obtain ⟨hR, hE⟩ : shT a mv n size = t0 ∧ shE a n size = 1 := by unfold shT shE; rw [if_pos (Or.inr h1), if_pos (Or.inr h1)]; exact ⟨rfl, rfl⟩
    rw [hR, hE]
    clear hR hE
    have h0' : 0 ≤ n := by omega
    unfold tv
    go_enter Tryz.func152, Tryz.ntmps152
    go_wp2
    refine bodyPost_ret (v := .tuple #[.agg #[.int .u64 0, .int .u64 0], .int .i64 1]) (by simp [results, Tryz.results152, go_sem]; try rfl) rfl ⟨rfl, ?_⟩
    exact ((Below.refl _ _).alloc (Nat.le_refl _) _).alloc (by simp) _
  obtain ⟨hR, hE⟩ : shT a mv n size = eachT a mv ∧ shE a n size = eachE a := by unfold shT shE; rw [if_neg (by omega), if_neg (by omega)]; exact ⟨rfl, rfl⟩
  rw [hR, hE]
  clear hR hE
  have HX := hid fun W (hW : Below w.heap.size w W) => eachLsh a mv p0 W (fun W' x hW' => HC.out (by omega) (by omega) W' x (hW.trans (hW'.mono hW.size)))
  clear HC
  generalize eachE a = E at *
  generalize eachT a mv = R at *
  have h0' : 0 ≤ n := by omega
  have h1' : n < size := by omega
  unfold tv at HX ⊢
  go_enter Tryz.func152, Tryz.ntmps152
  go_wp2_with fail
  refine (HX.out _ (((Below.refl _ _).alloc (Nat.le_refl _) _).alloc (by simp) _)).mono ?_
  rintro e w1 ⟨rfl, b1⟩
  have hb : Below w.heap.size w w1 := (((Below.refl _ _).alloc (Nat.le_refl _) _).alloc (by simp) _).trans (b1.mono (by simp; omega))
  obtain ⟨hc, hf⟩ := bcell b1
  have hz : w.heap.size + 1 < w1.heap.size := by have := b1.size; simp at this; omega
  have HB := hid hb
  clear b1 hb
  go_wp2
  refine bodyPost_ret (v := .tuple #[.agg #[.int .u64 (ub R.1), .int .u64 (ub R.2)], .int .i64 E]) (by simp [results, Tryz.results152, go_sem, hc, hz]; try rfl) rfl ⟨rfl, ?_⟩
  exact (HB.out.setCell (by simp) _).setCell (by simp) _
theorem shRsh (a : Tn) (mv : B64 → B64) (n size : Int) (p0 : Value) (w : World)
    (hcl : 0 ≤ n → n < size → ∀ W x, Below w.heap.size w W → Calls Tryz.prog 154 #[.int .u64 (ub x), p0] W fun e w' => e = .returned (.int .u64 (ub (mv x))) ∧ W = w') :
    Calls Tryz.prog 152 #[tv a, .int .i64 n, .int .i64 size, .func (.func 154) #[] #[p0]] w fun e w' => e = .returned (.tuple #[tv (shT a mv n size), .int .i64 (shE a n size)]) ∧ Below w.heap.size w w' := by
  have HC := hid hcl
  clear hcl
  by_cases h0 : n < 0
  · obtain ⟨hR, hE⟩ : shT a mv n size = t0 ∧ shE a n size = 1 := by unfold shT shE; rw [if_pos (Or.inl h0), if_pos (Or.inl h0)]; exact ⟨rfl, rfl⟩
    rw [hR, hE]
    clear hR hE
    unfold tv
    go_enter Tryz.func152, Tryz.ntmps152
    go_wp2
    refine bodyPost_ret (v := .tuple #[.agg #[.int .u64 0, .int .u64 0], .int .i64 1]) (by simp [results, Tryz.results152, go_sem]; try rfl) rfl ⟨rfl, ?_⟩
    exact ((Below.refl _ _).alloc (Nat.le_refl _) _).alloc (by simp) _
  by_cases h1 : size ≤ n
  · obtain ⟨hR, hE⟩ : shT a mv n size = t0 ∧ shE a n size = 1 := by unfold shT shE; rw [if_pos (Or.inr h1), if_pos (Or.inr h1)]; exact ⟨rfl, rfl⟩
    rw [hR, hE]
    clear hR hE
    have h0' : 0 ≤ n := by omega
    unfold tv
    go_enter Tryz.func152, Tryz.ntmps152
    go_wp2
    refine bodyPost_ret (v := .tuple #[.agg #[.int .u64 0, .int .u64 0], .int .i64 1]) (by simp [results, Tryz.results152, go_sem]; try rfl) rfl ⟨rfl, ?_⟩
    exact ((Below.refl _ _).alloc (Nat.le_refl _) _).alloc (by simp) _
  obtain ⟨hR, hE⟩ : shT a mv n size = eachT a mv ∧ shE a n size = eachE a := by unfold shT shE; rw [if_neg (by omega), if_neg (by omega)]; exact ⟨rfl, rfl⟩
  rw [hR, hE]
  clear hR hE
  have HX := hid fun W (hW : Below w.heap.size w W) => eachRsh a mv p0 W (fun W' x hW' => HC.out (by omega) (by omega) W' x (hW.trans (hW'.mono hW.size)))
  clear HC
  generalize eachE a = E at *
  generalize eachT a mv = R at *
  have h0' : 0 ≤ n := by omega
  have h1' : n < size := by omega
  unfold tv at HX ⊢
  go_enter Tryz.func152, Tryz.ntmps152
  go_wp2_with fail
  refine (HX.out _ (((Below.refl _ _).alloc (Nat.le_refl _) _).alloc (by simp) _)).mono ?_
  rintro e w1 ⟨rfl, b1⟩
  have hb : Below w.heap.size w w1 := (((Below.refl _ _).alloc (Nat.le_refl _) _).alloc (by simp) _).trans (b1.mono (by simp; omega))
  obtain ⟨hc, hf⟩ := bcell b1
  have hz : w.heap.size + 1 < w1.heap.size := by have := b1.size; simp at this; omega
  have HB := hid hb
  clear b1 hb
  go_wp2
  refine bodyPost_ret (v := .tuple #[.agg #[.int .u64 (ub R.1), .int .u64 (ub R.2)], .int .i64 E]) (by simp [results, Tryz.results152, go_sem, hc, hz]; try rfl) rfl ⟨rfl, ?_⟩
  exact (HB.out.setCell (by simp) _).setCell (by simp) _
theorem shArsh (a : Tn) (mv : B64 → B64) (n size : Int) (p0 : Value) (p1 : Value) (p2 : Value) (w : World)
    (hcl : 0 ≤ n → n < size → ∀ W x, Below w.heap.size w W → Calls Tryz.prog 155 #[.int .u64 (ub x), p0, p1, p2] W fun e w' => e = .returned (.int .u64 (ub (mv x))) ∧ W.drew = w') :
    Calls Tryz.prog 152 #[tv a, .int .i64 n, .int .i64 size, .func (.func 155) #[] #[p0, p1, p2]] w fun e w' => e = .returned (.tuple #[tv (shT a mv n size), .int .i64 (shE a n size)]) ∧ Below w.heap.size w w' := by
  have HC := hid hcl
  clear hcl
  by_cases h0 : n < 0
  · obtain ⟨hR, hE⟩ : shT a mv n size = t0 ∧ shE a n size = 1 := by unfold shT shE; rw [if_pos (Or.inl h0), if_pos (Or.inl h0)]; exact ⟨rfl, rfl⟩
    rw [hR, hE]
    clear hR hE
    unfold tv
    go_enter Tryz.func152, Tryz.ntmps152
    go_wp2
    refine bodyPost_ret (v := .tuple #[.agg #[.int .u64 0, .int .u64 0], .int .i64 1]) (by simp [results, Tryz.results152, go_sem]; try rfl) rfl ⟨rfl, ?_⟩
    exact ((Below.refl _ _).alloc (Nat.le_refl _) _).alloc (by simp) _
  by_cases h1 : size ≤ n
  · obtain ⟨hR, hE⟩ : shT a mv n size = t0 ∧ shE a n size = 1 := by unfold shT shE; rw [if_pos (Or.inr h1), if_pos (Or.inr h1)]; exact ⟨rfl, rfl⟩
    rw [hR, hE]
    clear hR hE
    have h0' : 0 ≤ n := by omega
    unfold tv
    go_enter Tryz.func152, Tryz.ntmps152
    go_wp2
    refine bodyPost_ret (v := .tuple #[.agg #[.int .u64 0, .int .u64 0], .int .i64 1]) (by simp [results, Tryz.results152, go_sem]; try rfl) rfl ⟨rfl, ?_⟩
    exact ((Below.refl _ _).alloc (Nat.le_refl _) _).alloc (by simp) _
  obtain ⟨hR, hE⟩ : shT a mv n size = eachT a mv ∧ shE a n size = eachE a := by unfold shT shE; rw [if_neg (by omega), if_neg (by omega)]; exact ⟨rfl, rfl⟩
  rw [hR, hE]
  clear hR hE
  have HX := hid fun W (hW : Below w.heap.size w W) => eachArsh a mv p0 p1 p2 W (fun W' x hW' => HC.out (by omega) (by omega) W' x (hW.trans (hW'.mono hW.size)))
  clear HC
  generalize eachE a = E at *
  generalize eachT a mv = R at *
  have h0' : 0 ≤ n := by omega
  have h1' : n < size := by omega
  unfold tv at HX ⊢
  go_enter Tryz.func152, Tryz.ntmps152
  go_wp2_with fail
  refine (HX.out _ (((Below.refl _ _).alloc (Nat.le_refl _) _).alloc (by simp) _)).mono ?_
  rintro e w1 ⟨rfl, b1⟩
  have hb : Below w.heap.size w w1 := (((Below.refl _ _).alloc (Nat.le_refl _) _).alloc (by simp) _).trans (b1.mono (by simp; omega))
  obtain ⟨hc, hf⟩ := bcell b1
  have hz : w.heap.size + 1 < w1.heap.size := by have := b1.size; simp at this; omega
  have HB := hid hb
  clear b1 hb
  go_wp2
  refine bodyPost_ret (v := .tuple #[.agg #[.int .u64 (ub R.1), .int .u64 (ub R.2)], .int .i64 E]) (by simp [results, Tryz.results152, go_sem, hc, hz]; try rfl) rfl ⟨rfl, ?_⟩
  exact (HB.out.setCell (by simp) _).setCell (by simp) _
theorem tLsh_any (a : Tn) (n : Int) (w : World) : Calls Tryz.prog 135 #[tv a, .int .i64 n] w fun e w' => e = .returned (.tuple #[tv (shT a (fun x => x <<< n.toNat) n 64), .int .i64 (shE a n 64)]) ∧ Below w.heap.size w w' := by
  have HX := hid fun W p (hp : W.cell? ⟨p, 0, none⟩ = some (.int .i64 n)) => shLsh a (fun x => x <<< n.toNat) n 64 (.pointer (some ⟨p, 0, none⟩)) W (fun h0 h1 W' x hW' => cLsh p n.toNat x W' (by omega) (by rw [Int.toNat_of_nonneg h0]; exact cn hW' hp))
  generalize shE a n 64 = E at *
  generalize shT a (fun x => x <<< n.toNat) n 64 = R at *
  unfold tv at HX ⊢
  go_enter Tryz.func135, Tryz.ntmps135
  go_wp2_with fail
  refine (HX.out _ _ (nc (by simp))).mono ?_
  rintro e w1 ⟨rfl, b1⟩
  have hb : Below w.heap.size w w1 := ((((Below.refl _ _).alloc (Nat.le_refl _) _).alloc (by simp) _).alloc (by simp; omega) _).trans (b1.mono (by simp; omega))
  obtain ⟨hc, hf⟩ := bcell b1
  have hz : w.heap.size + 1 + 1 < w1.heap.size := by have := b1.size; simp at this; omega
  have HB := hid hb
  clear b1 hb
  go_wp2
  refine bodyPost_ret (v := .tuple #[.agg #[.int .u64 (ub R.1), .int .u64 (ub R.2)], .int .i64 E]) (by simp [results, Tryz.results135, go_sem, hc, hz]; try rfl) rfl ⟨rfl, ?_⟩
  exact (HB.out.setCell (by simp; omega) _).setCell (by simp; omega) _
theorem tRsh_any (a : Tn) (n : Int) (w : World) : Calls Tryz.prog 136 #[tv a, .int .i64 n] w fun e w' => e = .returned (.tuple #[tv (shT a (fun x => x >>> n.toNat) n 64), .int .i64 (shE a n 64)]) ∧ Below w.heap.size w w' := by
  have HX := hid fun W p (hp : W.cell? ⟨p, 0, none⟩ = some (.int .i64 n)) => shRsh a (fun x => x >>> n.toNat) n 64 (.pointer (some ⟨p, 0, none⟩)) W (fun h0 h1 W' x hW' => cRsh p n.toNat x W' (by omega) (by rw [Int.toNat_of_nonneg h0]; exact cn hW' hp))
  generalize shE a n 64 = E at *
  generalize shT a (fun x => x >>> n.toNat) n 64 = R at *
  unfold tv at HX ⊢
  go_enter Tryz.func136, Tryz.ntmps136
  go_wp2_with fail
  refine (HX.out _ _ (nc (by simp))).mono ?_
  rintro e w1 ⟨rfl, b1⟩
  have hb : Below w.heap.size w w1 := ((((Below.refl _ _).alloc (Nat.le_refl _) _).alloc (by simp) _).alloc (by simp; omega) _).trans (b1.mono (by simp; omega))
  obtain ⟨hc, hf⟩ := bcell b1
  have hz : w.heap.size + 1 + 1 < w1.heap.size := by have := b1.size; simp at this; omega
  have HB := hid hb
  clear b1 hb
  go_wp2
  refine bodyPost_ret (v := .tuple #[.agg #[.int .u64 (ub R.1), .int .u64 (ub R.2)], .int .i64 E]) (by simp [results, Tryz.results136, go_sem, hc, hz]; try rfl) rfl ⟨rfl, ?_⟩
  exact (HB.out.setCell (by simp; omega) _).setCell (by simp; omega) _
end Go.Proofs.YtodmikjpmcabiaaGreat
