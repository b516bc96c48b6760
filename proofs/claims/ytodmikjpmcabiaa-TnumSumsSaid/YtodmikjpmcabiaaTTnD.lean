/-
  Contracts of package tnum's Meet and of what is shifted and cut, as the landed code has them.
-/
import Derived.Test.YtodmikjpmcabiaaTTnC
import Derived.Deep.RegionHeld3
import Derived.BigRegion
import Derived.Deep.RegionWith
namespace Go.Proofs.Ytodmikjpmcabiaa
set_option linter.unusedSimpArgs false
set_option linter.unusedVariables false
set_option maxRecDepth 100000
open Go.ChangeShapes Go.WideShapes Go.ChangeAt Go.RowKit

theorem cn {w w' : World} (hb : Below w.heap.size w w') {p : Addr} {c : Value} (h : w.cell? p = some c) : w'.cell? p = some c :=
  (hb.cell (World.block_lt_of_cell? w _ h)).trans h
theorem below_dr (w : World) : Below w.heap.size w w.drew := (Below.refl _ _).drew
theorem cs2 {w : World} {p : Addr} {q : Nat} {u u' c : Value} (h : w.cell? p = some c) (hq : p.block ≠ q) : ((w.setCell ⟨q, 0, none⟩ u).setCell ⟨q, 1, none⟩ u').drew.cell? p = some c := by
  rw [← h]
  exact World.cell?_of_block (w := w) ((Below.heap_setCell _ _ _ _ hq).trans (Below.heap_setCell _ _ _ _ hq))
def eachT (a : Tn) (f : B64 → B64) : Tn := if tmay a then (f a.1, f a.2) else t0
def eachE (a : Tn) : Int := if tmay a then 0 else 1
set_option maxHeartbeats 4000000 in
theorem eachArsh (a : Tn) (mv : B64 → B64) (p0 : Value) (p1 : Value) (p2 : Value) (w : World)
    (hcl : ∀ W n, Below w.heap.size w W → Calls Try.prog 108 #[.int .u64 (ub n), p0, p1, p2] W fun e w' => e = .returned (.int .u64 (ub (mv n))) ∧ W.drew = w') :
    Calls Try.prog 136 #[tv a, .func (.func 108) #[] #[p0, p1, p2]] w fun e w' => e = .returned (.tuple #[tv (eachT a mv), .int .i64 (eachE a)]) ∧ Below w.heap.size w w' := by
  have HC := hid hcl
  clear hcl
  obtain ⟨R, HR⟩ : ∃ R, R = eachT a mv := ⟨_, rfl⟩
  rw [← HR]
  unfold eachT at HR
  have HA := hid (tMay_any a)
  obtain ⟨v, m⟩ := a
  obtain ⟨E, hE⟩ : ∃ E, E = eachE (v, m) := ⟨_, rfl⟩
  rw [← hE]
  unfold eachE at hE
  unfold tv at HA ⊢
  cases ha : tmay (v, m)
  · rw [ha] at HA hE HR
    obtain rfl : E = 1 := hE
    obtain rfl : R = t0 := HR
    clear ha
    go_enter Try.func136, Try.ntmps136
    go_wp2_with fail
    refine (HA.out _).mono ?_
    rintro e w1 ⟨rfl, b1⟩
    have hb : Below w.heap.size w w1 := (((Below.refl _ _).alloc (Nat.le_refl _) _).alloc (by simp) _).trans (b1.mono (by simp; omega))
    obtain ⟨hc, hf⟩ := bcell b1
    have hz : w.heap.size + 1 < w1.heap.size := by have := b1.size; simp at this; omega
    have HB := hid hb
    clear b1 hb
    go_wp2
    refine bodyPost_ret (v := .tuple #[.agg #[.int .u64 0, .int .u64 0], .int .i64 1]) (by simp [results, Try.results136, go_sem, hc, hz]; try rfl) rfl ⟨rfl, ?_⟩
    exact (HB.out.setCell (by simp) _).setCell (by simp) _
  · rw [ha] at HA hE HR
    obtain rfl : E = 0 := hE
    obtain rfl : R = (mv v, mv m) := HR
    clear ha
    go_enter Try.func136, Try.ntmps136
    go_wp2_with fail
    refine (HA.out _).mono ?_
    rintro e w1 ⟨rfl, b1⟩
    have hb : Below w.heap.size w w1 := (((Below.refl _ _).alloc (Nat.le_refl _) _).alloc (by simp) _).trans (b1.mono (by simp; omega))
    obtain ⟨hc, hf⟩ := bcell b1
    have hz : w.heap.size + 1 < w1.heap.size := by have := b1.size; simp at this; omega
    have hy : w.heap.size < w1.heap.size := by omega
    have HB := hid hb
    clear b1 hb
    go_wp2_with fail
    have j0 : w1.cell? ⟨w.heap.size, 0, none⟩ = some (.int .u64 (ub v)) := by rw [hc _ _ (by simp; omega)]; simp
    have j1 : w1.cell? ⟨w.heap.size, 1, none⟩ = some (.int .u64 (ub m)) := by rw [hc _ _ (by simp; omega)]; simp
    have X : Below w.heap.size w w1 := HB.out
    go_region_held3 (fun w' => w'.cell? ⟨w.heap.size, 0, none⟩ = some (.int .u64 (ub v)) ∧ w'.cell? ⟨w.heap.size, 1, none⟩ = some (.int .u64 (ub m)) ∧ Below w.heap.size w w')
      (first | (go_split_ands; exact ⟨by assumption, by assumption, by assumption⟩) | (go_split_ands; exact ⟨cn (below_dr _) (by assumption), cn (below_dr _) (by assumption), Below.drew (by assumption)⟩) | (go_split_ands; exact ⟨cn (below_dr _) (cn (below_dr _) (cs2 j0 (by simp))), cn (below_dr _) (cn (below_dr _) (cs2 j1 (by simp))), (Below.setCell (Below.setCell X (by simp) _) (by simp) _).drew.drew.drew⟩) | exact ⟨cn (below_dr w1) j0, cn (below_dr w1) j1, X.drew⟩)
      (first | (go_at_call 108; go_split_ands; refine (HC.out _ _ (by assumption)).mono ?_; rintro e wq ⟨rfl, rfl⟩))
    go_wp2
    refine bodyPost_ret (v := .tuple #[.agg #[.int .u64 (ub (mv v)), .int .u64 (ub (mv m))], .int .i64 0]) (by simp [results, Try.results136, go_sem, hc, hz]; try rfl) rfl ⟨rfl, ?_⟩
    exact (Below.setCell (Below.setCell X (by simp) _) (by simp) _).drew.drew.drew
end Go.Proofs.Ytodmikjpmcabiaa
