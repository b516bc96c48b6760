import Derived.Test.YtodmikjpmcabiaaGreatZTnC
import Derived.Deep.RegionHeld3
import Derived.BigRegion
import Derived.Deep.RegionWith
import Derived.Deep.RegionLaw
namespace Go.Proofs.YtodmikjpmcabiaaGreat
set_option linter.unusedSimpArgs false
set_option linter.unusedVariables false
set_option maxRecDepth 100000
open Go.ChangeShapes Go.WideShapes Go.ChangeAt Go.RowKit

theorem cn {w w' : World} (hb : Below w.heap.size w w') {p : Addr} {c : Value} (h : w.cell? p = some c) : w'.cell? p = some c :=
  (hb.cell (World.block_lt_of_cell? w _ h)).trans h
theorem below_dr (w : World) : Below w.heap.size w w.drew := (Below.refl _ _).drew
theorem cs2 {w : World} {p : Addr} {q : Nat} {u u' c : Value} (h : w.cell? p = some c) (hq : p.block ≠ q) : ((w.setCell ⟨q, 0, none⟩ u).setCell ⟨q, 1, none⟩ u').drew.cell? p = some c := by
  rw [← h]
  exact World.cell?_of_block (w := w) ((Below.heap_setCell _ _ _ _ hq).trans (Below.heap_setCell _ _ _ _ hq))
def eachT (a : Tn) (f : B64 → B64) : Tn := if tmay a then (f a.1, f a.2) else t0
def eachE (a : Tn) : Int := if tmay a then 0 else 1
set_option maxHeartbeats 4000000 in
theorem eachCut (a : Tn) (mv : B64 → B64) (p0 : Value) (w : World)
    (hcl : ∀ W n, Below w.heap.size w W → Calls Tryz.prog 86 #[.int .u64 (ub n), p0] W fun e w' => e = .returned (.int .u64 (ub (mv n))) ∧ W = w') :
    Calls Tryz.prog 85 #[tv a, .func (.func 86) #[] #[p0]] w fun e w' => e = .returned (.tuple #[tv (eachT a mv), .int .i64 (eachE a)]) ∧ Below w.heap.size w w' := by
  have HC := hid hcl
  clear hcl
  obtain ⟨R, HR⟩ : ∃ R, R = eachT a mv := ⟨_, rfl⟩
  rw [← HR]
  unfold eachT at HR
  have HA := hid (tMay_any a)
  obtain ⟨v, m⟩ := a
  obtain ⟨E, hE⟩ : ∃ E, E = eachE (v, m) := ⟨_, rfl⟩
  rw [← hE]
  unfold eachE at hE
  unfold tv at HA ⊢
  cases ha : tmay (v, m)
  · rw [ha] at HA hE HR
    obtain rfl : E = 1 := hE
    obtain rfl : R = t0 := HR
    clear ha
    go_enter Tryz.func85, Tryz.ntmps85
    go_wp2_with fail
    refine (HA.out _).mono ?_
    rintro e w1 ⟨rfl, b1⟩
    have hb : Below w.heap.size w w1 := (((Below.refl _ _).alloc (Nat.le_refl _) _).alloc (by simp) _).trans (b1.mono (by simp; omega))
    obtain ⟨hc, hf⟩ := bcell b1
    have hz : w.heap.size + 1 < w1.heap.size := by have := b1.size; simp at this; omega
    have HB := hid hb
    clear b1 hb
    go_wp2
    refine bodyPost_ret (v := .tuple #[.agg #[.int .u64 0, .int .u64 0], .int .i64 1]) (by simp [results, Tryz.results85, go_sem, hc, hz]; try rfl) rfl ⟨rfl, ?_⟩
    exact (HB.out.setCell (by simp) _).setCell (by simp) _
  · rw [ha] at HA hE HR
    obtain rfl : E = 0 := hE
    obtain rfl : R = (mv v, mv m) := HR
    clear ha
    go_enter Tryz.func85, Tryz.ntmps85
    go_wp2_with fail
    refine (HA.out _).mono ?_
    rintro e w1 ⟨rfl, b1⟩
    have hb : Below w.heap.size w w1 := (((Below.refl _ _).alloc (Nat.le_refl _) _).alloc (by simp) _).trans (b1.mono (by simp; omega))
    obtain ⟨hc, hf⟩ := bcell b1
    have hz : w.heap.size + 1 < w1.heap.size := by have := b1.size; simp at this; omega
    have hy : w.heap.size < w1.heap.size := by omega
    have HB := hid hb
    clear b1 hb
    go_wp2_with fail
    have j0 : w1.cell? ⟨w.heap.size, 0, none⟩ = some (.int .u64 (ub v)) := by rw [hc _ _ (by simp; omega)]; simp
    have j1 : w1.cell? ⟨w.heap.size, 1, none⟩ = some (.int .u64 (ub m)) := by rw [hc _ _ (by simp; omega)]; simp
    have X : Below w.heap.size w w1 := HB.out
    go_region_held3 (fun w' => w'.cell? ⟨w.heap.size, 0, none⟩ = some (.int .u64 (ub v)) ∧ w'.cell? ⟨w.heap.size, 1, none⟩ = some (.int .u64 (ub m)) ∧ Below w.heap.size w w')
      (first | (go_split_ands; exact ⟨by assumption, by assumption, by assumption⟩) | (go_split_ands; exact ⟨cs2 j0 (by simp), cs2 j1 (by simp), (Below.setCell (Below.setCell X (by simp) _) (by simp) _).drew⟩) | exact ⟨cn (below_dr w1) j0, cn (below_dr w1) j1, X.drew⟩)
      (first | (go_at_call 86; go_split_ands; refine (HC.out _ _ (by assumption)).mono ?_; rintro e wq ⟨rfl, rfl⟩))
    go_wp2
    refine bodyPost_ret (v := .tuple #[.agg #[.int .u64 (ub (mv v)), .int .u64 (ub (mv m))], .int .i64 0]) (by simp [results, Tryz.results85, go_sem, hc, hz]; try rfl) rfl ⟨rfl, ?_⟩
    exact (Below.setCell (Below.setCell X (by simp) _) (by simp) _).drew
set_option maxHeartbeats 4000000 in
theorem eachLsh (a : Tn) (mv : B64 → B64) (p0 : Value) (w : World)
    (hcl : ∀ W n, Below w.heap.size w W → Calls Tryz.prog 153 #[.int .u64 (ub n), p0] W fun e w' => e = .returned (.int .u64 (ub (mv n))) ∧ W = w') :
    Calls Tryz.prog 85 #[tv a, .func (.func 153) #[] #[p0]] w fun e w' => e = .returned (.tuple #[tv (eachT a mv), .int .i64 (eachE a)]) ∧ Below w.heap.size w w' := by
  have HC := hid hcl
  clear hcl
  obtain ⟨R, HR⟩ : ∃ R, R = eachT a mv := ⟨_, rfl⟩
  rw [← HR]
  unfold eachT at HR
  have HA := hid (tMay_any a)
  obtain ⟨v, m⟩ := a
  obtain ⟨E, hE⟩ : ∃ E, E = eachE (v, m) := ⟨_, rfl⟩
  rw [← hE]
  unfold eachE at hE
  unfold tv at HA ⊢
  cases ha : tmay (v, m)
  · rw [ha] at HA hE HR
    obtain rfl : E = 1 := hE
    obtain rfl : R = t0 := HR
    clear ha
    go_enter Tryz.func85, Tryz.ntmps85
    go_wp2_with fail
    refine (HA.out _).mono ?_
    rintro e w1 ⟨rfl, b1⟩
    have hb : Below w.heap.size w w1 := (((Below.refl _ _).alloc (Nat.le_refl _) _).alloc (by simp) _).trans (b1.mono (by simp; omega))
    obtain ⟨hc, hf⟩ := bcell b1
    have hz : w.heap.size + 1 < w1.heap.size := by have := b1.size; simp at this; omega
    have HB := hid hb
    clear b1 hb
    go_wp2
    refine bodyPost_ret (v := .tuple #[.agg #[.int .u64 0, .int .u64 0], .int .i64 1]) (by simp [results, Tryz.results85, go_sem, hc, hz]; try rfl) rfl ⟨rfl, ?_⟩
    exact (HB.out.setCell (by simp) _).setCell (by simp) _
  · rw [ha] at HA hE HR
    obtain rfl : E = 0 := hE
    obtain rfl : R = (mv v, mv m) := HR
    clear ha
    go_enter Tryz.func85, Tryz.ntmps85
    go_wp2_with fail
    refine (HA.out _).mono ?_
    rintro e w1 ⟨rfl, b1⟩
    have hb : Below w.heap.size w w1 := (((Below.refl _ _).alloc (Nat.le_refl _) _).alloc (by simp) _).trans (b1.mono (by simp; omega))
    obtain ⟨hc, hf⟩ := bcell b1
    have hz : w.heap.size + 1 < w1.heap.size := by have := b1.size; simp at this; omega
    have hy : w.heap.size < w1.heap.size := by omega
    have HB := hid hb
    clear b1 hb
    go_wp2_with fail
    have j0 : w1.cell? ⟨w.heap.size, 0, none⟩ = some (.int .u64 (ub v)) := by rw [hc _ _ (by simp; omega)]; simp
    have j1 : w1.cell? ⟨w.heap.size, 1, none⟩ = some (.int .u64 (ub m)) := by rw [hc _ _ (by simp; omega)]; simp
    have X : Below w.heap.size w w1 := HB.out
    go_region_held3 (fun w' => w'.cell? ⟨w.heap.size, 0, none⟩ = some (.int .u64 (ub v)) ∧ w'.cell? ⟨w.heap.size, 1, none⟩ = some (.int .u64 (ub m)) ∧ Below w.heap.size w w')
      (first | (go_split_ands; exact ⟨by assumption, by assumption, by assumption⟩) | (go_split_ands; exact ⟨cs2 j0 (by simp), cs2 j1 (by simp), (Below.setCell (Below.setCell X (by simp) _) (by simp) _).drew⟩) | exact ⟨cn (below_dr w1) j0, cn (below_dr w1) j1, X.drew⟩)
      (first | (go_at_call 153; go_split_ands; refine (HC.out _ _ (by assumption)).mono ?_; rintro e wq ⟨rfl, rfl⟩))
    go_wp2
    refine bodyPost_ret (v := .tuple #[.agg #[.int .u64 (ub (mv v)), .int .u64 (ub (mv m))], .int .i64 0]) (by simp [results, Tryz.results85, go_sem, hc, hz]; try rfl) rfl ⟨rfl, ?_⟩
    exact (Below.setCell (Below.setCell X (by simp) _) (by simp) _).drew
set_option maxHeartbeats 4000000 in
theorem eachRsh (a : Tn) (mv : B64 → B64) (p0 : Value) (w : World)
    (hcl : ∀ W n, Below w.heap.size w W → Calls Tryz.prog 154 #[.int .u64 (ub n), p0] W fun e w' => e = .returned (.int .u64 (ub (mv n))) ∧ W = w') :
    Calls Tryz.prog 85 #[tv a, .func (.func 154) #[] #[p0]] w fun e w' => e = .returned (.tuple #[tv (eachT a mv), .int .i64 (eachE a)]) ∧ Below w.heap.size w w' := by
  have HC := hid hcl
  clear hcl
  obtain ⟨R, HR⟩ : ∃ R, R = eachT a mv := ⟨_, rfl⟩
  rw [← HR]
  unfold eachT at HR
  have HA := hid (tMay_any a)
  obtain ⟨v, m⟩ := a
  obtain ⟨E, hE⟩ : ∃ E, E = eachE (v, m) := ⟨_, rfl⟩
  rw [← hE]
  unfold eachE at hE
  unfold tv at HA ⊢
  cases ha : tmay (v, m)
  · rw [ha] at HA hE HR
    obtain rfl : E = 1 := hE
    obtain rfl : R = t0 := HR
    clear ha
    go_enter Tryz.func85, Tryz.ntmps85
    go_wp2_with fail
    refine (HA.out _).mono ?_
    rintro e w1 ⟨rfl, b1⟩
    have hb : Below w.heap.size w w1 := (((Below.refl _ _).alloc (Nat.le_refl _) _).alloc (by simp) _).trans (b1.mono (by simp; omega))
    obtain ⟨hc, hf⟩ := bcell b1
    have hz : w.heap.size + 1 < w1.heap.size := by have := b1.size; simp at this; omega
    have HB := hid hb
    clear b1 hb
    go_wp2
    refine bodyPost_ret (v := .tuple #[.agg #[.int .u64 0, .int .u64 0], .int .i64 1]) (by simp [results, Tryz.results85, go_sem, hc, hz]; try rfl) rfl ⟨rfl, ?_⟩
    exact (HB.out.setCell (by simp) _).setCell (by simp) _
  · rw [ha] at HA hE HR
    obtain rfl : E = 0 := hE
    obtain rfl : R = (mv v, mv m) := HR
    clear ha
    go_enter Tryz.func85, Tryz.ntmps85
    go_wp2_with fail
    refine (HA.out _).mono ?_
    rintro e w1 ⟨rfl, b1⟩
    have hb : Below w.heap.size w w1 := (((Below.refl _ _).alloc (Nat.le_refl _) _).alloc (by simp) _).trans (b1.mono (by simp; omega))
    obtain ⟨hc, hf⟩ := bcell b1
    have hz : w.heap.size + 1 < w1.heap.size := by have := b1.size; simp at this; omega
    have hy : w.heap.size < w1.heap.size := by omega
    have HB := hid hb
    clear b1 hb
    go_wp2_with fail
    have j0 : w1.cell? ⟨w.heap.size, 0, none⟩ = some (.int .u64 (ub v)) := by rw [hc _ _ (by simp; omega)]; simp
    have j1 : w1.cell? ⟨w.heap.size, 1, none⟩ = some (.int .u64 (ub m)) := by rw [hc _ _ (by simp; omega)]; simp
    have X : Below w.heap.size w w1 := HB.out
    go_region_held3 (fun w' => w'.cell? ⟨w.heap.size, 0, none⟩ = some (.int .u64 (ub v)) ∧ w'.cell? ⟨w.heap.size, 1, none⟩ = some (.int .u64 (ub m)) ∧ Below w.heap.size w w')
      (first | (go_split_ands; exact ⟨by assumption, by assumption, by assumption⟩) | (go_split_ands; exact ⟨cs2 j0 (by simp), cs2 j1 (by simp), (Below.setCell (Below.setCell X (by simp) _) (by simp) _).drew⟩) | exact ⟨cn (below_dr w1) j0, cn (below_dr w1) j1, X.drew⟩)
      (first | (go_at_call 154; go_split_ands; refine (HC.out _ _ (by assumption)).mono ?_; rintro e wq ⟨rfl, rfl⟩))
    go_wp2
    refine bodyPost_ret (v := .tuple #[.agg #[.int .u64 (ub (mv v)), .int .u64 (ub (mv m))], .int .i64 0]) (by simp [results, Tryz.results85, go_sem, hc, hz]; try rfl) rfl ⟨rfl, ?_⟩
    exact (Below.setCell (Below.setCell X (by simp) _) (by simp) _).drew
set_option maxHeartbeats 4000000 in
theorem eachArsh (a : Tn) (mv : B64 → B64) (p0 : Value) (p1 : Value) (p2 : Value) (w : World)
    (hcl : ∀ W n, Below w.heap.size w W → Calls Tryz.prog 155 #[.int .u64 (ub n), p0, p1, p2] W fun e w' => e = .returned (.int .u64 (ub (mv n))) ∧ W.drew = w') :
    Calls Tryz.prog 85 #[tv a, .func (.func 155) #[] #[p0, p1, p2]] w fun e w' => e = .returned (.tuple #[tv (eachT a mv), .int .i64 (eachE a)]) ∧ Below w.heap.size w w' := by
  have HC := hid hcl
  clear hcl
  obtain ⟨R, HR⟩ : ∃ R, R = eachT a mv := ⟨_, rfl⟩
  rw [← HR]
  unfold eachT at HR
  have HA := hid (tMay_any a)
  obtain ⟨v, m⟩ := a
  obtain ⟨E, hE⟩ : ∃ E, E = eachE (v, m) := ⟨_, rfl⟩
  rw [← hE]
  unfold eachE at hE
  unfold tv at HA ⊢
  cases ha : tmay (v, m)
  · rw [ha] at HA hE HR
    obtain rfl : E = 1 := hE
    obtain rfl : R = t0 := HR
    clear ha
    go_enter Tryz.func85, Tryz.ntmps85
    go_wp2_with fail
    refine (HA.out _).mono ?_
    rintro e w1 ⟨rfl, b1⟩
    have hb : Below w.heap.size w w1 := (((Below.refl _ _).alloc (Nat.le_refl _) _).alloc (by simp) _).trans (b1.mono (by simp; omega))
    obtain ⟨hc, hf⟩ := bcell b1
    have hz : w.heap.size + 1 < w1.heap.size := by have := b1.size; simp at this; omega
    have HB := hid hb
    clear b1 hb
    go_wp2
    refine bodyPost_ret (v := .tuple #[.agg #[.int .u64 0, .int .u64 0], .int .i64 1]) (by simp [results, Tryz.results85, go_sem, hc, hz]; try rfl) rfl ⟨rfl, ?_⟩
    exact (HB.out.setCell (by simp) _).setCell (by simp) _
  · rw [ha] at HA hE HR
    obtain rfl : E = 0 := hE
    obtain rfl : R = (mv v, mv m) := HR
    clear ha
    go_enter Tryz.func85, Tryz.ntmps85
    go_wp2_with fail
    refine (HA.out _).mono ?_
    rintro e w1 ⟨rfl, b1⟩
    have hb : Below w.heap.size w w1 := (((Below.refl _ _).alloc (Nat.le_refl _) _).alloc (by simp) _).trans (b1.mono (by simp; omega))
    obtain ⟨hc, hf⟩ := bcell b1
    have hz : w.heap.size + 1 < w1.heap.size := by have := b1.size; simp at this; omega
    have hy : w.heap.size < w1.heap.size := by omega
    have HB := hid hb
    clear b1 hb
    go_wp2_with fail
    have j0 : w1.cell? ⟨w.heap.size, 0, none⟩ = some (.int .u64 (ub v)) := by rw [hc _ _ (by simp; omega)]; simp
    have j1 : w1.cell? ⟨w.heap.size, 1, none⟩ = some (.int .u64 (ub m)) := by rw [hc _ _ (by simp; omega)]; simp
    have X : Below w.heap.size w w1 := HB.out
    go_region_held3 (fun w' => w'.cell? ⟨w.heap.size, 0, none⟩ = some (.int .u64 (ub v)) ∧ w'.cell? ⟨w.heap.size, 1, none⟩ = some (.int .u64 (ub m)) ∧ Below w.heap.size w w')
      (first | (go_split_ands; exact ⟨by assumption, by assumption, by assumption⟩) | (go_split_ands; exact ⟨cn (below_dr _) (by assumption), cn (below_dr _) (by assumption), Below.drew (by assumption)⟩) | (go_split_ands; exact ⟨cn (below_dr _) (cn (below_dr _) (cs2 j0 (by simp))), cn (below_dr _) (cn (below_dr _) (cs2 j1 (by simp))), (Below.setCell (Below.setCell X (by simp) _) (by simp) _).drew.drew.drew⟩) | exact ⟨cn (below_dr w1) j0, cn (below_dr w1) j1, X.drew⟩)
      (first | (go_at_call 155; go_split_ands; refine (HC.out _ _ (by assumption)).mono ?_; rintro e wq ⟨rfl, rfl⟩))
    go_wp2
    refine bodyPost_ret (v := .tuple #[.agg #[.int .u64 (ub (mv v)), .int .u64 (ub (mv m))], .int .i64 0]) (by simp [results, Tryz.results85, go_sem, hc, hz]; try rfl) rfl ⟨rfl, ?_⟩
    exact (Below.setCell (Below.setCell X (by simp) _) (by simp) _).drew.drew.drew
end Go.Proofs.YtodmikjpmcabiaaGreat

namespace Go.Proofs.YtodmikjpmcabiaaGreat
set_option linter.unusedSimpArgs false
set_option linter.unusedVariables false
set_option maxRecDepth 100000
open Go.ChangeShapes Go.WideShapes Go.ChangeAt Go.RowKit

def shT (a : Tn) (mv : B64 → B64) (n size : Int) : Tn := if n < 0 ∨ size ≤ n then t0 else eachT a mv
def shE (a : Tn) (n size : Int) : Int := if n < 0 ∨ size ≤ n then 1 else eachE a
theorem nc {w : World} {u : Value} {t : TypeId} {o : Obj} {b : Nat} (hb : b = w.heap.size) : ((w.alloc (.cells #[u] t)).alloc o).cell? ⟨b, 0, none⟩ = some u := by
  subst hb
  exact cn ((Below.refl _ _).alloc (Nat.le_refl _) o) (by simp)
def lowB (k : Nat) : B64 := 1#64 <<< k - 1#64
theorem cLsh (p : Nat) (k : Nat) (x : B64) (w : World) (hk : k ≤ 64) (hp : w.cell? ⟨p, 0, none⟩ = some (.int .i64 (k : Int))) :
    Calls Tryz.prog 153 #[.int .u64 (ub x), .pointer (some ⟨p, 0, none⟩)] w fun e w' => e = .returned (.int .u64 (ub (x <<< k))) ∧ w = w' := by
  go_enter Tryz.func153, Tryz.ntmps153
  go_wp2
  go_ret
  exact ⟨rfl, rfl⟩
theorem cRsh (p : Nat) (k : Nat) (x : B64) (w : World) (hk : k ≤ 64) (hp : w.cell? ⟨p, 0, none⟩ = some (.int .i64 (k : Int))) :
    Calls Tryz.prog 154 #[.int .u64 (ub x), .pointer (some ⟨p, 0, none⟩)] w fun e w' => e = .returned (.int .u64 (ub (x >>> k))) ∧ w = w' := by
  go_enter Tryz.func154, Tryz.ntmps154
  go_wp2
  go_ret
  exact ⟨rfl, rfl⟩
theorem cCut (p : Nat) (k : Nat) (x : B64) (w : World) (hk : k ≤ 64) (hp : w.cell? ⟨p, 0, none⟩ = some (.int .i64 (k : Int))) :
    Calls Tryz.prog 86 #[.int .u64 (ub x), .pointer (some ⟨p, 0, none⟩)] w fun e w' => e = .returned (.int .u64 (ub (x &&& lowB k))) ∧ w = w' := by
  have HL := hid fun W => low_any k W hk
  go_enter Tryz.func86, Tryz.ntmps86
  go_wp2_with fail
  refine (HL.out _).mono ?_
  rintro e w1 ⟨rfl, rfl⟩
  go_wp2
  go_ret
  exact ⟨rfl, rfl⟩
theorem shLsh (a : Tn) (mv : B64 → B64) (n size : Int) (p0 : Value) (w : World)
    (hcl : 0 ≤ n → n < size → ∀ W x, Below w.heap.size w W → Calls Tryz.prog 153 #[.int .u64 (ub x), p0] W fun e w' => e = .returned (.int .u64 (ub (mv x))) ∧ W = w') :
    Calls Tryz.prog 152 #[tv a, .int .i64 n, .int .i64 size, .func (.func 153) #[] #[p0]] w fun e w' => e = .returned (.tuple #[tv (shT a mv n size), .int .i64 (shE a n size)]) ∧ Below w.heap.size w w' := by
  have HC := hid hcl
  clear hcl
  by_cases h0 : n < 0
  · obtain ⟨hR, hE⟩ : shT a mv n size = t0 ∧ shE a n size = 1 := by unfold shT shE; rw [if_pos (Or.inl h0), if_pos (Or.inl h0)]; exact ⟨rfl, rfl⟩
    rw [hR, hE]
    clear hR hE
    unfold tv
    go_enter Tryz.func152, Tryz.ntmps152
    go_wp2
    refine bodyPost_ret (v := .tuple #[.agg #[.int .u64 0, .int .u64 0], .int .i64 1]) (by simp [results, Tryz.results152, go_sem]; try rfl) rfl ⟨rfl, ?_⟩
    exact ((Below.refl _ _).alloc (Nat.le_refl _) _).alloc (by simp) _
  by_cases h1 : size ≤ n
  · obtain ⟨hR, hE⟩ : shT a mv n size = t0 ∧ shE a n size = 1 := by unfold shT shE; rw [if_pos (Or.inr h1), if_pos (Or.inr h1)]; exact ⟨rfl, rfl⟩
    rw [hR, hE]
    clear hR hE
    have h0' : 0 ≤ n := by omega
    unfold tv
    go_enter Tryz.func152, Tryz.ntmps152
    go_wp2
    refine bodyPost_ret (v := .tuple #[.agg #[.int .u64 0, .int .u64 0], .int .i64 1]) (by simp [results, Tryz.results152, go_sem]; try rfl) rfl ⟨rfl, ?_⟩
    exact ((Below.refl _ _).alloc (Nat.le_refl _) _).alloc (by simp) _
  obtain ⟨hR, hE⟩ : shT a mv n size = eachT a mv ∧ shE a n size = eachE a := by unfold shT shE; rw [if_neg (by omega), if_neg (by omega)]; exact ⟨rfl, rfl⟩
  rw [hR, hE]
  clear hR hE
  have HX := hid fun W (hW : Below w.heap.size w W) => eachLsh a mv p0 W (fun W' x hW' => HC.out (by omega) (by omega) W' x (hW.trans (hW'.mono hW.size)))
  clear HC
  generalize eachE a = E at *
  generalize eachT a mv = R at *
  have h0' : 0 ≤ n := by omega
  have h1' : n < size := by omega
  unfold tv at HX ⊢
  go_enter Tryz.func152, Tryz.ntmps152
  go_wp2_with fail
  refine (HX.out _ (((Below.refl _ _).alloc (Nat.le_refl _) _).alloc (by simp) _)).mono ?_
  rintro e w1 ⟨rfl, b1⟩
  have hb : Below w.heap.size w w1 := (((Below.refl _ _).alloc (Nat.le_refl _) _).alloc (by simp) _).trans (b1.mono (by simp; omega))
  obtain ⟨hc, hf⟩ := bcell b1
  have hz : w.heap.size + 1 < w1.heap.size := by have := b1.size; simp at this; omega
  have HB := hid hb
  clear b1 hb
  go_wp2
  refine bodyPost_ret (v := .tuple #[.agg #[.int .u64 (ub R.1), .int .u64 (ub R.2)], .int .i64 E]) (by simp [results, Tryz.results152, go_sem, hc, hz]; try rfl) rfl ⟨rfl, ?_⟩
  exact (HB.out.setCell (by simp) _).setCell (by simp) _
theorem shRsh (a : Tn) (mv : B64 → B64) (n size : Int) (p0 : Value) (w : World)
    (hcl : 0 ≤ n → n < size → ∀ W x, Below w.heap.size w W → Calls Tryz.prog 154 #[.int .u64 (ub x), p0] W fun e w' => e = .returned (.int .u64 (ub (mv x))) ∧ W = w') :
    Calls Tryz.prog 152 #[tv a, .int .i64 n, .int .i64 size, .func (.func 154) #[] #[p0]] w fun e w' => e = .returned (.tuple #[tv (shT a mv n size), .int .i64 (shE a n size)]) ∧ Below w.heap.size w w' := by
  have HC := hid hcl
  clear hcl
  by_cases h0 : n < 0
  · obtain ⟨hR, hE⟩ : shT a mv n size = t0 ∧ shE a n size = 1 := by unfold shT shE; rw [if_pos (Or.inl h0), if_pos (Or.inl h0)]; exact ⟨rfl, rfl⟩
    rw [hR, hE]
    clear hR hE
    unfold tv
    go_enter Tryz.func152, Tryz.ntmps152
    go_wp2
    refine bodyPost_ret (v := .tuple #[.agg #[.int .u64 0, .int .u64 0], .int .i64 1]) (by simp [results, Tryz.results152, go_sem]; try rfl) rfl ⟨rfl, ?_⟩
    exact ((Below.refl _ _).alloc (Nat.le_refl _) _).alloc (by simp) _
  by_cases h1 : size ≤ n
  · obtain ⟨hR, hE⟩ : shT a mv n size = t0 ∧ shE a n size = 1 := by unfold shT shE; rw [if_pos (Or.inr h1), if_pos (Or.inr h1)]; exact ⟨rfl, rfl⟩
    rw [hR, hE]
    clear hR hE
    have h0' : 0 ≤ n := by omega
    unfold tv
    go_enter Tryz.func152, Tryz.ntmps152
    go_wp2
    refine bodyPost_ret (v := .tuple #[.agg #[.int .u64 0, .int .u64 0], .int .i64 1]) (by simp [results, Tryz.results152, go_sem]; try rfl) rfl ⟨rfl, ?_⟩
    exact ((Below.refl _ _).alloc (Nat.le_refl _) _).alloc (by simp) _
  obtain ⟨hR, hE⟩ : shT a mv n size = eachT a mv ∧ shE a n size = eachE a := by unfold shT shE; rw [if_neg (by omega), if_neg (by omega)]; exact ⟨rfl, rfl⟩
  rw [hR, hE]
  clear hR hE
  have HX := hid fun W (hW : Below w.heap.size w W) => eachRsh a mv p0 W (fun W' x hW' => HC.out (by omega) (by omega) W' x (hW.trans (hW'.mono hW.size)))
  clear HC
  generalize eachE a = E at *
  generalize eachT a mv = R at *
  have h0' : 0 ≤ n := by omega
  have h1' : n < size := by omega
  unfold tv at HX ⊢
  go_enter Tryz.func152, Tryz.ntmps152
  go_wp2_with fail
  refine (HX.out _ (((Below.refl _ _).alloc (Nat.le_refl _) _).alloc (by simp) _)).mono ?_
  rintro e w1 ⟨rfl, b1⟩
  have hb : Below w.heap.size w w1 := (((Below.refl _ _).alloc (Nat.le_refl _) _).alloc (by simp) _).trans (b1.mono (by simp; omega))
  obtain ⟨hc, hf⟩ := bcell b1
  have hz : w.heap.size + 1 < w1.heap.size := by have := b1.size; simp at this; omega
  have HB := hid hb
  clear b1 hb
  go_wp2
  refine bodyPost_ret (v := .tuple #[.agg #[.int .u64 (ub R.1), .int .u64 (ub R.2)], .int .i64 E]) (by simp [results, Tryz.results152, go_sem, hc, hz]; try rfl) rfl ⟨rfl, ?_⟩
  exact (HB.out.setCell (by simp) _).setCell (by simp) _
theorem shArsh (a : Tn) (mv : B64 → B64) (n size : Int) (p0 : Value) (p1 : Value) (p2 : Value) (w : World)
    (hcl : 0 ≤ n → n < size → ∀ W x, Below w.heap.size w W → Calls Tryz.prog 155 #[.int .u64 (ub x), p0, p1, p2] W fun e w' => e = .returned (.int .u64 (ub (mv x))) ∧ W.drew = w') :
    Calls Tryz.prog 152 #[tv a, .int .i64 n, .int .i64 size, .func (.func 155) #[] #[p0, p1, p2]] w fun e w' => e = .returned (.tuple #[tv (shT a mv n size), .int .i64 (shE a n size)]) ∧ Below w.heap.size w w' := by
  have HC := hid hcl
  clear hcl
  by_cases h0 : n < 0
  · obtain ⟨hR, hE⟩ : shT a mv n size = t0 ∧ shE a n size = 1 := by unfold shT shE; rw [if_pos (Or.inl h0), if_pos (Or.inl h0)]; exact ⟨rfl, rfl⟩
    rw [hR, hE]
    clear hR hE
    unfold tv
    go_enter Tryz.func152, Tryz.ntmps152
    go_wp2
    refine bodyPost_ret (v := .tuple #[.agg #[.int .u64 0, .int .u64 0], .int .i64 1]) (by simp [results, Tryz.results152, go_sem]; try rfl) rfl ⟨rfl, ?_⟩
    exact ((Below.refl _ _).alloc (Nat.le_refl _) _).alloc (by simp) _
  by_cases h1 : size ≤ n
  · obtain ⟨hR, hE⟩ : shT a mv n size = t0 ∧ shE a n size = 1 := by unfold shT shE; rw [if_pos (Or.inr h1), if_pos (Or.inr h1)]; exact ⟨rfl, rfl⟩
    rw [hR, hE]
    clear hR hE
    have h0' : 0 ≤ n := by omega
    unfold tv
    go_enter Tryz.func152, Tryz.ntmps152
    go_wp2
    refine bodyPost_ret (v := .tuple #[.agg #[.int .u64 0, .int .u64 0], .int .i64 1]) (by simp [results, Tryz.results152, go_sem]; try rfl) rfl ⟨rfl, ?_⟩
    exact ((Below.refl _ _).alloc (Nat.le_refl _) _).alloc (by simp) _
  obtain ⟨hR, hE⟩ : shT a mv n size = eachT a mv ∧ shE a n size = eachE a := by unfold shT shE; rw [if_neg (by omega), if_neg (by omega)]; exact ⟨rfl, rfl⟩
  rw [hR, hE]
  clear hR hE
  have HX := hid fun W (hW : Below w.heap.size w W) => eachArsh a mv p0 p1 p2 W (fun W' x hW' => HC.out (by omega) (by omega) W' x (hW.trans (hW'.mono hW.size)))
  clear HC
  generalize eachE a = E at *
  generalize eachT a mv = R at *
  have h0' : 0 ≤ n := by omega
  have h1' : n < size := by omega
  unfold tv at HX ⊢
  go_enter Tryz.func152, Tryz.ntmps152
  go_wp2_with fail
  refine (HX.out _ (((Below.refl _ _).alloc (Nat.le_refl _) _).alloc (by simp) _)).mono ?_
  rintro e w1 ⟨rfl, b1⟩
  have hb : Below w.heap.size w w1 := (((Below.refl _ _).alloc (Nat.le_refl _) _).alloc (by simp) _).trans (b1.mono (by simp; omega))
  obtain ⟨hc, hf⟩ := bcell b1
  have hz : w.heap.size + 1 < w1.heap.size := by have := b1.size; simp at this; omega
  have HB := hid hb
  clear b1 hb
  go_wp2
  refine bodyPost_ret (v := .tuple #[.agg #[.int .u64 (ub R.1), .int .u64 (ub R.2)], .int .i64 E]) (by simp [results, Tryz.results152, go_sem, hc, hz]; try rfl) rfl ⟨rfl, ?_⟩
  exact (HB.out.setCell (by simp) _).setCell (by simp) _
theorem tLsh_any (a : Tn) (n : Int) (w : World) : Calls Tryz.prog 135 #[tv a, .int .i64 n] w fun e w' => e = .returned (.tuple #[tv (shT a (fun x => x <<< n.toNat) n 64), .int .i64 (shE a n 64)]) ∧ Below w.heap.size w w' := by
  have HX := hid fun W p (hp : W.cell? ⟨p, 0, none⟩ = some (.int .i64 n)) => shLsh a (fun x => x <<< n.toNat) n 64 (.pointer (some ⟨p, 0, none⟩)) W (fun h0 h1 W' x hW' => cLsh p n.toNat x W' (by omega) (by rw [Int.toNat_of_nonneg h0]; exact cn hW' hp))
  generalize shE a n 64 = E at *
  generalize shT a (fun x => x <<< n.toNat) n 64 = R at *
  unfold tv at HX ⊢
  go_enter Tryz.func135, Tryz.ntmps135
  go_wp2_with fail
  refine (HX.out _ _ (nc (by simp))).mono ?_
  rintro e w1 ⟨rfl, b1⟩
  have hb : Below w.heap.size w w1 := ((((Below.refl _ _).alloc (Nat.le_refl _) _).alloc (by simp) _).alloc (by simp; omega) _).trans (b1.mono (by simp; omega))
  obtain ⟨hc, hf⟩ := bcell b1
  have hz : w.heap.size + 1 + 1 < w1.heap.size := by have := b1.size; simp at this; omega
  have HB := hid hb
  clear b1 hb
  go_wp2
  refine bodyPost_ret (v := .tuple #[.agg #[.int .u64 (ub R.1), .int .u64 (ub R.2)], .int .i64 E]) (by simp [results, Tryz.results135, go_sem, hc, hz]; try rfl) rfl ⟨rfl, ?_⟩
  exact (HB.out.setCell (by simp; omega) _).setCell (by simp; omega) _
theorem tRsh_any (a : Tn) (n : Int) (w : World) : Calls Tryz.prog 136 #[tv a, .int .i64 n] w fun e w' => e = .returned (.tuple #[tv (shT a (fun x => x >>> n.toNat) n 64), .int .i64 (shE a n 64)]) ∧ Below w.heap.size w w' := by
  have HX := hid fun W p (hp : W.cell? ⟨p, 0, none⟩ = some (.int .i64 n)) => shRsh a (fun x => x >>> n.toNat) n 64 (.pointer (some ⟨p, 0, none⟩)) W (fun h0 h1 W' x hW' => cRsh p n.toNat x W' (by omega) (by rw [Int.toNat_of_nonneg h0]; exact cn hW' hp))
  generalize shE a n 64 = E at *
  generalize shT a (fun x => x >>> n.toNat) n 64 = R at *
  unfold tv at HX ⊢
  go_enter Tryz.func136, Tryz.ntmps136
  go_wp2_with fail
  refine (HX.out _ _ (nc (by simp))).mono ?_
  rintro e w1 ⟨rfl, b1⟩
  have hb : Below w.heap.size w w1 := ((((Below.refl _ _).alloc (Nat.le_refl _) _).alloc (by simp) _).alloc (by simp; omega) _).trans (b1.mono (by simp; omega))
  obtain ⟨hc, hf⟩ := bcell b1
  have hz : w.heap.size + 1 + 1 < w1.heap.size := by have := b1.size; simp at this; omega
  have HB := hid hb
  clear b1 hb
  go_wp2
  refine bodyPost_ret (v := .tuple #[.agg #[.int .u64 (ub R.1), .int .u64 (ub R.2)], .int .i64 E]) (by simp [results, Tryz.results136, go_sem, hc, hz]; try rfl) rfl ⟨rfl, ?_⟩
  exact (HB.out.setCell (by simp; omega) _).setCell (by simp; omega) _
end Go.Proofs.YtodmikjpmcabiaaGreat

namespace Go.Proofs.YtodmikjpmcabiaaGreat
set_option linter.unusedSimpArgs false
set_option linter.unusedVariables false
set_option maxRecDepth 100000
open Go.ChangeShapes Go.WideShapes Go.ChangeAt Go.RowKit

def sz4 (n : Int) : Bool := n == 8 || n == 16 || n == 32 || n == 64
def cutT (a : Tn) (n : Int) : Tn := if sz4 n then eachT a (fun x => x &&& lowB n.toNat) else t0
def cutE (a : Tn) (n : Int) : Int := if sz4 n then eachE a else 1
theorem cut_is (a : Tn) (k : Nat) (w : World) (hk : k ≤ 64) (hs : (k : Int) = 8 ∨ (k : Int) = 16 ∨ (k : Int) = 32 ∨ (k : Int) = 64) : Calls Tryz.prog 52 #[tv a, .int .i64 (k : Int)] w fun e w' => e = .returned (.tuple #[tv (eachT a (fun x => x &&& lowB k)), .int .i64 (eachE a)]) ∧ Below w.heap.size w w' := by
  have HX := hid fun W p (hp : W.cell? ⟨p, 0, none⟩ = some (.int .i64 (k : Int))) => eachCut a (fun x => x &&& lowB k) (.pointer (some ⟨p, 0, none⟩)) W (fun W' x hW' => cCut p k x W' hk (cn hW' hp))
  generalize eachE a = E at *
  generalize eachT a (fun x => x &&& lowB k) = R at *
  unfold tv at HX ⊢
  generalize (k : Int) = K at *
  clear hk
  rcases hs with rfl | rfl | rfl | rfl
  · go_enter Tryz.func52, Tryz.ntmps52
    go_wp2_with fail
    refine (HX.out _ _ (nc (by simp))).mono ?_
    rintro e w1 ⟨rfl, b1⟩
    have hb : Below w.heap.size w w1 := ((((Below.refl _ _).alloc (Nat.le_refl _) _).alloc (by simp) _).alloc (by simp; omega) _).trans (b1.mono (by simp; omega))
    obtain ⟨hc, hf⟩ := bcell b1
    have hz : w.heap.size + 1 + 1 < w1.heap.size := by have := b1.size; simp at this; omega
    have HB := hid hb
    clear b1 hb
    go_wp2
    refine bodyPost_ret (v := .tuple #[.agg #[.int .u64 (ub R.1), .int .u64 (ub R.2)], .int .i64 E]) (by simp [results, Tryz.results52, go_sem, hc, hz]; try rfl) rfl ⟨rfl, ?_⟩
    exact (HB.out.setCell (by simp; omega) _).setCell (by simp; omega) _
  · go_enter Tryz.func52, Tryz.ntmps52
    go_wp2_with fail
    refine (HX.out _ _ (nc (by simp))).mono ?_
    rintro e w1 ⟨rfl, b1⟩
    have hb : Below w.heap.size w w1 := ((((Below.refl _ _).alloc (Nat.le_refl _) _).alloc (by simp) _).alloc (by simp; omega) _).trans (b1.mono (by simp; omega))
    obtain ⟨hc, hf⟩ := bcell b1
    have hz : w.heap.size + 1 + 1 < w1.heap.size := by have := b1.size; simp at this; omega
    have HB := hid hb
    clear b1 hb
    go_wp2
    refine bodyPost_ret (v := .tuple #[.agg #[.int .u64 (ub R.1), .int .u64 (ub R.2)], .int .i64 E]) (by simp [results, Tryz.results52, go_sem, hc, hz]; try rfl) rfl ⟨rfl, ?_⟩
    exact (HB.out.setCell (by simp; omega) _).setCell (by simp; omega) _
  · go_enter Tryz.func52, Tryz.ntmps52
    go_wp2_with fail
    refine (HX.out _ _ (nc (by simp))).mono ?_
    rintro e w1 ⟨rfl, b1⟩
    have hb : Below w.heap.size w w1 := ((((Below.refl _ _).alloc (Nat.le_refl _) _).alloc (by simp) _).alloc (by simp; omega) _).trans (b1.mono (by simp; omega))
    obtain ⟨hc, hf⟩ := bcell b1
    have hz : w.heap.size + 1 + 1 < w1.heap.size := by have := b1.size; simp at this; omega
    have HB := hid hb
    clear b1 hb
    go_wp2
    refine bodyPost_ret (v := .tuple #[.agg #[.int .u64 (ub R.1), .int .u64 (ub R.2)], .int .i64 E]) (by simp [results, Tryz.results52, go_sem, hc, hz]; try rfl) rfl ⟨rfl, ?_⟩
    exact (HB.out.setCell (by simp; omega) _).setCell (by simp; omega) _
  · go_enter Tryz.func52, Tryz.ntmps52
    go_wp2_with fail
    refine (HX.out _ _ (nc (by simp))).mono ?_
    rintro e w1 ⟨rfl, b1⟩
    have hb : Below w.heap.size w w1 := ((((Below.refl _ _).alloc (Nat.le_refl _) _).alloc (by simp) _).alloc (by simp; omega) _).trans (b1.mono (by simp; omega))
    obtain ⟨hc, hf⟩ := bcell b1
    have hz : w.heap.size + 1 + 1 < w1.heap.size := by have := b1.size; simp at this; omega
    have HB := hid hb
    clear b1 hb
    go_wp2
    refine bodyPost_ret (v := .tuple #[.agg #[.int .u64 (ub R.1), .int .u64 (ub R.2)], .int .i64 E]) (by simp [results, Tryz.results52, go_sem, hc, hz]; try rfl) rfl ⟨rfl, ?_⟩
    exact (HB.out.setCell (by simp; omega) _).setCell (by simp; omega) _
theorem tCut_any (a : Tn) (n : Int) (w : World) : Calls Tryz.prog 52 #[tv a, .int .i64 n] w fun e w' => e = .returned (.tuple #[tv (cutT a n), .int .i64 (cutE a n)]) ∧ Below w.heap.size w w' := by
  unfold cutT cutE
  by_cases hs : n = 8 ∨ n = 16 ∨ n = 32 ∨ n = 64
  · have h4 : sz4 n = true := by rcases hs with rfl | rfl | rfl | rfl <;> rfl
    rw [if_pos h4, if_pos h4]
    obtain ⟨k, rfl⟩ := Int.eq_ofNat_of_zero_le (show 0 ≤ n by omega)
    rw [Int.toNat_natCast]
    exact cut_is a k w (by omega) hs
  · have e1 : (n == 8) = false := by rw [beq_eq_false_iff_ne]; omega
    have e2 : (n == 16) = false := by rw [beq_eq_false_iff_ne]; omega
    have e3 : (n == 32) = false := by rw [beq_eq_false_iff_ne]; omega
    have e4 : (n == 64) = false := by rw [beq_eq_false_iff_ne]; omega
    have h4 : ¬ sz4 n = true := by unfold sz4; rw [e1, e2, e3, e4]; decide
    rw [if_neg h4, if_neg h4]
    clear h4 hs
    unfold tv
    go_enter Tryz.func52, Tryz.ntmps52
    go_wp2
    refine bodyPost_ret (v := .tuple #[.agg #[.int .u64 0, .int .u64 0], .int .i64 1]) (by simp [results, Tryz.results52, go_sem]; try rfl) rfl ⟨rfl, ?_⟩
    exact ((((Below.refl _ _).alloc (Nat.le_refl _) _).alloc (by simp) _).alloc (by simp; omega) _)
def arB (u k l : Nat) (x : B64) : B64 := ((x <<< u).sshiftRight u).sshiftRight k &&& lowB l
theorem ib_of2 (x : B64) : IntKind.i64.wrap (ub x) = ib x := by rw [← ib_of]; first | rfl | (unfold wrap64; exact IntKind.wrap_i64 _)
set_option maxHeartbeats 1000000 in
theorem cArsh (p q r : Nat) (u k l : Nat) (x : B64) (w : World) (hu : u < 64) (hk : k < 64) (hl : l ≤ 64) (hp : w.cell? ⟨p, 0, none⟩ = some (.int .i64 (u : Int))) (hq : w.cell? ⟨q, 0, none⟩ = some (.int .i64 (k : Int))) (hr : w.cell? ⟨r, 0, none⟩ = some (.int .i64 (l : Int))) :
    Calls Tryz.prog 155 #[.int .u64 (ub x), .pointer (some ⟨p, 0, none⟩), .pointer (some ⟨q, 0, none⟩), .pointer (some ⟨r, 0, none⟩)] w fun e w' => e = .returned (.int .u64 (ub (arB u k l x))) ∧ w.drew = w' := by
  have HL := hid fun W => low_any l W hl
  go_enter Tryz.func155, Tryz.ntmps155
  go_wp2_with fail
  go_region_held3 (fun w' => w'.cell? ⟨p, 0, none⟩ = some (.int .i64 (u : Int)) ∧ w'.cell? ⟨q, 0, none⟩ = some (.int .i64 (k : Int)) ∧ w'.cell? ⟨r, 0, none⟩ = some (.int .i64 (l : Int)) ∧ Below w.heap.size w w')
      (first | (go_split_ands; exact ⟨by assumption, by assumption, by assumption, by assumption⟩) | exact ⟨cn (below_dr w) hp, cn (below_dr w) hq, cn (below_dr w) hr, below_dr w⟩)
      (first | (go_at_call 87; refine (HL.out _).mono ?_; rintro e wq ⟨rfl, rfl⟩))
  go_wp2
  go_ret
  refine ⟨congrArg Ending.returned (congrArg (Value.int IntKind.u64) ?_), rfl⟩
  simp only [ib_of2, ib_shr, ib_wrap, ub_and]
  rfl
theorem cell_new (w : World) (u : Value) (t : TypeId) (b : Nat) (hb : b = w.heap.size) : (w.alloc (.cells #[u] t)).cell? ⟨b, 0, none⟩ = some u := by
  subst hb
  simp
theorem cna {w : World} (o : Obj) {p : Addr} {c : Value} (h : w.cell? p = some c) : (w.alloc o).cell? p = some c := cn ((Below.refl w.heap.size w).alloc (Nat.le_refl _) o) h
def arshT (a : Tn) (n size : Int) : Tn := if size = 32 then shT a (arB 32 n.toNat 32) n 32 else if size = 64 then shT a (arB 0 n.toNat 64) n 64 else t0
def arshE (a : Tn) (n size : Int) : Int := if size = 32 then shE a n 32 else if size = 64 then shE a n 64 else 1
theorem arsh32 (a : Tn) (n : Int) (w : World) : Calls Tryz.prog 137 #[tv a, .int .i64 n, .int .i64 32] w fun e w' => e = .returned (.tuple #[tv (shT a (arB 32 n.toNat 32) n 32), .int .i64 (shE a n 32)]) ∧ Below w.heap.size w w' := by
  have HX := hid fun W p q r (hp : W.cell? ⟨p, 0, none⟩ = some (.int .i64 32)) (hq : W.cell? ⟨q, 0, none⟩ = some (.int .i64 n)) (hr : W.cell? ⟨r, 0, none⟩ = some (.int .i64 32)) => shArsh a (arB 32 n.toNat 32) n 32 (.pointer (some ⟨p, 0, none⟩)) (.pointer (some ⟨q, 0, none⟩)) (.pointer (some ⟨r, 0, none⟩)) W (fun h0 h1 W' x hW' => cArsh p q r 32 n.toNat 32 x W' (by omega) (by omega) (by omega) (cn hW' hp) (by rw [Int.toNat_of_nonneg h0]; exact cn hW' hq) (cn hW' hr))
  generalize shE a n 32 = E at *
  generalize shT a (arB 32 n.toNat 32) n 32 = R at *
  unfold tv at HX ⊢
  go_enter Tryz.func137, Tryz.ntmps137
  go_wp2_with fail
  refine Calls.mono (HX.out _ _ _ _ ?_ ?_ ?_) ?_
  · exact cell_new _ _ _ _ (by simp)
  · exact cna _ (cna _ (cna _ (cell_new _ _ _ _ (by simp))))
  · exact cna _ (cna _ (cell_new _ _ _ _ (by simp)))
  rintro e w1 ⟨rfl, b1⟩
  have hb : Below w.heap.size w w1 := ((((((Below.refl _ _).alloc (Nat.le_refl _) _).alloc (by simp) _).alloc (by simp; omega) _).alloc (by simp; omega) _).alloc (by simp; omega) _).trans (b1.mono (by simp; omega))
  obtain ⟨hc, hf⟩ := bcell b1
  have hz : w.heap.size + 1 + 1 + 1 < w1.heap.size := by have := b1.size; simp at this; omega
  have HB := hid hb
  clear b1 hb
  go_wp2
  refine bodyPost_ret (v := .tuple #[.agg #[.int .u64 (ub R.1), .int .u64 (ub R.2)], .int .i64 E]) (by simp [results, Tryz.results137, go_sem, hc, hz]; try rfl) rfl ⟨rfl, ?_⟩
  exact (HB.out.setCell (by simp; omega) _).setCell (by simp; omega) _
theorem arsh64 (a : Tn) (n : Int) (w : World) : Calls Tryz.prog 137 #[tv a, .int .i64 n, .int .i64 64] w fun e w' => e = .returned (.tuple #[tv (shT a (arB 0 n.toNat 64) n 64), .int .i64 (shE a n 64)]) ∧ Below w.heap.size w w' := by
  have HX := hid fun W p q r (hp : W.cell? ⟨p, 0, none⟩ = some (.int .i64 0)) (hq : W.cell? ⟨q, 0, none⟩ = some (.int .i64 n)) (hr : W.cell? ⟨r, 0, none⟩ = some (.int .i64 64)) => shArsh a (arB 0 n.toNat 64) n 64 (.pointer (some ⟨p, 0, none⟩)) (.pointer (some ⟨q, 0, none⟩)) (.pointer (some ⟨r, 0, none⟩)) W (fun h0 h1 W' x hW' => cArsh p q r 0 n.toNat 64 x W' (by omega) (by omega) (by omega) (cn hW' hp) (by rw [Int.toNat_of_nonneg h0]; exact cn hW' hq) (cn hW' hr))
  generalize shE a n 64 = E at *
  generalize shT a (arB 0 n.toNat 64) n 64 = R at *
  unfold tv at HX ⊢
  go_enter Tryz.func137, Tryz.ntmps137
  go_wp2_with fail
  refine Calls.mono (HX.out _ _ _ _ ?_ ?_ ?_) ?_
  · exact cell_new _ _ _ _ (by simp)
  · exact cna _ (cna _ (cna _ (cell_new _ _ _ _ (by simp))))
  · exact cna _ (cna _ (cell_new _ _ _ _ (by simp)))
  rintro e w1 ⟨rfl, b1⟩
  have hb : Below w.heap.size w w1 := ((((((Below.refl _ _).alloc (Nat.le_refl _) _).alloc (by simp) _).alloc (by simp; omega) _).alloc (by simp; omega) _).alloc (by simp; omega) _).trans (b1.mono (by simp; omega))
  obtain ⟨hc, hf⟩ := bcell b1
  have hz : w.heap.size + 1 + 1 + 1 < w1.heap.size := by have := b1.size; simp at this; omega
  have HB := hid hb
  clear b1 hb
  go_wp2
  refine bodyPost_ret (v := .tuple #[.agg #[.int .u64 (ub R.1), .int .u64 (ub R.2)], .int .i64 E]) (by simp [results, Tryz.results137, go_sem, hc, hz]; try rfl) rfl ⟨rfl, ?_⟩
  exact (HB.out.setCell (by simp; omega) _).setCell (by simp; omega) _
theorem tArsh_any (a : Tn) (n size : Int) (w : World) : Calls Tryz.prog 137 #[tv a, .int .i64 n, .int .i64 size] w fun e w' => e = .returned (.tuple #[tv (arshT a n size), .int .i64 (arshE a n size)]) ∧ Below w.heap.size w w' := by
  by_cases h1 : size = 32
  · subst h1; exact arsh32 a n w
  by_cases h2 : size = 64
  · subst h2; exact arsh64 a n w
  unfold arshT arshE
  rw [if_neg h1, if_neg h1, if_neg h2, if_neg h2]
  have e1 : (size == 32) = false := by rw [beq_eq_false_iff_ne]; omega
  have e2 : (size == 64) = false := by rw [beq_eq_false_iff_ne]; omega
  have e3 : (size != 32) = true := by simp [h1]
  have e4 : (size != 64) = true := by simp [h2]
  clear h1 h2
  unfold tv
  go_enter Tryz.func137, Tryz.ntmps137
  go_wp2
  refine bodyPost_ret (v := .tuple #[.agg #[.int .u64 0, .int .u64 0], .int .i64 1]) (by simp [results, Tryz.results137, go_sem]; try rfl) rfl ⟨rfl, ?_⟩
  exact (((((Below.refl _ _).alloc (Nat.le_refl _) _).alloc (by simp) _).alloc (by simp; omega) _).alloc (by simp; omega) _)
end Go.Proofs.YtodmikjpmcabiaaGreat

namespace Go.Proofs.YtodmikjpmcabiaaGreat
set_option linter.unusedSimpArgs false
set_option linter.unusedVariables false
set_option maxRecDepth 100000
open Go.ChangeShapes Go.WideShapes Go.ChangeAt Go.RowKit

def TB (w : World) (b : Nat) (t : Tn) : Prop := TC w b t ∧ w.frozen? ⟨b, 0, none⟩ = false ∧ w.frozen? ⟨b, 1, none⟩ = false
theorem TB.below {w w' : World} {b : Nat} {t : Tn} (h : TB w b t) (hb : Below w.heap.size w w') : TB w' b t :=
  ⟨h.1.below hb, (hb.frozen (p := ⟨b, 0, none⟩) h.1.1).trans h.2.1, (hb.frozen (p := ⟨b, 1, none⟩) h.1.1).trans h.2.2⟩
theorem TB.new {w : World} {a : Tn} {t : TypeId} {b : Nat} (hb : b = w.heap.size) : TB (w.alloc (.cells #[.int .u64 (ub a.1), .int .u64 (ub a.2)] t)) b a :=
  ⟨TC.new hb, by subst hb; simp, by subst hb; simp⟩
theorem TB.put {w : World} {b : Nat} {t : Tn} (h : TB w b t) (u : Tn) : TB ((w.setCell ⟨b, 0, none⟩ (.int .u64 (ub u.1))).setCell ⟨b, 1, none⟩ (.int .u64 (ub u.2))) b u := by
  obtain ⟨⟨h0, h1, h2⟩, h3, h4⟩ := h
  refine ⟨⟨by simp; exact h0, ?_, ?_⟩, by simp; exact h3, by simp; exact h4⟩
  · exact (World.cell?_setCell_other _ _ _ _ (by simp)).trans (World.cell?_setCell_same _ _ _ h1)
  · exact World.cell?_setCell_same _ _ _ ((World.cell?_setCell_other _ _ _ _ (by simp)).trans h2)
theorem TB.other {w : World} {b c : Nat} {t : Tn} (h : TB w b t) (hbc : b ≠ c) (u v : Value) : TB ((w.setCell ⟨c, 0, none⟩ u).setCell ⟨c, 1, none⟩ v) b t := by
  obtain ⟨⟨h0, h1, h2⟩, h3, h4⟩ := h
  have e : ∀ b', b' ≠ c → ((w.setCell ⟨c, 0, none⟩ u).setCell ⟨c, 1, none⟩ v).heap[b']? = w.heap[b']? := fun b' hb' => (Below.heap_setCell _ _ _ _ hb').trans (Below.heap_setCell _ _ _ _ hb')
  refine ⟨⟨by simp; exact h0, ?_, ?_⟩, ?_, ?_⟩
  · exact (World.cell?_of_block (w := w) (a := ⟨b, 0, none⟩) (e b hbc)).trans h1
  · exact (World.cell?_of_block (w := w) (a := ⟨b, 1, none⟩) (e b hbc)).trans h2
  · exact (World.frozen?_of_block (w := w) (a := ⟨b, 0, none⟩) (e b hbc)).trans h3
  · exact (World.frozen?_of_block (w := w) (a := ⟨b, 1, none⟩) (e b hbc)).trans h4

theorem TC.put {w : World} {g c : Nat} {t : Tn} (h : TC w g t) (hgc : g ≠ c) (u v : Value) : TC ((w.setCell ⟨c, 0, none⟩ u).setCell ⟨c, 1, none⟩ v) g t := by
  obtain ⟨h0, h1, h2⟩ := h
  have e : ((w.setCell ⟨c, 0, none⟩ u).setCell ⟨c, 1, none⟩ v).heap[g]? = w.heap[g]? := (Below.heap_setCell _ _ _ _ hgc).trans (Below.heap_setCell _ _ _ _ hgc)
  exact ⟨by simp; exact h0, (World.cell?_of_block (w := w) (a := ⟨g, 0, none⟩) e).trans h1, (World.cell?_of_block (w := w) (a := ⟨g, 1, none⟩) e).trans h2⟩
structure MuI (w : World) (p q : Nat) (a b : Tn) (b3 : Nat) (t : Tn) (wr : World) : Prop where
  ca : TC wr p a
  cb : TC wr q b
  res : TB wr w.heap.size t0
  acc : TB wr b3 t
  bel : Below w.heap.size w wr
  n1 : w.heap.size < b3
theorem MuI.next {w : World} {p q : Nat} {a b : Tn} {b3 : Nat} {t : Tn} {wr w' : World} (h : MuI w p q a b b3 t wr) (hb : Below wr.heap.size wr w') : MuI w p q a b b3 t w' :=
  ⟨h.ca.below hb, h.cb.below hb, h.res.below hb, h.acc.below hb, h.bel.trans (hb.mono h.bel.size), h.n1⟩
theorem MuI.put {w : World} {p q : Nat} {a b : Tn} {b3 : Nat} {t : Tn} {wr : World} (h : MuI w p q a b b3 t wr) (hp : p < w.heap.size) (hq : q < w.heap.size) (u : Tn) :
    MuI w p q a b b3 u ((wr.setCell ⟨b3, 0, none⟩ (.int .u64 (ub u.1))).setCell ⟨b3, 1, none⟩ (.int .u64 (ub u.2))) := by
  have hn := h.n1
  have e : ∀ b', b' ≠ b3 → ((wr.setCell ⟨b3, 0, none⟩ (.int .u64 (ub u.1))).setCell ⟨b3, 1, none⟩ (.int .u64 (ub u.2))).heap[b']? = wr.heap[b']? := fun b' hb' => (Below.heap_setCell _ _ _ _ hb').trans (Below.heap_setCell _ _ _ _ hb')
  refine ⟨⟨by simp; exact h.ca.1, ?_, ?_⟩, ⟨by simp; exact h.cb.1, ?_, ?_⟩, h.res.other (by omega) _ _, h.acc.put u, (h.bel.setCell (Nat.le_of_lt hn) _).setCell (Nat.le_of_lt hn) _, hn⟩
  · exact (World.cell?_of_block (w := wr) (a := ⟨p, 0, none⟩) (e p (by omega))).trans h.ca.2.1
  · exact (World.cell?_of_block (w := wr) (a := ⟨p, 1, none⟩) (e p (by omega))).trans h.ca.2.2
  · exact (World.cell?_of_block (w := wr) (a := ⟨q, 0, none⟩) (e q (by omega))).trans h.cb.2.1
  · exact (World.cell?_of_block (w := wr) (a := ⟨q, 1, none⟩) (e q (by omega))).trans h.cb.2.2
set_option maxHeartbeats 4000000 in
theorem cMul (p q : Nat) (a b : Tn) (w : World) (ha : TC w p a) (hb : TC w q b) : Calls Tryz.prog 131 #[.pointer (some ⟨q, 0, none⟩), .pointer (some ⟨p, 0, none⟩)] w fun e w' => e = .returned (tv (mulN a b 64)) ∧ Below w.heap.size w w' := by
  have hp := ha.1
  have hq := hb.1
  have HA := hid ha
  have HB := hid hb
  clear ha hb
  go_enter Tryz.func131, Tryz.ntmps131
  go_wp2_with fail
  refine (tOf_any 0#64 _).mono ?_
  rintro e w1 ⟨rfl, b1⟩
  have X0 : MuI w p q a b w1.heap.size t0 (w1.alloc (.cells #[.int .u64 (ub 0#64), .int .u64 (ub 0#64)] 24)) := by
    have ba := (Below.refl w.heap.size w).alloc (Nat.le_refl _) (.cells #[.int .u64 0, .int .u64 0] 24)
    have bb := ba.trans (b1.mono (by simp))
    have bc := (Below.refl w1.heap.size w1).alloc (Nat.le_refl _) (.cells #[.int .u64 (ub 0#64), .int .u64 (ub 0#64)] 24)
    have hz := b1.size
    exact ⟨(HA.out.below bb).below bc, (HB.out.below bb).below bc, (TB.below (TB.new (a := t0) rfl) b1).below bc, TB.new (a := t0) rfl, bb.alloc bb.size _, by simp at hz; omega⟩
  have HX0 := hid X0
  clear X0 b1
  unfold tv
  go_wp2_with fail
  go_loopw [7] (fun i wr => ∃ k : Nat, k ≤ 64 ∧ i = .int .i64 k ∧ Hid (MuI w p q a b w1.heap.size (mulN a b k) wr)) (fun i _ => 64 - (intOf i).toNat)
  case atStart => exact ⟨0, by omega, rfl, HX0⟩
  case round =>
    obtain ⟨k, hk, rfl, HI⟩ := hrel
    obtain ⟨wo, rfl⟩ : ∃ wo : World, wo = wr := ⟨_, rfl⟩
    by_cases hlt : k < 64
    · have hlt' : (k : Int) < 64 := by omega
      have hq' := HI.out.cb.1
      have q1 := HI.out.cb.2.1
      have q2 := HI.out.cb.2.2
      go_wp2_with fail
      go_region
      have I5 : MuI w p q a b w1.heap.size (mulN a b k) (wo.alloc (.cells #[.int .u64 (ub (b.1 <<< k)), .int .u64 (ub (b.2 <<< k))] 24)).drew := HI.out.next ((Below.refl _ _).alloc (Nat.le_refl _) _).drew
      have T5 : TC (wo.alloc (.cells #[.int .u64 (ub (b.1 <<< k)), .int .u64 (ub (b.2 <<< k))] 24)).drew wo.heap.size (upT b k) := (TC.new (a := upT b k) rfl).below (below_dr _)
      have HG := HI.out.acc.1.1
      clear HI q1 q2 hq'
      generalize (wo.alloc (.cells #[.int .u64 (ub (b.1 <<< k)), .int .u64 (ub (b.2 <<< k))] 24)).drew = w5 at I5 T5 ⊢
      generalize wo.heap.size = g at T5 HG ⊢
      have hgb : w1.heap.size < g := HG
      have p1 := I5.ca.2.1
      have p2 := I5.ca.2.2
      have c1 := I5.acc.1.2.1
      have c2 := I5.acc.1.2.2
      have g1 : w5.cell? ⟨g, 0, none⟩ = some (.int .u64 (ub (b.1 <<< k))) := T5.2.1
      have g2 : w5.cell? ⟨g, 1, none⟩ = some (.int .u64 (ub (b.2 <<< k))) := T5.2.2
      cases h1 : bt a.1 k
      · cases h2 : bt a.2 k
        · have HM : mulN a b (k + 1) = mulN a b k := by show mulStep a b k (mulN a b k) = _; unfold mulStep; rw [h1, h2]; rfl
          go_wp2
          go_roundw
          case rel => exact ⟨k + 1, by omega, by go_num, hid (HM ▸ I5)⟩
          case measure => simp [intOf]; omega
        · have HM : mulN a b (k + 1) = sumT (mulN a b k) (butT 0#64 ((upT b k).1 ||| (upT b k).2)) := by show mulStep a b k (mulN a b k) = _; unfold mulStep; rw [h1, h2]; rfl
          go_wp2_with fail
          clear p1 p2 h1 h2 c1 c2 g1 g2
          have c1 := I5.acc.1.2.1
          have c2 := I5.acc.1.2.2
          have g1 : w5.cell? ⟨g, 0, none⟩ = some (.int .u64 (ub (b.1 <<< k))) := T5.2.1
          have g2 : w5.cell? ⟨g, 1, none⟩ = some (.int .u64 (ub (b.2 <<< k))) := T5.2.2
          have HI := hid I5
          clear I5 T5
          obtain ⟨U, hU⟩ : ∃ U, U = butT 0#64 ((upT b k).1 ||| (upT b k).2) := ⟨_, rfl⟩
          have HU : Hid (∀ W, Calls Tryz.prog 81 #[.int .u64 0, .int .u64 (ub (b.1 <<< k ||| b.2 <<< k))] W fun e w' => e = .returned (tv U) ∧ Below W.heap.size W w') := hid (fun W => hU ▸ tBut_any 0#64 (b.1 <<< k ||| b.2 <<< k) W)
          rw [← hU] at HM
          clear hU
          generalize mulN a b k = T1 at HM HI c1 c2 ⊢
          obtain ⟨R1, hR1⟩ : ∃ R1, R1 = sumT T1 U := ⟨_, rfl⟩
          have HS := hid (fun W => hR1 ▸ tSum_any T1 U W)
          rw [← hR1] at HM
          have HM := hid HM
          clear hR1
          unfold tv at HU HS
          go_region_law (first
              | (go_simp; go_at_call 81; refine (HU.out _).mono ?_; rintro e wq ⟨rfl, bq⟩; have Iq := (HI.out.next (below_dr _)).next bq; have cq1 := Iq.acc.1.2.1; have cq2 := Iq.acc.1.2.2)
              | (go_simp; go_at_call 129; refine (HS.out _).mono ?_; rintro e ws ⟨rfl, bs⟩; have Is := Iq.next bs; have cs1 := Is.acc.1.2.1; have cs2 := Is.acc.1.2.2; have cs3 := Is.acc.2.1; have cs4 := Is.acc.2.2))
          all_goals
            have I9 := Is.put hp hq R1
            clear cq1 cq2 cs1 cs2 cs3 cs4 Iq Is
            go_wp2
            go_roundw
            case rel => exact ⟨k + 1, by omega, by go_num, hid (HM.out ▸ I9)⟩
            case measure => simp [intOf]; omega
      · obtain ⟨R0, hR0⟩ : ∃ R0, R0 = sumT (mulN a b k) (upT b k) := ⟨_, rfl⟩
        have HS1 : Hid (∀ W, Calls Tryz.prog 129 #[tv (mulN a b k), tv (b.1 <<< k, b.2 <<< k)] W fun e w' => e = .returned (tv R0) ∧ Below W.heap.size W w') := hid (fun W => hR0 ▸ tSum_any (mulN a b k) (upT b k) W)
        unfold tv at HS1
        cases h2 : bt a.2 k
        · have HM : mulN a b (k + 1) = R0 := by rw [hR0]; show mulStep a b k (mulN a b k) = _; unfold mulStep; rw [h1, h2]; rfl
          have HM := hid HM
          clear hR0
          go_wp2_with fail
          refine (HS1.out _).mono ?_
          rintro e w6 ⟨rfl, b6⟩
          have I6 := I5.next b6
          have T6 := T5.below b6
          have T7 : TC ((w6.setCell ⟨w1.heap.size, 0, none⟩ (.int .u64 (ub R0.1))).setCell ⟨w1.heap.size, 1, none⟩ (.int .u64 (ub R0.2))) g (upT b k) := T6.put (Nat.ne_of_gt hgb) _ _
          have I7 := I6.put hp hq R0
          have d1 := I6.acc.1.2.1
          have d2 := I6.acc.1.2.2
          have d3 := I6.acc.2.1
          have d4 := I6.acc.2.2
          have P2 := I7.ca.2.2
          clear b6 I6 T6 I5 T5 p1 p2 c1 c2 g1 g2
          go_wp2
          go_roundw
          case rel => exact ⟨k + 1, by omega, by go_num, hid (HM.out ▸ I7)⟩
          case measure => simp [intOf]; omega
        · have HM : mulN a b (k + 1) = sumT R0 (butT 0#64 ((upT b k).1 ||| (upT b k).2)) := by rw [hR0]; show mulStep a b k (mulN a b k) = _; unfold mulStep; rw [h1, h2]; rfl
          clear hR0
          go_wp2_with fail
          refine (HS1.out _).mono ?_
          rintro e w6 ⟨rfl, b6⟩
          have I6 := I5.next b6
          have T6 := T5.below b6
          have T7 : TC ((w6.setCell ⟨w1.heap.size, 0, none⟩ (.int .u64 (ub R0.1))).setCell ⟨w1.heap.size, 1, none⟩ (.int .u64 (ub R0.2))) g (upT b k) := T6.put (Nat.ne_of_gt hgb) _ _
          have I7 := I6.put hp hq R0
          have d1 := I6.acc.1.2.1
          have d2 := I6.acc.1.2.2
          have d3 := I6.acc.2.1
          have d4 := I6.acc.2.2
          have P2 := I7.ca.2.2
          clear b6 I6 T6 I5 T5 p1 p2 c1 c2 g1 g2
          go_wp2_with fail
          clear P2 d1 d2 d3 d4 HS1 h1 h2
          generalize (w6.setCell ⟨w1.heap.size, 0, none⟩ (.int .u64 (ub R0.1))).setCell ⟨w1.heap.size, 1, none⟩ (.int .u64 (ub R0.2)) = w7 at I7 T7 ⊢
          have c1 := I7.acc.1.2.1
          have c2 := I7.acc.1.2.2
          have g1 : w7.cell? ⟨g, 0, none⟩ = some (.int .u64 (ub (b.1 <<< k))) := T7.2.1
          have g2 : w7.cell? ⟨g, 1, none⟩ = some (.int .u64 (ub (b.2 <<< k))) := T7.2.2
          have HI := hid I7
          clear I7 T7
          obtain ⟨U, hU⟩ : ∃ U, U = butT 0#64 ((upT b k).1 ||| (upT b k).2) := ⟨_, rfl⟩
          have HU : Hid (∀ W, Calls Tryz.prog 81 #[.int .u64 0, .int .u64 (ub (b.1 <<< k ||| b.2 <<< k))] W fun e w' => e = .returned (tv U) ∧ Below W.heap.size W w') := hid (fun W => hU ▸ tBut_any 0#64 (b.1 <<< k ||| b.2 <<< k) W)
          rw [← hU] at HM
          clear hU
          generalize R0 = T1 at HM HI c1 c2 ⊢
          obtain ⟨R1, hR1⟩ : ∃ R1, R1 = sumT T1 U := ⟨_, rfl⟩
          have HS := hid (fun W => hR1 ▸ tSum_any T1 U W)
          rw [← hR1] at HM
          have HM := hid HM
          clear hR1
          unfold tv at HU HS
          go_region_law (first
              | (go_simp; go_at_call 81; refine (HU.out _).mono ?_; rintro e wq ⟨rfl, bq⟩; have Iq := (HI.out.next (below_dr _)).next bq; have cq1 := Iq.acc.1.2.1; have cq2 := Iq.acc.1.2.2)
              | (go_simp; go_at_call 129; refine (HS.out _).mono ?_; rintro e ws ⟨rfl, bs⟩; have Is := Iq.next bs; have cs1 := Is.acc.1.2.1; have cs2 := Is.acc.1.2.2; have cs3 := Is.acc.2.1; have cs4 := Is.acc.2.2))
          all_goals
            have I9 := Is.put hp hq R1
            clear cq1 cq2 cs1 cs2 cs3 cs4 Iq Is
            go_wp2
            go_roundw
            case rel => exact ⟨k + 1, by omega, by go_num, hid (HM.out ▸ I9)⟩
            case measure => simp [intOf]; omega
    · have hk64 : k = 64 := by omega
      subst hk64
      have I0 := HI.out
      have c1 := I0.acc.1.2.1
      have c2 := I0.acc.1.2.2
      have d1 := I0.res.1.2.1
      have d2 := I0.res.1.2.2
      have d3 := I0.res.2.1
      have d4 := I0.res.2.2
      have dz := I0.res.1.1
      have HB := hid I0.bel
      clear I0
      go_wp2
      refine bodyPost_ret (v := .agg #[.int .u64 (ub (mulN a b 64).1), .int .u64 (ub (mulN a b 64).2)]) (by simp [results, Tryz.results131, go_sem, d1, d2, dz]; try rfl) rfl ⟨rfl, ?_⟩
      exact (HB.out.setCell (by simp) _).setCell (by simp) _
end Go.Proofs.YtodmikjpmcabiaaGreat

namespace Go.Proofs.YtodmikjpmcabiaaGreat
set_option linter.unusedSimpArgs false
set_option linter.unusedVariables false
set_option maxRecDepth 100000
open Go.ChangeShapes Go.WideShapes Go.ChangeAt Go.RowKit

theorem mulN_any (p q : Nat) (a b : Tn) (w : World) (ha : TC w p a) (hb : TC w q b) : Calls Tryz.prog 131 #[.pointer (some ⟨q, 0, none⟩), .pointer (some ⟨p, 0, none⟩)] w fun e w' => e = .returned (tv (mulT a b)) ∧ Below w.heap.size w w' := cMul p q a b w ha hb
theorem tMul_any (a b : Tn) (w : World) : Calls Tryz.prog 102 #[tv a, tv b] w fun e w' => e = .returned (.tuple #[tv (bothT a b (mulT a b)), .int .i64 (bothE a b)]) ∧ Below w.heap.size w w' := by
  obtain ⟨R, HR⟩ : ∃ R, R = bothT a b (mulT a b) := ⟨_, rfl⟩
  rw [← HR]
  have HH := fun (p q : Nat) (w : World) (ha : TC w p a) (hb : TC w q b) => both_any a b (mulT a b) 131 #[.pointer (some ⟨q, 0, none⟩), .pointer (some ⟨p, 0, none⟩)] w (fun _ _ => by kernel_rfl) (fun W hW _ _ => mulN_any p q a b W (ha.below hW) (hb.below hW))
  rw [← HR] at HH
  have HX := hid HH
  clear HH HR
  generalize bothE a b = E at *
  unfold tv at HX ⊢
  go_enter Tryz.func102, Tryz.ntmps102
  go_wp2_with fail
  refine Calls.mono (HX.out w.heap.size (w.heap.size + 1) _ ?_ ?_) ?_
  · exact ((TC.new rfl).alloc _).alloc _
  · exact (TC.new (by simp)).alloc _
  rintro e w1 ⟨rfl, b1⟩
  have hb : Below w.heap.size w w1 := (((((Below.refl _ _).alloc (Nat.le_refl _) _).alloc (by simp) _).alloc (by simp; omega) _).trans (b1.mono (by simp; omega)))
  obtain ⟨hc, hf⟩ := bcell b1
  have hz : w.heap.size + 1 + 1 < w1.heap.size := by have := b1.size; simp at this; omega
  have HB := hid hb
  clear b1 hb
  go_wp2
  refine bodyPost_ret (v := .tuple #[.agg #[.int .u64 (ub R.1), .int .u64 (ub R.2)], .int .i64 E]) (by simp [results, Tryz.results102, go_sem, hc, hz]; try rfl) rfl ⟨rfl, ?_⟩
  exact (HB.out.setCell (by simp; omega) _).setCell (by simp; omega) _
def meetB (a b : Tn) : Bool := tmay a && tmay b && tin (meetT a b) a && tin (meetT a b) b
theorem tMeet_any (a b : Tn) (w : World) : Calls Tryz.prog 45 #[tv a, tv b] w fun e w' => e = .returned (.tuple #[tv (if meetB a b then meetT a b else t0), .bool (meetB a b)]) ∧ Below w.heap.size w w' := by
  have HH := fun (p q : Nat) (w : World) (ha : TC w p a) (hb : TC w q b) => both_any a b (meetT a b) 83 #[.pointer (some ⟨p, 0, none⟩), .pointer (some ⟨q, 0, none⟩)] w (fun _ _ => by kernel_rfl) (fun W hW _ _ => cMeet p q a b W (ha.below hW) (hb.below hW))
  have HI1 := fun W => tIn_any (meetT a b) a W
  have HI2 := fun W => tIn_any (meetT a b) b W
  unfold bothT bothE at HH
  unfold meetB
  generalize meetT a b = R at *
  cases hm : (tmay a && tmay b)
  · rw [hm] at HH
    obtain ⟨V, hV⟩ : ∃ V, V = (if (false && tin R a && tin R b) = true then R else t0) := ⟨_, rfl⟩
    rw [← hV]
    obtain rfl : V = t0 := hV
    have hB : (false && tin R a && tin R b) = false := rfl
    rw [hB]
    have HX := hid HH
    clear HH HI1 HI2 hm hB
    simp only [Bool.false_eq_true, if_false] at HX
    unfold tv at HX ⊢
    go_enter Tryz.func45, Tryz.ntmps45
    go_wp2_with fail
    refine Calls.mono (HX.out w.heap.size (w.heap.size + 1) _ ?_ ?_) ?_
    · exact ((TC.new rfl).alloc _).alloc _
    · exact (TC.new (by simp)).alloc _
    rintro e w1 ⟨rfl, b1⟩
    have hb : Below w.heap.size w w1 := (((((Below.refl _ _).alloc (Nat.le_refl _) _).alloc (by simp) _).alloc (by simp; omega) _).trans (b1.mono (by simp; omega)))
    obtain ⟨hc, hf⟩ := bcell b1
    have hz : w.heap.size + 1 + 1 < w1.heap.size := by have := b1.size; simp at this; omega
    have HB := hid hb
    clear b1 hb
    go_wp2
    refine bodyPost_ret (v := .tuple #[.agg #[.int .u64 0, .int .u64 0], .bool false]) (by simp [results, Tryz.results45, go_sem, hc, hz]; try rfl) rfl ⟨rfl, ?_⟩
    exact ((HB.out.setCell (by simp; omega) _).setCell (by simp; omega) _).alloc (by simp; omega) _
  rw [hm] at HH
  have HX := hid HH
  have H1 := hid HI1
  have H2 := hid HI2
  clear HH HI1 HI2 hm
  simp only [if_true] at HX
  unfold tv at HX H1 H2
  cases h1 : tin R a
  · rw [h1] at H1
    clear h1
    obtain ⟨V, hV⟩ : ∃ V, V = (if (true && false && tin R b) = true then R else t0) := ⟨_, rfl⟩
    rw [← hV]
    obtain rfl : V = t0 := hV
    rw [show (true && false && tin R b) = false from rfl]
    clear H2
    unfold tv
    go_enter Tryz.func45, Tryz.ntmps45
    go_wp2_with fail
    refine Calls.mono (HX.out w.heap.size (w.heap.size + 1) _ ?_ ?_) ?_
    · exact ((TC.new rfl).alloc _).alloc _
    · exact (TC.new (by simp)).alloc _
    rintro e w1 ⟨rfl, b1⟩
    have hb : Below w.heap.size w w1 := (((((Below.refl _ _).alloc (Nat.le_refl _) _).alloc (by simp) _).alloc (by simp; omega) _).trans (b1.mono (by simp; omega)))
    have F1 : TC w1 w.heap.size a := (((TC.new rfl).alloc _).alloc _).below b1
    have F2 : TC w1 (w.heap.size + 1) b := ((TC.new (by simp)).alloc _).below b1
    have F3 : TB w1 (w.heap.size + 1 + 1) t0 := (TB.new (a := t0) (by simp)).below b1
    have G1 := F1.alloc (.cells #[.int .u64 (ub R.1), .int .u64 (ub R.2)] 24)
    have G2 := F2.alloc (.cells #[.int .u64 (ub R.1), .int .u64 (ub R.2)] 24)
    have G3 := F3.below ((Below.refl _ _).alloc (Nat.le_refl _) (.cells #[.int .u64 (ub R.1), .int .u64 (ub R.2)] 24))
    have G4 : TC (w1.alloc (.cells #[.int .u64 (ub R.1), .int .u64 (ub R.2)] 24)) w1.heap.size R := TC.new rfl
    have G5 := hb.alloc hb.size (.cells #[.int .u64 (ub R.1), .int .u64 (ub R.2)] 24)
    have k1 := F1.1
    have k2 := F2.1
    have k3 := F3.1.1
    have x1 := F1.2.1
    have x2 := F1.2.2
    clear F1 F2 F3 b1 hb
    go_wp2_with fail
    refine (H1.out _).mono ?_
    rintro e w2 ⟨rfl, b2⟩
    replace G1 := G1.below b2
    replace G2 := G2.below b2
    replace G3 := G3.below b2
    replace G4 := G4.below b2
    replace G5 := G5.trans (b2.mono G5.size)
    clear x1 x2 k1 k2 k3 b2
    generalize w1.heap.size = g at G4 ⊢
    have y1 := G3.1.2.1
    have y2 := G3.1.2.2
    have y3 := G3.2.1
    have y4 := G3.2.2
    have y5 := G3.1.1
    have z1 := G4.2.1
    have z2 := G4.2.2
    have HB := hid G5
    clear G1 G2 G3 G4 G5
    go_wp2
    refine bodyPost_ret (v := .tuple #[.agg #[.int .u64 0, .int .u64 0], .bool false]) (by simp [results, Tryz.results45, go_sem, y1, y2, y5]; try rfl) rfl ⟨rfl, ?_⟩
    exact (HB.out.setCell (by simp; omega) _).setCell (by simp; omega) _
  rw [h1] at H1
  clear h1
  cases h2 : tin R b
  · rw [h2] at H2
    clear h2
    obtain ⟨V, hV⟩ : ∃ V, V = (if (true && true && false) = true then R else t0) := ⟨_, rfl⟩
    rw [← hV]
    obtain rfl : V = t0 := hV
    rw [show (true && true && false) = false from rfl]
    unfold tv
    go_enter Tryz.func45, Tryz.ntmps45
    go_wp2_with fail
    refine Calls.mono (HX.out w.heap.size (w.heap.size + 1) _ ?_ ?_) ?_
    · exact ((TC.new rfl).alloc _).alloc _
    · exact (TC.new (by simp)).alloc _
    rintro e w1 ⟨rfl, b1⟩
    have hb : Below w.heap.size w w1 := (((((Below.refl _ _).alloc (Nat.le_refl _) _).alloc (by simp) _).alloc (by simp; omega) _).trans (b1.mono (by simp; omega)))
    have F1 : TC w1 w.heap.size a := (((TC.new rfl).alloc _).alloc _).below b1
    have F2 : TC w1 (w.heap.size + 1) b := ((TC.new (by simp)).alloc _).below b1
    have F3 : TB w1 (w.heap.size + 1 + 1) t0 := (TB.new (a := t0) (by simp)).below b1
    have G1 := F1.alloc (.cells #[.int .u64 (ub R.1), .int .u64 (ub R.2)] 24)
    have G2 := F2.alloc (.cells #[.int .u64 (ub R.1), .int .u64 (ub R.2)] 24)
    have G3 := F3.below ((Below.refl _ _).alloc (Nat.le_refl _) (.cells #[.int .u64 (ub R.1), .int .u64 (ub R.2)] 24))
    have G4 : TC (w1.alloc (.cells #[.int .u64 (ub R.1), .int .u64 (ub R.2)] 24)) w1.heap.size R := TC.new rfl
    have G5 := hb.alloc hb.size (.cells #[.int .u64 (ub R.1), .int .u64 (ub R.2)] 24)
    have k1 := F1.1
    have k2 := F2.1
    have k3 := F3.1.1
    have x1 := F1.2.1
    have x2 := F1.2.2
    clear F1 F2 F3 b1 hb
    go_wp2_with fail
    refine (H1.out _).mono ?_
    rintro e w2 ⟨rfl, b2⟩
    replace G1 := G1.below b2
    replace G2 := G2.below b2
    replace G3 := G3.below b2
    replace G4 := G4.below b2
    replace G5 := G5.trans (b2.mono G5.size)
    clear x1 x2 k1 k2 k3 b2
    generalize w1.heap.size = g at G4 ⊢
    have z1 := G4.2.1
    have z2 := G4.2.2
    have x1 := G2.2.1
    have x2 := G2.2.2
    go_wp2_with fail
    refine (H2.out _).mono ?_
    rintro e w3 ⟨rfl, b3⟩
    replace G3 := G3.below b3
    replace G4 := G4.below b3
    replace G5 := G5.trans (b3.mono G5.size)
    clear x1 x2 z1 z2 b3 G1 G2
    have G1 := trivial
    have G2 := trivial
    have y1 := G3.1.2.1
    have y2 := G3.1.2.2
    have y3 := G3.2.1
    have y4 := G3.2.2
    have y5 := G3.1.1
    have z1 := G4.2.1
    have z2 := G4.2.2
    have HB := hid G5
    clear G1 G2 G3 G4 G5
    go_wp2
    refine bodyPost_ret (v := .tuple #[.agg #[.int .u64 0, .int .u64 0], .bool false]) (by simp [results, Tryz.results45, go_sem, y1, y2, y5]; try rfl) rfl ⟨rfl, ?_⟩
    exact (HB.out.setCell (by simp; omega) _).setCell (by simp; omega) _
  · rw [h2] at H2
    clear h2
    obtain ⟨V, hV⟩ : ∃ V, V = (if (true && true && true) = true then R else t0) := ⟨_, rfl⟩
    rw [← hV]
    rw [show V = R from hV]
    clear hV
    rw [show (true && true && true) = true from rfl]
    unfold tv
    go_enter Tryz.func45, Tryz.ntmps45
    go_wp2_with fail
    refine Calls.mono (HX.out w.heap.size (w.heap.size + 1) _ ?_ ?_) ?_
    · exact ((TC.new rfl).alloc _).alloc _
    · exact (TC.new (by simp)).alloc _
    rintro e w1 ⟨rfl, b1⟩
    have hb : Below w.heap.size w w1 := (((((Below.refl _ _).alloc (Nat.le_refl _) _).alloc (by simp) _).alloc (by simp; omega) _).trans (b1.mono (by simp; omega)))
    have F1 : TC w1 w.heap.size a := (((TC.new rfl).alloc _).alloc _).below b1
    have F2 : TC w1 (w.heap.size + 1) b := ((TC.new (by simp)).alloc _).below b1
    have F3 : TB w1 (w.heap.size + 1 + 1) t0 := (TB.new (a := t0) (by simp)).below b1
    have G1 := F1.alloc (.cells #[.int .u64 (ub R.1), .int .u64 (ub R.2)] 24)
    have G2 := F2.alloc (.cells #[.int .u64 (ub R.1), .int .u64 (ub R.2)] 24)
    have G3 := F3.below ((Below.refl _ _).alloc (Nat.le_refl _) (.cells #[.int .u64 (ub R.1), .int .u64 (ub R.2)] 24))
    have G4 : TC (w1.alloc (.cells #[.int .u64 (ub R.1), .int .u64 (ub R.2)] 24)) w1.heap.size R := TC.new rfl
    have G5 := hb.alloc hb.size (.cells #[.int .u64 (ub R.1), .int .u64 (ub R.2)] 24)
    have k1 := F1.1
    have k2 := F2.1
    have k3 := F3.1.1
    have x1 := F1.2.1
    have x2 := F1.2.2
    clear F1 F2 F3 b1 hb
    go_wp2_with fail
    refine (H1.out _).mono ?_
    rintro e w2 ⟨rfl, b2⟩
    replace G1 := G1.below b2
    replace G2 := G2.below b2
    replace G3 := G3.below b2
    replace G4 := G4.below b2
    replace G5 := G5.trans (b2.mono G5.size)
    clear x1 x2 k1 k2 k3 b2
    generalize w1.heap.size = g at G4 ⊢
    have z1 := G4.2.1
    have z2 := G4.2.2
    have x1 := G2.2.1
    have x2 := G2.2.2
    go_wp2_with fail
    refine (H2.out _).mono ?_
    rintro e w3 ⟨rfl, b3⟩
    replace G3 := G3.below b3
    replace G4 := G4.below b3
    replace G5 := G5.trans (b3.mono G5.size)
    clear x1 x2 z1 z2 b3 G1 G2
    have G1 := trivial
    have G2 := trivial
    have y1 := G3.1.2.1
    have y2 := G3.1.2.2
    have y3 := G3.2.1
    have y4 := G3.2.2
    have y5 := G3.1.1
    have z1 := G4.2.1
    have z2 := G4.2.2
    have HB := hid G5
    clear G1 G2 G3 G4 G5
    go_wp2
    refine bodyPost_ret (v := .tuple #[.agg #[.int .u64 (ub R.1), .int .u64 (ub R.2)], .bool true]) (by simp [results, Tryz.results45, go_sem, y1, y2, y5]; try rfl) rfl ⟨rfl, ?_⟩
    exact (HB.out.setCell (by simp; omega) _).setCell (by simp; omega) _
end Go.Proofs.YtodmikjpmcabiaaGreat
