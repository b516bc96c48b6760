/-
  Contracts of package tnum's Cut and Arsh, as the landed code has them.
-/
import Derived.Test.YtodmikjpmcabiaaTTnE
namespace Go.Proofs.Ytodmikjpmcabiaa
set_option linter.unusedSimpArgs false
set_option linter.unusedVariables false
set_option maxRecDepth 100000
open Go.ChangeShapes Go.WideShapes Go.ChangeAt Go.RowKit

def arB (u k l : Nat) (x : B64) : B64 := ((x <<< u).sshiftRight u).sshiftRight k &&& lowB l
theorem ib_of2 (x : B64) : IntKind.i64.wrap (ub x) = ib x := by rw [← ib_of]; first | rfl | (unfold wrap64; exact IntKind.wrap_i64 _)
set_option maxHeartbeats 1000000 in
theorem cArsh (p q r : Nat) (u k l : Nat) (x : B64) (w : World) (hu : u < 64) (hk : k < 64) (hl : l ≤ 64) (hp : w.cell? ⟨p, 0, none⟩ = some (.int .i64 (u : Int))) (hq : w.cell? ⟨q, 0, none⟩ = some (.int .i64 (k : Int))) (hr : w.cell? ⟨r, 0, none⟩ = some (.int .i64 (l : Int))) :
    Calls Try.prog 108 #[.int .u64 (ub x), .pointer (some ⟨p, 0, none⟩), .pointer (some ⟨q, 0, none⟩), .pointer (some ⟨r, 0, none⟩)] w fun e w' => e = .returned (.int .u64 (ub (arB u k l x))) ∧ w.drew = w' := by
  have HL := hid fun W => low_any l W hl
  go_enter Try.func108, Try.ntmps108
  go_wp2_with fail
  go_region_held3 (fun w' => w'.cell? ⟨p, 0, none⟩ = some (.int .i64 (u : Int)) ∧ w'.cell? ⟨q, 0, none⟩ = some (.int .i64 (k : Int)) ∧ w'.cell? ⟨r, 0, none⟩ = some (.int .i64 (l : Int)) ∧ Below w.heap.size w w')
      (first | (go_split_ands; exact ⟨by assumption, by assumption, by assumption, by assumption⟩) | exact ⟨cn (below_dr w) hp, cn (below_dr w) hq, cn (below_dr w) hr, below_dr w⟩)
      (first | (go_at_call 109; refine (HL.out _).mono ?_; rintro e wq ⟨rfl, rfl⟩))
  go_wp2
  go_ret
  refine ⟨congrArg Ending.returned (congrArg (Value.int IntKind.u64) ?_), rfl⟩
  simp only [ib_of2, ib_shr, ib_wrap, ub_and]
  rfl
theorem cell_new (w : World) (u : Value) (t : TypeId) (b : Nat) (hb : b = w.heap.size) : (w.alloc (.cells #[u] t)).cell? ⟨b, 0, none⟩ = some u := by
  subst hb
  simp
theorem cna {w : World} (o : Obj) {p : Addr} {c : Value} (h : w.cell? p = some c) : (w.alloc o).cell? p = some c := cn ((Below.refl w.heap.size w).alloc (Nat.le_refl _) o) h
def arshT (a : Tn) (n size : Int) : Tn := if size = 32 then shT a (arB 32 n.toNat 32) n 32 else if size = 64 then shT a (arB 0 n.toNat 64) n 64 else t0
def arshE (a : Tn) (n size : Int) : Int := if size = 32 then shE a n 32 else if size = 64 then shE a n 64 else 1
theorem arsh32 (a : Tn) (n : Int) (w : World) : Calls Try.prog 71 #[tv a, .int .i64 n, .int .i64 32] w fun e w' => e = .returned (.tuple #[tv (shT a (arB 32 n.toNat 32) n 32), .int .i64 (shE a n 32)]) ∧ Below w.heap.size w w' := by
  have HX := hid fun W p q r (hp : W.cell? ⟨p, 0, none⟩ = some (.int .i64 32)) (hq : W.cell? ⟨q, 0, none⟩ = some (.int .i64 n)) (hr : W.cell? ⟨r, 0, none⟩ = some (.int .i64 32)) => shArsh a (arB 32 n.toNat 32) n 32 (.pointer (some ⟨p, 0, none⟩)) (.pointer (some ⟨q, 0, none⟩)) (.pointer (some ⟨r, 0, none⟩)) W (fun h0 h1 W' x hW' => cArsh p q r 32 n.toNat 32 x W' (by omega) (by omega) (by omega) (cn hW' hp) (by rw [Int.toNat_of_nonneg h0]; exact cn hW' hq) (cn hW' hr))
  generalize shE a n 32 = E at *
  generalize shT a (arB 32 n.toNat 32) n 32 = R at *
  unfold tv at HX ⊢
  go_enter Try.func71, Try.ntmps71
  go_wp2_with fail
  refine Calls.mono (HX.out _ _ _ _ ?_ ?_ ?_) ?_
  · exact cell_new _ _ _ _ (by simp)
  · exact cna _ (cna _ (cna _ (cell_new _ _ _ _ (by simp))))
  · exact cna _ (cna _ (cell_new _ _ _ _ (by simp)))
  rintro e w1 ⟨rfl, b1⟩
  have hb : Below w.heap.size w w1 := ((((((Below.refl _ _).alloc (Nat.le_refl _) _).alloc (by simp) _).alloc (by simp; omega) _).alloc (by simp; omega) _).alloc (by simp; omega) _).trans (b1.mono (by simp; omega))
  obtain ⟨hc, hf⟩ := bcell b1
  have hz : w.heap.size + 1 + 1 + 1 < w1.heap.size := by have := b1.size; simp at this; omega
  have HB := hid hb
  clear b1 hb
  go_wp2
  refine bodyPost_ret (v := .tuple #[.agg #[.int .u64 (ub R.1), .int .u64 (ub R.2)], .int .i64 E]) (by simp [results, Try.results71, go_sem, hc, hz]; try rfl) rfl ⟨rfl, ?_⟩
  exact (HB.out.setCell (by simp; omega) _).setCell (by simp; omega) _
theorem arsh64 (a : Tn) (n : Int) (w : World) : Calls Try.prog 71 #[tv a, .int .i64 n, .int .i64 64] w fun e w' => e = .returned (.tuple #[tv (shT a (arB 0 n.toNat 64) n 64), .int .i64 (shE a n 64)]) ∧ Below w.heap.size w w' := by
  have HX := hid fun W p q r (hp : W.cell? ⟨p, 0, none⟩ = some (.int .i64 0)) (hq : W.cell? ⟨q, 0, none⟩ = some (.int .i64 n)) (hr : W.cell? ⟨r, 0, none⟩ = some (.int .i64 64)) => shArsh a (arB 0 n.toNat 64) n 64 (.pointer (some ⟨p, 0, none⟩)) (.pointer (some ⟨q, 0, none⟩)) (.pointer (some ⟨r, 0, none⟩)) W (fun h0 h1 W' x hW' => cArsh p q r 0 n.toNat 64 x W' (by omega) (by omega) (by omega) (cn hW' hp) (by rw [Int.toNat_of_nonneg h0]; exact cn hW' hq) (cn hW' hr))
  generalize shE a n 64 = E at *
  generalize shT a (arB 0 n.toNat 64) n 64 = R at *
  unfold tv at HX ⊢
  go_enter Try.func71, Try.ntmps71
  go_wp2_with fail
  refine Calls.mono (HX.out _ _ _ _ ?_ ?_ ?_) ?_
  · exact cell_new _ _ _ _ (by simp)
  · exact cna _ (cna _ (cna _ (cell_new _ _ _ _ (by simp))))
  · exact cna _ (cna _ (cell_new _ _ _ _ (by simp)))
  rintro e w1 ⟨rfl, b1⟩
  have hb : Below w.heap.size w w1 := ((((((Below.refl _ _).alloc (Nat.le_refl _) _).alloc (by simp) _).alloc (by simp; omega) _).alloc (by simp; omega) _).alloc (by simp; omega) _).trans (b1.mono (by simp; omega))
  obtain ⟨hc, hf⟩ := bcell b1
  have hz : w.heap.size + 1 + 1 + 1 < w1.heap.size := by have := b1.size; simp at this; omega
  have HB := hid hb
  clear b1 hb
  go_wp2
  refine bodyPost_ret (v := .tuple #[.agg #[.int .u64 (ub R.1), .int .u64 (ub R.2)], .int .i64 E]) (by simp [results, Try.results71, go_sem, hc, hz]; try rfl) rfl ⟨rfl, ?_⟩
  exact (HB.out.setCell (by simp; omega) _).setCell (by simp; omega) _
theorem tArsh_any (a : Tn) (n size : Int) (w : World) : Calls Try.prog 71 #[tv a, .int .i64 n, .int .i64 size] w fun e w' => e = .returned (.tuple #[tv (arshT a n size), .int .i64 (arshE a n size)]) ∧ Below w.heap.size w w' := by
  by_cases h1 : size = 32
  · subst h1; exact arsh32 a n w
  by_cases h2 : size = 64
  · subst h2; exact arsh64 a n w
  unfold arshT arshE
  rw [if_neg h1, if_neg h1, if_neg h2, if_neg h2]
  have e1 : (size == 32) = false := by rw [beq_eq_false_iff_ne]; omega
  have e2 : (size == 64) = false := by rw [beq_eq_false_iff_ne]; omega
  have e3 : (size != 32) = true := by simp [h1]
  have e4 : (size != 64) = true := by simp [h2]
  clear h1 h2
  unfold tv
  go_enter Try.func71, Try.ntmps71
  go_wp2
  refine bodyPost_ret (v := .tuple #[.agg #[.int .u64 0, .int .u64 0], .int .i64 1]) (by simp [results, Try.results71, go_sem]; try rfl) rfl ⟨rfl, ?_⟩
  exact (((((Below.refl _ _).alloc (Nat.le_refl _) _).alloc (by simp) _).alloc (by simp; omega) _).alloc (by simp; omega) _)
end Go.Proofs.Ytodmikjpmcabiaa
