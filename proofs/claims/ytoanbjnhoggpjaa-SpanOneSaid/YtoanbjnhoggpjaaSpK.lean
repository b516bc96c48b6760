/-
  Contract of signed, as the landed code has it.
-/
import Derived.Test.YtoanbjnhoggpjaaSpJ
namespace Go.Proofs.Ytoanbjnhoggpjaa
set_option linter.unusedSimpArgs false
set_option linter.unusedVariables false
set_option maxRecDepth 100000
open Go.ChangeShapes Go.WideShapes Go.ChangeAt Go.RowKit

theorem cell1 {w : World} {u : Value} {t : TypeId} {b : Nat} (hb : b = w.heap.size) : (w.alloc (.cells #[u] t)).cell? ⟨b, 0, none⟩ = some u := by
  subst hb
  simp
theorem sg_start (w : World) (a b : Tn) (SZ UP : Int) (t1 t2 t3 t4 t5 : TypeId) :
    let W := ((((w.alloc (.cells #[.int .i64 SZ] t1)).alloc (.cells #[.int .u64 (ub a.1), .int .u64 (ub a.2)] t2)).alloc (.cells #[.int .u64 (ub b.1), .int .u64 (ub b.2)] t3)).alloc (.cells #[.int .u64 0, .int .u64 0] t4)).alloc (.cells #[.int .i64 UP] t5)
    W.cell? ⟨w.heap.size + 1, 0, none⟩ = some (.int .u64 (ub a.1)) ∧ W.cell? ⟨w.heap.size + 1, 1, none⟩ = some (.int .u64 (ub a.2)) ∧ W.cell? ⟨w.heap.size + 1 + 1, 0, none⟩ = some (.int .u64 (ub b.1)) ∧ W.cell? ⟨w.heap.size + 1 + 1, 1, none⟩ = some (.int .u64 (ub b.2)) ∧
      W.cell? ⟨w.heap.size + 1 + 1 + 1 + 1, 0, none⟩ = some (.int .i64 UP) ∧ W.cell? ⟨w.heap.size, 0, none⟩ = some (.int .i64 SZ) ∧ RsI w (w.heap.size + 1 + 1 + 1) W := by
  intro W
  have e1 := cell1 (w := w) (u := .int .i64 SZ) (t := t1) rfl
  have s1 : (w.alloc (.cells #[.int .i64 SZ] t1)).heap.size = w.heap.size + 1 := by simp
  have b1 : Below w.heap.size w (w.alloc (.cells #[.int .i64 SZ] t1)) := (Below.refl _ _).alloc (Nat.le_refl _) _
  have hW : W = ((((w.alloc (.cells #[.int .i64 SZ] t1)).alloc (.cells #[.int .u64 (ub a.1), .int .u64 (ub a.2)] t2)).alloc (.cells #[.int .u64 (ub b.1), .int .u64 (ub b.2)] t3)).alloc (.cells #[.int .u64 0, .int .u64 0] t4)).alloc (.cells #[.int .i64 UP] t5) := rfl
  clear_value W
  generalize w.alloc (.cells #[.int .i64 SZ] t1) = u1 at *
  have e2 := BC.new (w := u1) (a := a) (t := t2) s1.symm
  have b2 : Below u1.heap.size u1 (u1.alloc (.cells #[.int .u64 (ub a.1), .int .u64 (ub a.2)] t2)) := (Below.refl _ _).alloc (Nat.le_refl _) _
  have s2 : (u1.alloc (.cells #[.int .u64 (ub a.1), .int .u64 (ub a.2)] t2)).heap.size = w.heap.size + 1 + 1 := by simp; omega
  generalize u1.alloc (.cells #[.int .u64 (ub a.1), .int .u64 (ub a.2)] t2) = u2 at *
  have e3 := BC.new (w := u2) (a := b) (t := t3) s2.symm
  have b3 : Below u2.heap.size u2 (u2.alloc (.cells #[.int .u64 (ub b.1), .int .u64 (ub b.2)] t3)) := (Below.refl _ _).alloc (Nat.le_refl _) _
  have s3 : (u2.alloc (.cells #[.int .u64 (ub b.1), .int .u64 (ub b.2)] t3)).heap.size = w.heap.size + 1 + 1 + 1 := by simp; omega
  generalize u2.alloc (.cells #[.int .u64 (ub b.1), .int .u64 (ub b.2)] t3) = u3 at *
  have e4 : BC (u3.alloc (.cells #[.int .u64 0, .int .u64 0] t4)) (w.heap.size + 1 + 1 + 1) t0 := BC.new (w := u3) (a := t0) (t := t4) s3.symm
  have b4 : Below u3.heap.size u3 (u3.alloc (.cells #[.int .u64 0, .int .u64 0] t4)) := (Below.refl _ _).alloc (Nat.le_refl _) _
  have s4 : (u3.alloc (.cells #[.int .u64 0, .int .u64 0] t4)).heap.size = w.heap.size + 1 + 1 + 1 + 1 := by simp; omega
  generalize u3.alloc (.cells #[.int .u64 0, .int .u64 0] t4) = u4 at *
  have e5 := cell1 (w := u4) (u := .int .i64 UP) (t := t5) s4.symm
  have b5 : Below u4.heap.size u4 (u4.alloc (.cells #[.int .i64 UP] t5)) := (Below.refl _ _).alloc (Nat.le_refl _) _
  rw [← hW] at e5 b5
  have f2 := ((e2.below b3).below b4).below b5
  have f3 := (e3.below b4).below b5
  have f4 := e4.below b5
  exact ⟨f2.c0, f2.c1, f3.c0, f3.c1, e5, cn b5 (cn b4 (cn b3 (cn b2 e1))), f4.lt, ⟨_, f4.c0⟩, ⟨_, f4.c1⟩, f4.f0, f4.f1, by omega, (((b1.trans (b2.mono b1.size)).trans (b3.mono (by omega))).trans (b4.mono (by omega))).trans (b5.mono (by omega))⟩
set_option maxRecDepth 20000 in
set_option maxHeartbeats 4000000 in
theorem sSigned_any (c : Bool) (a b : Tn) (w : World) (h1 : b.1.toNat < 64) (h2 : b.2.toNat < 64) : Calls Try.prog 167 #[.int .i64 (szI c), tv a, tv b] w fun e w' => e = .returned (tv (signS c a b)) ∧ Below w.heap.size w w' := by
  have HC := fun p q u n below above W => cSign p q u c n below above W
  rw [show signS c a b = (drawB c a.1 b.2.toNat b.1.toNat, drawB c a.2 b.1.toNat b.2.toNat) from rfl, drawU_is, drawU_is]
  cases c
  · rw [show (if (false : Bool) = true then 0 else 32 : Nat) = 32 from rfl, show szI false = 32 from rfl]
    have H1 := hid fun W (hp : W.cell? ⟨w.heap.size + 1 + 1 + 1 + 1, 0, none⟩ = some (.int .i64 32)) (hq : W.cell? ⟨w.heap.size, 0, none⟩ = some (.int .i64 32)) =>
      (HC (w.heap.size + 1 + 1 + 1 + 1) w.heap.size 32 a.1 b.2 b.1 W (by decide) h2 h1 hp hq).mono (fun e W' h => (⟨h.1, h.2 ▸ below_dr W⟩ : e = .returned (.int .u64 (ub (drawU 32 (topW false) a.1 b.2.toNat b.1.toNat))) ∧ Below W.heap.size W W'))
    have H2 := hid fun W (hp : W.cell? ⟨w.heap.size + 1 + 1 + 1 + 1, 0, none⟩ = some (.int .i64 32)) (hq : W.cell? ⟨w.heap.size, 0, none⟩ = some (.int .i64 32)) =>
      (HC (w.heap.size + 1 + 1 + 1 + 1) w.heap.size 32 a.2 b.1 b.2 W (by decide) h1 h2 hp hq).mono (fun e W' h => (⟨h.1, h.2 ▸ below_dr W⟩ : e = .returned (.int .u64 (ub (drawU 32 (topW false) a.2 b.1.toNat b.2.toNat))) ∧ Below W.heap.size W W'))
    clear HC h1 h2
    generalize drawU 32 (topW false) a.1 b.2.toNat b.1.toNat = R1 at *
    generalize drawU 32 (topW false) a.2 b.1.toNat b.2.toNat = R2 at *
    unfold tv
    go_enter Try.func167, Try.ntmps167
    go_wp2_with fail
    obtain ⟨q0, q1, q2, q3, q4, q5, q6⟩ := sg_start w a b 32 32 3 26 26 26 3
    generalize ((((w.alloc (.cells #[.int .i64 32] 3)).alloc (.cells #[.int .u64 (ub a.1), .int .u64 (ub a.2)] 26)).alloc (.cells #[.int .u64 (ub b.1), .int .u64 (ub b.2)] 26)).alloc (.cells #[.int .u64 0, .int .u64 0] 26)).alloc (.cells #[.int .i64 32] 3) = w0 at *
    go_region_held3 (fun w' => w'.cell? ⟨w.heap.size + 1, 0, none⟩ = some (.int .u64 (ub a.1)) ∧ w'.cell? ⟨w.heap.size + 1, 1, none⟩ = some (.int .u64 (ub a.2)) ∧ w'.cell? ⟨w.heap.size + 1 + 1, 0, none⟩ = some (.int .u64 (ub b.1)) ∧ w'.cell? ⟨w.heap.size + 1 + 1, 1, none⟩ = some (.int .u64 (ub b.2)) ∧ w'.cell? ⟨w.heap.size + 1 + 1 + 1 + 1, 0, none⟩ = some (.int .i64 32) ∧ w'.cell? ⟨w.heap.size, 0, none⟩ = some (.int .i64 32) ∧ RsI w (w.heap.size + 1 + 1 + 1) w')
      (first
        | (go_split_ands; exact ⟨by with_reducible assumption, by with_reducible assumption, by with_reducible assumption, by with_reducible assumption, by with_reducible assumption, by with_reducible assumption, by with_reducible assumption⟩)
        | exact ⟨cn bq (by with_reducible assumption), cn bq (by with_reducible assumption), cn bq (by with_reducible assumption), cn bq (by with_reducible assumption), cn bq (by with_reducible assumption), cn bq (by with_reducible assumption), RsI.next (by with_reducible assumption) bq⟩
        | exact ⟨cn (below_dr w0) q0, cn (below_dr w0) q1, cn (below_dr w0) q2, cn (below_dr w0) q3, cn (below_dr w0) q4, cn (below_dr w0) q5, q6.next (below_dr w0)⟩
        | (go_split_ands; exact ⟨cs3 (by with_reducible assumption) (by dsimp only; omega), cs3 (by with_reducible assumption) (by dsimp only; omega), cs3 (by with_reducible assumption) (by dsimp only; omega), cs3 (by with_reducible assumption) (by dsimp only; omega), cs3 (by with_reducible assumption) (by dsimp only; omega), cs3 (by with_reducible assumption) (by dsimp only; omega), RsI.put (by with_reducible assumption) _ _⟩))
      (first | (go_at_call 197; go_split_ands; (with_reducible refine (H1.out _ (by with_reducible assumption) (by with_reducible assumption)).mono ?_); rintro e wq ⟨rfl, bq⟩; have Rq := RsI.next (by with_reducible assumption) bq; have rq0 := Rq.lt; obtain ⟨cq0, rq1⟩ := Rq.c0; obtain ⟨cq1, rq2⟩ := Rq.c1; have rq3 := Rq.f0; have rq4 := Rq.f1) | (go_at_call 197; go_split_ands; (with_reducible refine (H2.out _ (by with_reducible assumption) (by with_reducible assumption)).mono ?_); rintro e wq ⟨rfl, bq⟩; have Rq := RsI.next (by with_reducible assumption) bq; have rq0 := Rq.lt; obtain ⟨cq0, rq1⟩ := Rq.c0; obtain ⟨cq1, rq2⟩ := Rq.c1; have rq3 := Rq.f0; have rq4 := Rq.f1))
    go_split_ands
    have hle := Rq.le
    have HB := hid (Rq.put (ub R1) (ub R2)).bel
    clear Rq bq
    go_wp2
    exact bodyPost_ret (v := tv (R1, R2)) (by simp [results, Try.results167, go_sem, rq0, rq1, rq2, rq3, rq4]; try rfl) rfl ⟨rfl, by simpa [go_sem] using HB.out⟩
  · rw [show (if (true : Bool) = true then 0 else 32 : Nat) = 0 from rfl, show szI true = 64 from rfl]
    have H1 := hid fun W (hp : W.cell? ⟨w.heap.size + 1 + 1 + 1 + 1, 0, none⟩ = some (.int .i64 0)) (hq : W.cell? ⟨w.heap.size, 0, none⟩ = some (.int .i64 64)) =>
      (HC (w.heap.size + 1 + 1 + 1 + 1) w.heap.size 0 a.1 b.2 b.1 W (by decide) h2 h1 hp hq).mono (fun e W' h => (⟨h.1, h.2 ▸ below_dr W⟩ : e = .returned (.int .u64 (ub (drawU 0 (topW true) a.1 b.2.toNat b.1.toNat))) ∧ Below W.heap.size W W'))
    have H2 := hid fun W (hp : W.cell? ⟨w.heap.size + 1 + 1 + 1 + 1, 0, none⟩ = some (.int .i64 0)) (hq : W.cell? ⟨w.heap.size, 0, none⟩ = some (.int .i64 64)) =>
      (HC (w.heap.size + 1 + 1 + 1 + 1) w.heap.size 0 a.2 b.1 b.2 W (by decide) h1 h2 hp hq).mono (fun e W' h => (⟨h.1, h.2 ▸ below_dr W⟩ : e = .returned (.int .u64 (ub (drawU 0 (topW true) a.2 b.1.toNat b.2.toNat))) ∧ Below W.heap.size W W'))
    clear HC h1 h2
    generalize drawU 0 (topW true) a.1 b.2.toNat b.1.toNat = R1 at *
    generalize drawU 0 (topW true) a.2 b.1.toNat b.2.toNat = R2 at *
    unfold tv
    go_enter Try.func167, Try.ntmps167
    go_wp2_with fail
    obtain ⟨q0, q1, q2, q3, q4, q5, q6⟩ := sg_start w a b 64 0 3 26 26 26 3
    generalize ((((w.alloc (.cells #[.int .i64 64] 3)).alloc (.cells #[.int .u64 (ub a.1), .int .u64 (ub a.2)] 26)).alloc (.cells #[.int .u64 (ub b.1), .int .u64 (ub b.2)] 26)).alloc (.cells #[.int .u64 0, .int .u64 0] 26)).alloc (.cells #[.int .i64 0] 3) = w0 at *
    go_region_held3 (fun w' => w'.cell? ⟨w.heap.size + 1, 0, none⟩ = some (.int .u64 (ub a.1)) ∧ w'.cell? ⟨w.heap.size + 1, 1, none⟩ = some (.int .u64 (ub a.2)) ∧ w'.cell? ⟨w.heap.size + 1 + 1, 0, none⟩ = some (.int .u64 (ub b.1)) ∧ w'.cell? ⟨w.heap.size + 1 + 1, 1, none⟩ = some (.int .u64 (ub b.2)) ∧ w'.cell? ⟨w.heap.size + 1 + 1 + 1 + 1, 0, none⟩ = some (.int .i64 0) ∧ w'.cell? ⟨w.heap.size, 0, none⟩ = some (.int .i64 64) ∧ RsI w (w.heap.size + 1 + 1 + 1) w')
      (first
        | (go_split_ands; exact ⟨by with_reducible assumption, by with_reducible assumption, by with_reducible assumption, by with_reducible assumption, by with_reducible assumption, by with_reducible assumption, by with_reducible assumption⟩)
        | exact ⟨cn bq (by with_reducible assumption), cn bq (by with_reducible assumption), cn bq (by with_reducible assumption), cn bq (by with_reducible assumption), cn bq (by with_reducible assumption), cn bq (by with_reducible assumption), RsI.next (by with_reducible assumption) bq⟩
        | exact ⟨cn (below_dr w0) q0, cn (below_dr w0) q1, cn (below_dr w0) q2, cn (below_dr w0) q3, cn (below_dr w0) q4, cn (below_dr w0) q5, q6.next (below_dr w0)⟩
        | (go_split_ands; exact ⟨cs3 (by with_reducible assumption) (by dsimp only; omega), cs3 (by with_reducible assumption) (by dsimp only; omega), cs3 (by with_reducible assumption) (by dsimp only; omega), cs3 (by with_reducible assumption) (by dsimp only; omega), cs3 (by with_reducible assumption) (by dsimp only; omega), cs3 (by with_reducible assumption) (by dsimp only; omega), RsI.put (by with_reducible assumption) _ _⟩))
      (first | (go_at_call 197; go_split_ands; (with_reducible refine (H1.out _ (by with_reducible assumption) (by with_reducible assumption)).mono ?_); rintro e wq ⟨rfl, bq⟩; have Rq := RsI.next (by with_reducible assumption) bq; have rq0 := Rq.lt; obtain ⟨cq0, rq1⟩ := Rq.c0; obtain ⟨cq1, rq2⟩ := Rq.c1; have rq3 := Rq.f0; have rq4 := Rq.f1) | (go_at_call 197; go_split_ands; (with_reducible refine (H2.out _ (by with_reducible assumption) (by with_reducible assumption)).mono ?_); rintro e wq ⟨rfl, bq⟩; have Rq := RsI.next (by with_reducible assumption) bq; have rq0 := Rq.lt; obtain ⟨cq0, rq1⟩ := Rq.c0; obtain ⟨cq1, rq2⟩ := Rq.c1; have rq3 := Rq.f0; have rq4 := Rq.f1))
    go_split_ands
    have hle := Rq.le
    have HB := hid (Rq.put (ub R1) (ub R2)).bel
    clear Rq bq
    go_wp2
    exact bodyPost_ret (v := tv (R1, R2)) (by simp [results, Try.results167, go_sem, rq0, rq1, rq2, rq3, rq4]; try rfl) rfl ⟨rfl, by simpa [go_sem] using HB.out⟩
end Go.Proofs.Ytoanbjnhoggpjaa
