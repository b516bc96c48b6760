/-
  Contracts of Alu, as the landed code has it.
-/
import Derived.Test.YtoanbjnhoggpjaaSpL
namespace Go.Proofs.Ytoanbjnhoggpjaa
set_option linter.unusedSimpArgs false
set_option linter.unusedVariables false
set_option maxRecDepth 100000
open Go.ChangeShapes Go.WideShapes Go.ChangeAt Go.RowKit

set_option maxRecDepth 20000 in
set_option maxHeartbeats 4000000 in
theorem sRes12 (c : Bool) (a b : Tn) (w : World) (hb : b.1.toNat ≤ b.2.toNat) : Calls Try.prog 97 #[.int .i64 12, .int .i64 (szI c), tv a, tv b] w fun e w' => e = .returned (tv (resS 12 c a b)) ∧ Below w.heap.size w w' := by
    obtain ⟨_, l2, l3⟩ := count_ok c b hb
    have hs := sizeW_le c
    have HC := fun W => sCounts_any c b W
    have HS := fun W => sSigned_any c a (countS c b) W (by omega) (by omega)
    rw [show resS 12 c a b = signS c a (countS c b) from rfl]
    generalize signS c a (countS c b) = R at *
    clear l2 l3 hb hs
    generalize countS c b = C at *
    generalize szI c = SZ at *
    unfold tv at HC HS ⊢
    replace HC := hid HC
    replace HS := hid HS
    have I0 := RI.start w a b 26 26 26
    go_enter Try.func97, Try.ntmps97
    go_wp2_with fail
    generalize ((w.alloc (.cells #[.int .u64 (ub a.1), .int .u64 (ub a.2)] 26)).alloc (.cells #[.int .u64 (ub b.1), .int .u64 (ub b.2)] 26)).alloc (.cells #[.int .u64 0, .int .u64 0] 26) = w0 at I0 ⊢
    have q0 := I0.ca.c0
    have q1 := I0.ca.c1
    have q2 := I0.cb.c0
    have q3 := I0.cb.c1
    have q4 := I0.res
    clear I0
    go_region_held3 (fun w' => w'.cell? ⟨w.heap.size, 0, none⟩ = some (.int .u64 (ub a.1)) ∧ w'.cell? ⟨w.heap.size, 1, none⟩ = some (.int .u64 (ub a.2)) ∧ w'.cell? ⟨w.heap.size + 1, 0, none⟩ = some (.int .u64 (ub b.1)) ∧ w'.cell? ⟨w.heap.size + 1, 1, none⟩ = some (.int .u64 (ub b.2)) ∧ RsI w (w.heap.size + 1 + 1) w')
      (first
        | (go_split_ands; exact ⟨by with_reducible assumption, by with_reducible assumption, by with_reducible assumption, by with_reducible assumption, by with_reducible assumption⟩)
        | exact ⟨cn bq (by with_reducible assumption), cn bq (by with_reducible assumption), cn bq (by with_reducible assumption), cn bq (by with_reducible assumption), RsI.next (by with_reducible assumption) bq⟩
        | exact ⟨cn (below_dr w0) q0, cn (below_dr w0) q1, cn (below_dr w0) q2, cn (below_dr w0) q3, q4.next (below_dr w0)⟩
        | (go_split_ands; exact ⟨cs3 (by with_reducible assumption) (by dsimp only; omega), cs3 (by with_reducible assumption) (by dsimp only; omega), cs3 (by with_reducible assumption) (by dsimp only; omega), cs3 (by with_reducible assumption) (by dsimp only; omega), RsI.put (by with_reducible assumption) _ _⟩))
      (first | (go_at_call 164; go_split_ands; (with_reducible refine (HC.out _).mono ?_); rintro e wq ⟨rfl, bq⟩; have Rq := RsI.next (by with_reducible assumption) bq; have rq0 := Rq.lt; obtain ⟨cq0, rq1⟩ := Rq.c0; obtain ⟨cq1, rq2⟩ := Rq.c1; have rq3 := Rq.f0; have rq4 := Rq.f1; have aq0 := cn bq (by with_reducible assumption : _ = some (Value.int IntKind.u64 (ub a.1))); have aq1 := cn bq (by with_reducible assumption : _ = some (Value.int IntKind.u64 (ub a.2))); have aq2 := cn bq (by with_reducible assumption : _ = some (Value.int IntKind.u64 (ub b.1))); have aq3 := cn bq (by with_reducible assumption : _ = some (Value.int IntKind.u64 (ub b.2)))) | (go_at_call 167; go_split_ands; (with_reducible refine (HS.out _).mono ?_); rintro e wq ⟨rfl, bq⟩; have Rq := RsI.next (by with_reducible assumption) bq; have rq0 := Rq.lt; obtain ⟨cq0, rq1⟩ := Rq.c0; obtain ⟨cq1, rq2⟩ := Rq.c1; have rq3 := Rq.f0; have rq4 := Rq.f1; have aq0 := cn bq (by with_reducible assumption : _ = some (Value.int IntKind.u64 (ub a.1))); have aq1 := cn bq (by with_reducible assumption : _ = some (Value.int IntKind.u64 (ub a.2))); have aq2 := cn bq (by with_reducible assumption : _ = some (Value.int IntKind.u64 (ub b.1))); have aq3 := cn bq (by with_reducible assumption : _ = some (Value.int IntKind.u64 (ub b.2)))))
    go_split_ands
    have hle := Rq.le
    have HB := hid (Rq.put (ub R.1) (ub R.2)).bel
    clear Rq bq
    go_wp2
    exact bodyPost_ret (v := tv R) (by simp [results, Try.results97, go_sem, rq0, rq1, rq2, rq3, rq4]; try rfl) rfl ⟨rfl, by simpa [go_sem] using HB.out⟩
set_option maxRecDepth 20000 in
set_option maxHeartbeats 4000000 in
theorem sRes8 (c : Bool) (a b : Tn) (w : World) : Calls Try.prog 97 #[.int .i64 8, .int .i64 (szI c), tv a, tv b] w fun e w' => e = .returned (tv (resS 8 c a b)) ∧ Below w.heap.size w w' := by
    have HO := fun W => sOf_any 0#64 W
    have HX := fun W => sSum_any c (0#64, 0#64) (negS a) W
    rw [show resS 8 c a b = sumS c (0#64, 0#64) (negS a) from rfl]
    generalize sumS c (0#64, 0#64) (negS a) = R at *
    generalize szI c = SZ at *
    unfold negS at HX
    unfold tv at HO HX ⊢
    dsimp only at HO HX ⊢
    rw [show ub 0#64 = 0 from rfl] at HO HX
    replace HO := hid HO
    replace HX := hid HX
    have I0 := RI.start w a b 26 26 26
    go_enter Try.func97, Try.ntmps97
    go_wp2_with fail
    generalize ((w.alloc (.cells #[.int .u64 (ub a.1), .int .u64 (ub a.2)] 26)).alloc (.cells #[.int .u64 (ub b.1), .int .u64 (ub b.2)] 26)).alloc (.cells #[.int .u64 0, .int .u64 0] 26) = w0 at I0 ⊢
    have q0 := I0.ca.c0
    have q1 := I0.ca.c1
    have Id := I0.next (below_dr w0)
    have d0 := Id.ca.c0
    have d1 := Id.ca.c1
    go_region_law (first | (go_simp; go_at_call 36; (with_reducible refine (HO.out _).mono ?_); rintro e wq ⟨rfl, bq⟩; have Iq := Id.next bq; have a0 := Iq.ca.c0; have a1 := Iq.ca.c1; have a2 := Iq.ca.f0; have a3 := Iq.ca.f1; have a4 := Iq.cb.c0; have a5 := Iq.cb.c1; have a6 := Iq.cb.f0; have a7 := Iq.cb.f1))
    all_goals
      have I5 := (Iq.puta (0#64, 0#64)).putb a
      clear a0 a1 a2 a3 a4 a5 a6 a7 Iq bq
      have I6 : RI w (0#64, 0#64) a ((((wq.setCell ⟨w.heap.size, 0, none⟩ (.int .u64 0)).setCell ⟨w.heap.size, 1, none⟩ (.int .u64 0)).setCell ⟨w.heap.size + 1, 0, none⟩ (.int .u64 (ub a.1))).setCell ⟨w.heap.size + 1, 1, none⟩ (.int .u64 (ub a.2))) := I5
      clear I5
      generalize (((wq.setCell ⟨w.heap.size, 0, none⟩ (.int .u64 0)).setCell ⟨w.heap.size, 1, none⟩ (.int .u64 0)).setCell ⟨w.heap.size + 1, 0, none⟩ (.int .u64 (ub a.1))).setCell ⟨w.heap.size + 1, 1, none⟩ (.int .u64 (ub a.2)) = w5 at I6 ⊢
      clear q0 q1 d0 d1 Id I0
      have p0 : w5.cell? ⟨w.heap.size, 0, none⟩ = some (.int .u64 0) := I6.ca.c0
      have p1 : w5.cell? ⟨w.heap.size, 1, none⟩ = some (.int .u64 0) := I6.ca.c1
      have p2 := I6.cb.c0
      have p3 := I6.cb.c1
      have p4 := I6.cb.f0
      have p5 := I6.cb.f1
      have I := I6.putb (0#64 - a.2, 0#64 - a.1)
      clear I6
      go_wp2_with fail
      refine (HX.out _).mono ?_
      rintro e w7 ⟨rfl, b7⟩
      replace I := I.next b7
      clear b7 p0 p1 p2 p3 p4 p5
      have r0 := I.rc.lt
      have r1 := I.rc.c0
      have r2 := I.rc.c1
      have r3 := I.rc.f0
      have r4 := I.rc.f1
      have HB := hid (put2_below R I.bel (by omega : w.heap.size ≤ w.heap.size + 1 + 1))
      clear I
      go_wp2
      exact bodyPost_ret (v := tv R) (by simp [results, Try.results97, go_sem, r0, r1, r2, r3, r4]; try rfl) rfl ⟨rfl, HB.out⟩
/-- The operations, one by one. -/
theorem sRes_any (k : Nat) (hk : k ≤ 12) (c : Bool) (a b : Tn) (w : World) (hb : b.1.toNat ≤ b.2.toNat) : Calls Try.prog 97 #[.int .i64 (k : Int), .int .i64 (szI c), tv a, tv b] w fun e w' => e = .returned (tv (resS k c a b)) ∧ Below w.heap.size w w' := by
  rcases twelve hk with rfl | rfl | rfl | rfl | rfl | rfl | rfl | rfl | rfl | rfl | rfl | rfl | rfl
  · exact sRes0 c a b w
  · exact sRes1 c a b w
  · exact sRes2 c a b w
  · exact sRes3 c a b w
  · exact sRes4 c a b w
  · exact sRes5 c a b w
  · exact sRes6 c a b w hb
  · exact sRes7 c a b w hb
  · exact sRes8 c a b w
  · exact sRes9 c a b w
  · exact sRes10 c a b w
  · exact sRes11 c a b w
  · exact sRes12 c a b w hb
end Go.Proofs.Ytoanbjnhoggpjaa
