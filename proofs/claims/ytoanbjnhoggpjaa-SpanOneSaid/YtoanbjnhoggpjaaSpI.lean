/-
  Contracts of bitwise and of the shifts with the sign, as the landed code has them.
-/
import Derived.Test.YtoanbjnhoggpjaaSpH
import Derived.Deep.RegionLaw
namespace Go.Proofs.Ytoanbjnhoggpjaa
set_option linter.unusedSimpArgs false
set_option linter.unusedVariables false
set_option maxRecDepth 100000
open Go.ChangeShapes Go.WideShapes Go.ChangeAt Go.RowKit

/-- A span's cells in a block of the call's own. -/
structure BC (w : World) (b : Nat) (t : Tn) : Prop where
  lt : b < w.heap.size
  c0 : w.cell? ⟨b, 0, none⟩ = some (.int .u64 (ub t.1))
  c1 : w.cell? ⟨b, 1, none⟩ = some (.int .u64 (ub t.2))
  f0 : w.frozen? ⟨b, 0, none⟩ = false
  f1 : w.frozen? ⟨b, 1, none⟩ = false
theorem BC.below {w w' : World} {b : Nat} {t : Tn} (h : BC w b t) (hb : Below w.heap.size w w') : BC w' b t :=
  ⟨Nat.lt_of_lt_of_le h.lt hb.size, (hb.cell h.lt).trans h.c0, (hb.cell h.lt).trans h.c1, (hb.frozen (p := ⟨b, 0, none⟩) h.lt).trans h.f0, (hb.frozen (p := ⟨b, 1, none⟩) h.lt).trans h.f1⟩
theorem BC.new {w : World} {a : Tn} {t : TypeId} {b : Nat} (hb : b = w.heap.size) : BC (w.alloc (.cells #[.int .u64 (ub a.1), .int .u64 (ub a.2)] t)) b a := by
  subst hb
  exact ⟨by simp, by simp, by simp, by simp, by simp⟩
def put2 (w : World) (b : Nat) (u : Tn) : World := (w.setCell ⟨b, 0, none⟩ (.int .u64 (ub u.1))).setCell ⟨b, 1, none⟩ (.int .u64 (ub u.2))
theorem put2_heap (w : World) (b : Nat) (u : Tn) {b' : Nat} (h : b' ≠ b) : (put2 w b u).heap[b']? = w.heap[b']? := (Below.heap_setCell _ _ _ _ h).trans (Below.heap_setCell _ _ _ _ h)
theorem put2_below {n : Nat} {w w1 : World} {b : Nat} (u : Tn) (h : Below n w w1) (hb : n ≤ b) : Below n w (put2 w1 b u) := (h.setCell (p := ⟨b, 0, none⟩) hb _).setCell (p := ⟨b, 1, none⟩) hb _
theorem put2_size (w : World) (b : Nat) (u : Tn) : (put2 w b u).heap.size = w.heap.size := by unfold put2; simp
theorem BC.put {w : World} {b : Nat} {t : Tn} (h : BC w b t) (u : Tn) : BC (put2 w b u) b u := by
  unfold put2
  refine ⟨by simp; exact h.lt, ?_, ?_, by simp; exact h.f0, by simp; exact h.f1⟩
  · exact (World.cell?_setCell_other _ _ _ _ (by simp)).trans (World.cell?_setCell_same _ _ _ h.c0)
  · exact World.cell?_setCell_same _ _ _ ((World.cell?_setCell_other _ _ _ _ (by simp)).trans h.c1)
theorem BC.other {w : World} {b c : Nat} {t : Tn} (h : BC w b t) (hbc : b ≠ c) (u : Tn) : BC (put2 w c u) b t := by
  have e := put2_heap w c u hbc
  exact ⟨by rw [put2_size]; exact h.lt, (World.cell?_of_block (w := w) (a := ⟨b, 0, none⟩) e).trans h.c0, (World.cell?_of_block (w := w) (a := ⟨b, 1, none⟩) e).trans h.c1,
    (World.frozen?_of_block (w := w) (a := ⟨b, 0, none⟩) e).trans h.f0, (World.frozen?_of_block (w := w) (a := ⟨b, 1, none⟩) e).trans h.f1⟩
/-- The boxes of two spans, and of a result. -/
structure RI (w : World) (a b : Tn) (w' : World) : Prop where
  ca : BC w' w.heap.size a
  cb : BC w' (w.heap.size + 1) b
  rc : BC w' (w.heap.size + 1 + 1) t0
  bel : Below w.heap.size w w'
theorem RI.next {w : World} {a b : Tn} {w' w2 : World} (h : RI w a b w') (hb : Below w'.heap.size w' w2) : RI w a b w2 :=
  ⟨h.ca.below hb, h.cb.below hb, h.rc.below hb, h.bel.trans (hb.mono h.bel.size)⟩
theorem RI.putb {w : World} {a b : Tn} {w' : World} (h : RI w a b w') (u : Tn) : RI w a u (put2 w' (w.heap.size + 1) u) :=
  ⟨h.ca.other (by omega) u, h.cb.put u, h.rc.other (by omega) u, put2_below u h.bel (by omega)⟩
theorem RI.puta {w : World} {a b : Tn} {w' : World} (h : RI w a b w') (u : Tn) : RI w u b (put2 w' w.heap.size u) :=
  ⟨h.ca.put u, h.cb.other (by omega) u, h.rc.other (by omega) u, put2_below u h.bel (by omega)⟩
theorem RI.start (w : World) (a b : Tn) (t t' t'' : TypeId) : RI w a b (((w.alloc (.cells #[.int .u64 (ub a.1), .int .u64 (ub a.2)] t)).alloc (.cells #[.int .u64 (ub b.1), .int .u64 (ub b.2)] t')).alloc (.cells #[.int .u64 0, .int .u64 0] t'')) := by
  have e1 := BC.new (w := w) (a := a) (t := t) rfl
  have s1 : (w.alloc (.cells #[.int .u64 (ub a.1), .int .u64 (ub a.2)] t)).heap.size = w.heap.size + 1 := by simp
  have b1 : Below w.heap.size w (w.alloc (.cells #[.int .u64 (ub a.1), .int .u64 (ub a.2)] t)) := (Below.refl _ _).alloc (Nat.le_refl _) _
  generalize w.alloc (.cells #[.int .u64 (ub a.1), .int .u64 (ub a.2)] t) = u1 at *
  have e2 := BC.new (w := u1) (a := b) (t := t') s1.symm
  have b2 : Below u1.heap.size u1 (u1.alloc (.cells #[.int .u64 (ub b.1), .int .u64 (ub b.2)] t')) := (Below.refl _ _).alloc (Nat.le_refl _) _
  have s2 : (u1.alloc (.cells #[.int .u64 (ub b.1), .int .u64 (ub b.2)] t')).heap.size = w.heap.size + 1 + 1 := by simp; omega
  generalize u1.alloc (.cells #[.int .u64 (ub b.1), .int .u64 (ub b.2)] t') = u2 at *
  have e3 : BC (u2.alloc (.cells #[.int .u64 0, .int .u64 0] t'')) (w.heap.size + 1 + 1) t0 := BC.new (w := u2) (a := t0) (t := t'') s2.symm
  have b3 : Below u2.heap.size u2 (u2.alloc (.cells #[.int .u64 0, .int .u64 0] t'')) := (Below.refl _ _).alloc (Nat.le_refl _) _
  exact ⟨(e1.below b2).below b3, e2.below b3, e3, (b1.trans (b2.mono b1.size)).trans (b3.mono (by omega))⟩
/-- A block that takes a result. -/
structure RsI (w : World) (r : Nat) (w' : World) : Prop where
  lt : r < w'.heap.size
  c0 : ∃ c, w'.cell? ⟨r, 0, none⟩ = some c
  c1 : ∃ c, w'.cell? ⟨r, 1, none⟩ = some c
  f0 : w'.frozen? ⟨r, 0, none⟩ = false
  f1 : w'.frozen? ⟨r, 1, none⟩ = false
  le : w.heap.size ≤ r
  bel : Below w.heap.size w w'
theorem RsI.next {w : World} {r : Nat} {w' w2 : World} (h : RsI w r w') (hb : Below w'.heap.size w' w2) : RsI w r w2 := by
  obtain ⟨h0, ⟨c0, h1⟩, ⟨c1, h2⟩, h3, h4, h6, h5⟩ := h
  exact ⟨Nat.lt_of_lt_of_le h0 hb.size, ⟨c0, (hb.cell h0).trans h1⟩, ⟨c1, (hb.cell h0).trans h2⟩, (hb.frozen (p := ⟨r, 0, none⟩) h0).trans h3, (hb.frozen (p := ⟨r, 1, none⟩) h0).trans h4, h6, h5.trans (hb.mono h5.size)⟩
theorem RsI.put {w : World} {r : Nat} {w' : World} (h : RsI w r w') (u v : Int) : RsI w r ((w'.setCell ⟨r, 0, none⟩ (.int .u64 u)).setCell ⟨r, 1, none⟩ (.int .u64 v)) := by
  obtain ⟨h0, ⟨c0, h1⟩, ⟨c1, h2⟩, h3, h4, h6, h5⟩ := h
  refine ⟨by simp; exact h0, ⟨.int .u64 u, ?_⟩, ⟨.int .u64 v, ?_⟩, by simp; exact h3, by simp; exact h4, h6, (h5.setCell (p := ⟨r, 0, none⟩) h6 _).setCell (p := ⟨r, 1, none⟩) h6 _⟩
  · exact (World.cell?_setCell_other _ _ _ _ (by simp)).trans (World.cell?_setCell_same _ _ _ h1)
  · exact World.cell?_setCell_same _ _ _ ((World.cell?_setCell_other _ _ _ _ (by simp)).trans h2)
theorem RI.res {w : World} {a b : Tn} {w' : World} (h : RI w a b w') : RsI w (w.heap.size + 1 + 1) w' := ⟨h.rc.lt, ⟨_, h.rc.c0⟩, ⟨_, h.rc.c1⟩, h.rc.f0, h.rc.f1, by omega, h.bel⟩
theorem cs3 {w : World} {p : Addr} {q : Nat} {u u' c : Value} (h : w.cell? p = some c) (hq : p.block ≠ q) : ((w.setCell ⟨q, 0, none⟩ u).setCell ⟨q, 1, none⟩ u').cell? p = some c :=
  (World.cell?_of_block (w := w) (a := p) ((Below.heap_setCell _ _ _ _ hq).trans (Below.heap_setCell _ _ _ _ hq))).trans h
set_option maxRecDepth 20000 in
set_option maxHeartbeats 4000000 in
theorem sBitw_any (op : Nat) (a b : Tn) (w : World) (hop : op = 4 ∨ op = 5 ∨ op = 10) : Calls Try.prog 169 #[.int .i64 (op : Int), tv a, tv b] w fun e w' => e = .returned (tv (bitwS op a b)) ∧ Below w.heap.size w w' := by
  have HO := fun a b W => sLeast_any 198 (· ||| ·) (fun _ _ => by kernel_rfl) cOrS a b W
  have HA := fun a b W => sLeast_any 199 (· &&& ·) (fun _ _ => by kernel_rfl) cAndS a b W
  have HX := fun a b W => sLeast_any 200 (· ^^^ ·) (fun _ _ => by kernel_rfl) cXorS a b W
  have HT1 := fun W => sTurned_any a W
  have HT2 := fun W => sTurned_any b W
  rcases hop with rfl | rfl | rfl
  · have H1 := fun W => HO a b W
    have H2 := fun W => HA (turnS a) (turnS b) W
    clear HO HA HX
    rw [show bitwS 4 a b = (leastS (· ||| ·) a b, ~~~(leastS (· &&& ·) (turnS a) (turnS b))) from rfl]
    generalize leastS (· ||| ·) a b = R1 at *
    generalize leastS (· &&& ·) (turnS a) (turnS b) = R2 at *
    generalize turnS a = A at *
    generalize turnS b = B at *
    unfold tv at H1 H2 HT1 HT2 ⊢
    dsimp only at H1 H2 HT1 HT2 ⊢
    replace H1 := hid H1
    replace H2 := hid H2
    replace HT1 := hid HT1
    replace HT2 := hid HT2
    have I0 := RI.start w a b 26 26 26
    go_enter Try.func169, Try.ntmps169
    go_wp2_with fail
    generalize ((w.alloc (.cells #[.int .u64 (ub a.1), .int .u64 (ub a.2)] 26)).alloc (.cells #[.int .u64 (ub b.1), .int .u64 (ub b.2)] 26)).alloc (.cells #[.int .u64 0, .int .u64 0] 26) = w0 at I0 ⊢
    have q0 := I0.ca.c0
    have q1 := I0.ca.c1
    have q2 := I0.cb.c0
    have q3 := I0.cb.c1
    have q4 := I0.res
    clear I0
    go_region_held3 (fun w' => w'.cell? ⟨w.heap.size, 0, none⟩ = some (.int .u64 (ub a.1)) ∧ w'.cell? ⟨w.heap.size, 1, none⟩ = some (.int .u64 (ub a.2)) ∧ w'.cell? ⟨w.heap.size + 1, 0, none⟩ = some (.int .u64 (ub b.1)) ∧ w'.cell? ⟨w.heap.size + 1, 1, none⟩ = some (.int .u64 (ub b.2)) ∧ RsI w (w.heap.size + 1 + 1) w')
      (first
        | (go_split_ands; exact ⟨by with_reducible assumption, by with_reducible assumption, by with_reducible assumption, by with_reducible assumption, by with_reducible assumption⟩)
        | exact ⟨cn bq (by with_reducible assumption), cn bq (by with_reducible assumption), cn bq (by with_reducible assumption), cn bq (by with_reducible assumption), RsI.next (by with_reducible assumption) bq⟩
        | exact ⟨cn (below_dr w0) q0, cn (below_dr w0) q1, cn (below_dr w0) q2, cn (below_dr w0) q3, q4.next (below_dr w0)⟩
        | (go_split_ands; exact ⟨cs3 (by with_reducible assumption) (by dsimp only; omega), cs3 (by with_reducible assumption) (by dsimp only; omega), cs3 (by with_reducible assumption) (by dsimp only; omega), cs3 (by with_reducible assumption) (by dsimp only; omega), RsI.put (by with_reducible assumption) _ _⟩))
      (first | (go_at_call 201; go_split_ands; (with_reducible refine (H1.out _).mono ?_); rintro e wq ⟨rfl, bq⟩; have Rq := RsI.next (by with_reducible assumption) bq; have rq0 := Rq.lt; obtain ⟨cq0, rq1⟩ := Rq.c0; obtain ⟨cq1, rq2⟩ := Rq.c1; have rq3 := Rq.f0; have rq4 := Rq.f1; have aq0 := cn bq (by with_reducible assumption : _ = some (Value.int IntKind.u64 (ub a.1))); have aq1 := cn bq (by with_reducible assumption : _ = some (Value.int IntKind.u64 (ub a.2))); have aq2 := cn bq (by with_reducible assumption : _ = some (Value.int IntKind.u64 (ub b.1))); have aq3 := cn bq (by with_reducible assumption : _ = some (Value.int IntKind.u64 (ub b.2)))) | (go_at_call 202; go_split_ands; (with_reducible refine (HT1.out _).mono ?_); rintro e wq ⟨rfl, bq⟩; have Rq := RsI.next (by with_reducible assumption) bq; have rq0 := Rq.lt; obtain ⟨cq0, rq1⟩ := Rq.c0; obtain ⟨cq1, rq2⟩ := Rq.c1; have rq3 := Rq.f0; have rq4 := Rq.f1; have aq0 := cn bq (by with_reducible assumption : _ = some (Value.int IntKind.u64 (ub a.1))); have aq1 := cn bq (by with_reducible assumption : _ = some (Value.int IntKind.u64 (ub a.2))); have aq2 := cn bq (by with_reducible assumption : _ = some (Value.int IntKind.u64 (ub b.1))); have aq3 := cn bq (by with_reducible assumption : _ = some (Value.int IntKind.u64 (ub b.2)))) | (go_at_call 202; go_split_ands; (with_reducible refine (HT2.out _).mono ?_); rintro e wq ⟨rfl, bq⟩; have Rq := RsI.next (by with_reducible assumption) bq; have rq0 := Rq.lt; obtain ⟨cq0, rq1⟩ := Rq.c0; obtain ⟨cq1, rq2⟩ := Rq.c1; have rq3 := Rq.f0; have rq4 := Rq.f1; have aq0 := cn bq (by with_reducible assumption : _ = some (Value.int IntKind.u64 (ub a.1))); have aq1 := cn bq (by with_reducible assumption : _ = some (Value.int IntKind.u64 (ub a.2))); have aq2 := cn bq (by with_reducible assumption : _ = some (Value.int IntKind.u64 (ub b.1))); have aq3 := cn bq (by with_reducible assumption : _ = some (Value.int IntKind.u64 (ub b.2)))) | (go_at_call 201; go_split_ands; (with_reducible refine (H2.out _).mono ?_); rintro e wq ⟨rfl, bq⟩; have Rq := RsI.next (by with_reducible assumption) bq; have rq0 := Rq.lt; obtain ⟨cq0, rq1⟩ := Rq.c0; obtain ⟨cq1, rq2⟩ := Rq.c1; have rq3 := Rq.f0; have rq4 := Rq.f1; have aq0 := cn bq (by with_reducible assumption : _ = some (Value.int IntKind.u64 (ub a.1))); have aq1 := cn bq (by with_reducible assumption : _ = some (Value.int IntKind.u64 (ub a.2))); have aq2 := cn bq (by with_reducible assumption : _ = some (Value.int IntKind.u64 (ub b.1))); have aq3 := cn bq (by with_reducible assumption : _ = some (Value.int IntKind.u64 (ub b.2)))))
    have HB := hid Rq.bel
    have hle := Rq.le
    clear HB
    have HB := hid (Rq.put (ub R1) (ub (~~~R2))).bel
    clear Rq bq
    go_wp2
    exact bodyPost_ret (v := tv (R1, ~~~R2)) (by simp [results, Try.results169, go_sem, rq0, rq1, rq2, rq3, rq4]; try rfl) rfl ⟨rfl, by simpa [go_sem] using HB.out⟩
  · have H1 := fun W => HA a b W
    have H2 := fun W => HO (turnS a) (turnS b) W
    clear HO HA HX
    rw [show bitwS 5 a b = (leastS (· &&& ·) a b, ~~~(leastS (· ||| ·) (turnS a) (turnS b))) from rfl]
    generalize leastS (· &&& ·) a b = R1 at *
    generalize leastS (· ||| ·) (turnS a) (turnS b) = R2 at *
    generalize turnS a = A at *
    generalize turnS b = B at *
    unfold tv at H1 H2 HT1 HT2 ⊢
    dsimp only at H1 H2 HT1 HT2 ⊢
    replace H1 := hid H1
    replace H2 := hid H2
    replace HT1 := hid HT1
    replace HT2 := hid HT2
    have I0 := RI.start w a b 26 26 26
    go_enter Try.func169, Try.ntmps169
    go_wp2_with fail
    generalize ((w.alloc (.cells #[.int .u64 (ub a.1), .int .u64 (ub a.2)] 26)).alloc (.cells #[.int .u64 (ub b.1), .int .u64 (ub b.2)] 26)).alloc (.cells #[.int .u64 0, .int .u64 0] 26) = w0 at I0 ⊢
    have q0 := I0.ca.c0
    have q1 := I0.ca.c1
    have q2 := I0.cb.c0
    have q3 := I0.cb.c1
    have q4 := I0.res
    clear I0
    go_region_held3 (fun w' => w'.cell? ⟨w.heap.size, 0, none⟩ = some (.int .u64 (ub a.1)) ∧ w'.cell? ⟨w.heap.size, 1, none⟩ = some (.int .u64 (ub a.2)) ∧ w'.cell? ⟨w.heap.size + 1, 0, none⟩ = some (.int .u64 (ub b.1)) ∧ w'.cell? ⟨w.heap.size + 1, 1, none⟩ = some (.int .u64 (ub b.2)) ∧ RsI w (w.heap.size + 1 + 1) w')
      (first
        | (go_split_ands; exact ⟨by with_reducible assumption, by with_reducible assumption, by with_reducible assumption, by with_reducible assumption, by with_reducible assumption⟩)
        | exact ⟨cn bq (by with_reducible assumption), cn bq (by with_reducible assumption), cn bq (by with_reducible assumption), cn bq (by with_reducible assumption), RsI.next (by with_reducible assumption) bq⟩
        | exact ⟨cn (below_dr w0) q0, cn (below_dr w0) q1, cn (below_dr w0) q2, cn (below_dr w0) q3, q4.next (below_dr w0)⟩
        | (go_split_ands; exact ⟨cs3 (by with_reducible assumption) (by dsimp only; omega), cs3 (by with_reducible assumption) (by dsimp only; omega), cs3 (by with_reducible assumption) (by dsimp only; omega), cs3 (by with_reducible assumption) (by dsimp only; omega), RsI.put (by with_reducible assumption) _ _⟩))
      (first | (go_at_call 201; go_split_ands; (with_reducible refine (H1.out _).mono ?_); rintro e wq ⟨rfl, bq⟩; have Rq := RsI.next (by with_reducible assumption) bq; have rq0 := Rq.lt; obtain ⟨cq0, rq1⟩ := Rq.c0; obtain ⟨cq1, rq2⟩ := Rq.c1; have rq3 := Rq.f0; have rq4 := Rq.f1; have aq0 := cn bq (by with_reducible assumption : _ = some (Value.int IntKind.u64 (ub a.1))); have aq1 := cn bq (by with_reducible assumption : _ = some (Value.int IntKind.u64 (ub a.2))); have aq2 := cn bq (by with_reducible assumption : _ = some (Value.int IntKind.u64 (ub b.1))); have aq3 := cn bq (by with_reducible assumption : _ = some (Value.int IntKind.u64 (ub b.2)))) | (go_at_call 202; go_split_ands; (with_reducible refine (HT1.out _).mono ?_); rintro e wq ⟨rfl, bq⟩; have Rq := RsI.next (by with_reducible assumption) bq; have rq0 := Rq.lt; obtain ⟨cq0, rq1⟩ := Rq.c0; obtain ⟨cq1, rq2⟩ := Rq.c1; have rq3 := Rq.f0; have rq4 := Rq.f1; have aq0 := cn bq (by with_reducible assumption : _ = some (Value.int IntKind.u64 (ub a.1))); have aq1 := cn bq (by with_reducible assumption : _ = some (Value.int IntKind.u64 (ub a.2))); have aq2 := cn bq (by with_reducible assumption : _ = some (Value.int IntKind.u64 (ub b.1))); have aq3 := cn bq (by with_reducible assumption : _ = some (Value.int IntKind.u64 (ub b.2)))) | (go_at_call 202; go_split_ands; (with_reducible refine (HT2.out _).mono ?_); rintro e wq ⟨rfl, bq⟩; have Rq := RsI.next (by with_reducible assumption) bq; have rq0 := Rq.lt; obtain ⟨cq0, rq1⟩ := Rq.c0; obtain ⟨cq1, rq2⟩ := Rq.c1; have rq3 := Rq.f0; have rq4 := Rq.f1; have aq0 := cn bq (by with_reducible assumption : _ = some (Value.int IntKind.u64 (ub a.1))); have aq1 := cn bq (by with_reducible assumption : _ = some (Value.int IntKind.u64 (ub a.2))); have aq2 := cn bq (by with_reducible assumption : _ = some (Value.int IntKind.u64 (ub b.1))); have aq3 := cn bq (by with_reducible assumption : _ = some (Value.int IntKind.u64 (ub b.2)))) | (go_at_call 201; go_split_ands; (with_reducible refine (H2.out _).mono ?_); rintro e wq ⟨rfl, bq⟩; have Rq := RsI.next (by with_reducible assumption) bq; have rq0 := Rq.lt; obtain ⟨cq0, rq1⟩ := Rq.c0; obtain ⟨cq1, rq2⟩ := Rq.c1; have rq3 := Rq.f0; have rq4 := Rq.f1; have aq0 := cn bq (by with_reducible assumption : _ = some (Value.int IntKind.u64 (ub a.1))); have aq1 := cn bq (by with_reducible assumption : _ = some (Value.int IntKind.u64 (ub a.2))); have aq2 := cn bq (by with_reducible assumption : _ = some (Value.int IntKind.u64 (ub b.1))); have aq3 := cn bq (by with_reducible assumption : _ = some (Value.int IntKind.u64 (ub b.2)))))
    have HB := hid Rq.bel
    have hle := Rq.le
    clear HB
    have HB := hid (Rq.put (ub R1) (ub (~~~R2))).bel
    clear Rq bq
    go_wp2
    exact bodyPost_ret (v := tv (R1, ~~~R2)) (by simp [results, Try.results169, go_sem, rq0, rq1, rq2, rq3, rq4]; try rfl) rfl ⟨rfl, by simpa [go_sem] using HB.out⟩
  · have H1 := fun W => HX a b W
    have H2 := fun W => HX (turnS a) (b) W
    clear HO HA HX
    rw [show bitwS 10 a b = (leastS (· ^^^ ·) a b, ~~~(leastS (· ^^^ ·) (turnS a) (b))) from rfl]
    generalize leastS (· ^^^ ·) a b = R1 at *
    generalize leastS (· ^^^ ·) (turnS a) (b) = R2 at *
    generalize turnS a = A at *
    generalize turnS b = B at *
    unfold tv at H1 H2 HT1 HT2 ⊢
    dsimp only at H1 H2 HT1 HT2 ⊢
    replace H1 := hid H1
    replace H2 := hid H2
    replace HT1 := hid HT1
    replace HT2 := hid HT2
    have I0 := RI.start w a b 26 26 26
    go_enter Try.func169, Try.ntmps169
    go_wp2_with fail
    generalize ((w.alloc (.cells #[.int .u64 (ub a.1), .int .u64 (ub a.2)] 26)).alloc (.cells #[.int .u64 (ub b.1), .int .u64 (ub b.2)] 26)).alloc (.cells #[.int .u64 0, .int .u64 0] 26) = w0 at I0 ⊢
    have q0 := I0.ca.c0
    have q1 := I0.ca.c1
    have q2 := I0.cb.c0
    have q3 := I0.cb.c1
    have q4 := I0.res
    clear I0
    go_region_held3 (fun w' => w'.cell? ⟨w.heap.size, 0, none⟩ = some (.int .u64 (ub a.1)) ∧ w'.cell? ⟨w.heap.size, 1, none⟩ = some (.int .u64 (ub a.2)) ∧ w'.cell? ⟨w.heap.size + 1, 0, none⟩ = some (.int .u64 (ub b.1)) ∧ w'.cell? ⟨w.heap.size + 1, 1, none⟩ = some (.int .u64 (ub b.2)) ∧ RsI w (w.heap.size + 1 + 1) w')
      (first
        | (go_split_ands; exact ⟨by with_reducible assumption, by with_reducible assumption, by with_reducible assumption, by with_reducible assumption, by with_reducible assumption⟩)
        | exact ⟨cn bq (by with_reducible assumption), cn bq (by with_reducible assumption), cn bq (by with_reducible assumption), cn bq (by with_reducible assumption), RsI.next (by with_reducible assumption) bq⟩
        | exact ⟨cn (below_dr w0) q0, cn (below_dr w0) q1, cn (below_dr w0) q2, cn (below_dr w0) q3, q4.next (below_dr w0)⟩
        | (go_split_ands; exact ⟨cs3 (by with_reducible assumption) (by dsimp only; omega), cs3 (by with_reducible assumption) (by dsimp only; omega), cs3 (by with_reducible assumption) (by dsimp only; omega), cs3 (by with_reducible assumption) (by dsimp only; omega), RsI.put (by with_reducible assumption) _ _⟩))
      (first | (go_at_call 201; go_split_ands; (with_reducible refine (H1.out _).mono ?_); rintro e wq ⟨rfl, bq⟩; have Rq := RsI.next (by with_reducible assumption) bq; have rq0 := Rq.lt; obtain ⟨cq0, rq1⟩ := Rq.c0; obtain ⟨cq1, rq2⟩ := Rq.c1; have rq3 := Rq.f0; have rq4 := Rq.f1; have aq0 := cn bq (by with_reducible assumption : _ = some (Value.int IntKind.u64 (ub a.1))); have aq1 := cn bq (by with_reducible assumption : _ = some (Value.int IntKind.u64 (ub a.2))); have aq2 := cn bq (by with_reducible assumption : _ = some (Value.int IntKind.u64 (ub b.1))); have aq3 := cn bq (by with_reducible assumption : _ = some (Value.int IntKind.u64 (ub b.2)))) | (go_at_call 202; go_split_ands; (with_reducible refine (HT1.out _).mono ?_); rintro e wq ⟨rfl, bq⟩; have Rq := RsI.next (by with_reducible assumption) bq; have rq0 := Rq.lt; obtain ⟨cq0, rq1⟩ := Rq.c0; obtain ⟨cq1, rq2⟩ := Rq.c1; have rq3 := Rq.f0; have rq4 := Rq.f1; have aq0 := cn bq (by with_reducible assumption : _ = some (Value.int IntKind.u64 (ub a.1))); have aq1 := cn bq (by with_reducible assumption : _ = some (Value.int IntKind.u64 (ub a.2))); have aq2 := cn bq (by with_reducible assumption : _ = some (Value.int IntKind.u64 (ub b.1))); have aq3 := cn bq (by with_reducible assumption : _ = some (Value.int IntKind.u64 (ub b.2)))) | (go_at_call 202; go_split_ands; (with_reducible refine (HT2.out _).mono ?_); rintro e wq ⟨rfl, bq⟩; have Rq := RsI.next (by with_reducible assumption) bq; have rq0 := Rq.lt; obtain ⟨cq0, rq1⟩ := Rq.c0; obtain ⟨cq1, rq2⟩ := Rq.c1; have rq3 := Rq.f0; have rq4 := Rq.f1; have aq0 := cn bq (by with_reducible assumption : _ = some (Value.int IntKind.u64 (ub a.1))); have aq1 := cn bq (by with_reducible assumption : _ = some (Value.int IntKind.u64 (ub a.2))); have aq2 := cn bq (by with_reducible assumption : _ = some (Value.int IntKind.u64 (ub b.1))); have aq3 := cn bq (by with_reducible assumption : _ = some (Value.int IntKind.u64 (ub b.2)))) | (go_at_call 201; go_split_ands; (with_reducible refine (H2.out _).mono ?_); rintro e wq ⟨rfl, bq⟩; have Rq := RsI.next (by with_reducible assumption) bq; have rq0 := Rq.lt; obtain ⟨cq0, rq1⟩ := Rq.c0; obtain ⟨cq1, rq2⟩ := Rq.c1; have rq3 := Rq.f0; have rq4 := Rq.f1; have aq0 := cn bq (by with_reducible assumption : _ = some (Value.int IntKind.u64 (ub a.1))); have aq1 := cn bq (by with_reducible assumption : _ = some (Value.int IntKind.u64 (ub a.2))); have aq2 := cn bq (by with_reducible assumption : _ = some (Value.int IntKind.u64 (ub b.1))); have aq3 := cn bq (by with_reducible assumption : _ = some (Value.int IntKind.u64 (ub b.2)))))
    have HB := hid Rq.bel
    have hle := Rq.le
    clear HB
    have HB := hid (Rq.put (ub R1) (ub (~~~R2))).bel
    clear Rq bq
    go_wp2
    exact bodyPost_ret (v := tv (R1, ~~~R2)) (by simp [results, Try.results169, go_sem, rq0, rq1, rq2, rq3, rq4]; try rfl) rfl ⟨rfl, by simpa [go_sem] using HB.out⟩
end Go.Proofs.Ytoanbjnhoggpjaa
