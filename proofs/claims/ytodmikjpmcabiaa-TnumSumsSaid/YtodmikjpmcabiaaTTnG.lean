/-
  Contracts of package tnum's Mul and Meet, as the landed code has them.
-/
import Derived.Test.YtodmikjpmcabiaaTTnF
import Derived.Deep.RegionLaw
namespace Go.Proofs.Ytodmikjpmcabiaa
set_option linter.unusedSimpArgs false
set_option linter.unusedVariables false
set_option maxRecDepth 100000
open Go.ChangeShapes Go.WideShapes Go.ChangeAt Go.RowKit

/-- A block of the call's own that holds a tnum. -/
def TB (w : World) (b : Nat) (t : Tn) : Prop := TC w b t ∧ w.frozen? ⟨b, 0, none⟩ = false ∧ w.frozen? ⟨b, 1, none⟩ = false
theorem TB.below {w w' : World} {b : Nat} {t : Tn} (h : TB w b t) (hb : Below w.heap.size w w') : TB w' b t :=
  ⟨h.1.below hb, (hb.frozen (p := ⟨b, 0, none⟩) h.1.1).trans h.2.1, (hb.frozen (p := ⟨b, 1, none⟩) h.1.1).trans h.2.2⟩
theorem TB.new {w : World} {a : Tn} {t : TypeId} {b : Nat} (hb : b = w.heap.size) : TB (w.alloc (.cells #[.int .u64 (ub a.1), .int .u64 (ub a.2)] t)) b a :=
  ⟨TC.new hb, by subst hb; simp, by subst hb; simp⟩
theorem TB.put {w : World} {b : Nat} {t : Tn} (h : TB w b t) (u : Tn) : TB ((w.setCell ⟨b, 0, none⟩ (.int .u64 (ub u.1))).setCell ⟨b, 1, none⟩ (.int .u64 (ub u.2))) b u := by
  obtain ⟨⟨h0, h1, h2⟩, h3, h4⟩ := h
  refine ⟨⟨by simp; exact h0, ?_, ?_⟩, by simp; exact h3, by simp; exact h4⟩
  · exact (World.cell?_setCell_other _ _ _ _ (by simp)).trans (World.cell?_setCell_same _ _ _ h1)
  · exact World.cell?_setCell_same _ _ _ ((World.cell?_setCell_other _ _ _ _ (by simp)).trans h2)
theorem TB.other {w : World} {b c : Nat} {t : Tn} (h : TB w b t) (hbc : b ≠ c) (u v : Value) : TB ((w.setCell ⟨c, 0, none⟩ u).setCell ⟨c, 1, none⟩ v) b t := by
  obtain ⟨⟨h0, h1, h2⟩, h3, h4⟩ := h
  have e : ∀ b', b' ≠ c → ((w.setCell ⟨c, 0, none⟩ u).setCell ⟨c, 1, none⟩ v).heap[b']? = w.heap[b']? := fun b' hb' => (Below.heap_setCell _ _ _ _ hb').trans (Below.heap_setCell _ _ _ _ hb')
  refine ⟨⟨by simp; exact h0, ?_, ?_⟩, ?_, ?_⟩
  · exact (World.cell?_of_block (w := w) (a := ⟨b, 0, none⟩) (e b hbc)).trans h1
  · exact (World.cell?_of_block (w := w) (a := ⟨b, 1, none⟩) (e b hbc)).trans h2
  · exact (World.frozen?_of_block (w := w) (a := ⟨b, 0, none⟩) (e b hbc)).trans h3
  · exact (World.frozen?_of_block (w := w) (a := ⟨b, 1, none⟩) (e b hbc)).trans h4

theorem TC.put {w : World} {g c : Nat} {t : Tn} (h : TC w g t) (hgc : g ≠ c) (u v : Value) : TC ((w.setCell ⟨c, 0, none⟩ u).setCell ⟨c, 1, none⟩ v) g t := by
  obtain ⟨h0, h1, h2⟩ := h
  have e : ((w.setCell ⟨c, 0, none⟩ u).setCell ⟨c, 1, none⟩ v).heap[g]? = w.heap[g]? := (Below.heap_setCell _ _ _ _ hgc).trans (Below.heap_setCell _ _ _ _ hgc)
  exact ⟨by simp; exact h0, (World.cell?_of_block (w := w) (a := ⟨g, 0, none⟩) e).trans h1, (World.cell?_of_block (w := w) (a := ⟨g, 1, none⟩) e).trans h2⟩
structure MuI (w : World) (p q : Nat) (a b : Tn) (b3 : Nat) (t : Tn) (wr : World) : Prop where
  ca : TC wr p a
  cb : TC wr q b
  res : TB wr w.heap.size t0
  acc : TB wr b3 t
  bel : Below w.heap.size w wr
  n1 : w.heap.size < b3
theorem MuI.next {w : World} {p q : Nat} {a b : Tn} {b3 : Nat} {t : Tn} {wr w' : World} (h : MuI w p q a b b3 t wr) (hb : Below wr.heap.size wr w') : MuI w p q a b b3 t w' :=
  ⟨h.ca.below hb, h.cb.below hb, h.res.below hb, h.acc.below hb, h.bel.trans (hb.mono h.bel.size), h.n1⟩
theorem MuI.put {w : World} {p q : Nat} {a b : Tn} {b3 : Nat} {t : Tn} {wr : World} (h : MuI w p q a b b3 t wr) (hp : p < w.heap.size) (hq : q < w.heap.size) (u : Tn) :
    MuI w p q a b b3 u ((wr.setCell ⟨b3, 0, none⟩ (.int .u64 (ub u.1))).setCell ⟨b3, 1, none⟩ (.int .u64 (ub u.2))) := by
  have hn := h.n1
  have e : ∀ b', b' ≠ b3 → ((wr.setCell ⟨b3, 0, none⟩ (.int .u64 (ub u.1))).setCell ⟨b3, 1, none⟩ (.int .u64 (ub u.2))).heap[b']? = wr.heap[b']? := fun b' hb' => (Below.heap_setCell _ _ _ _ hb').trans (Below.heap_setCell _ _ _ _ hb')
  refine ⟨⟨by simp; exact h.ca.1, ?_, ?_⟩, ⟨by simp; exact h.cb.1, ?_, ?_⟩, h.res.other (by omega) _ _, h.acc.put u, (h.bel.setCell (Nat.le_of_lt hn) _).setCell (Nat.le_of_lt hn) _, hn⟩
  · exact (World.cell?_of_block (w := wr) (a := ⟨p, 0, none⟩) (e p (by omega))).trans h.ca.2.1
  · exact (World.cell?_of_block (w := wr) (a := ⟨p, 1, none⟩) (e p (by omega))).trans h.ca.2.2
  · exact (World.cell?_of_block (w := wr) (a := ⟨q, 0, none⟩) (e q (by omega))).trans h.cb.2.1
  · exact (World.cell?_of_block (w := wr) (a := ⟨q, 1, none⟩) (e q (by omega))).trans h.cb.2.2
set_option maxHeartbeats 4000000 in
theorem cMul (p q : Nat) (a b : Tn) (w : World) (ha : TC w p a) (hb : TC w q b) : Calls Try.prog 61 #[.pointer (some ⟨q, 0, none⟩), .pointer (some ⟨p, 0, none⟩)] w fun e w' => e = .returned (tv (mulN a b 64)) ∧ Below w.heap.size w w' := by
  have hp := ha.1
  have hq := hb.1
  have HA := hid ha
  have HB := hid hb
  clear ha hb
  go_enter Try.func61, Try.ntmps61
  go_wp2_with fail
  refine (tOf_any 0#64 _).mono ?_
  rintro e w1 ⟨rfl, b1⟩
  have X0 : MuI w p q a b w1.heap.size t0 (w1.alloc (.cells #[.int .u64 (ub 0#64), .int .u64 (ub 0#64)] 24)) := by
    have ba := (Below.refl w.heap.size w).alloc (Nat.le_refl _) (.cells #[.int .u64 0, .int .u64 0] 24)
    have bb := ba.trans (b1.mono (by simp))
    have bc := (Below.refl w1.heap.size w1).alloc (Nat.le_refl _) (.cells #[.int .u64 (ub 0#64), .int .u64 (ub 0#64)] 24)
    have hz := b1.size
    exact ⟨(HA.out.below bb).below bc, (HB.out.below bb).below bc, (TB.below (TB.new (a := t0) rfl) b1).below bc, TB.new (a := t0) rfl, bb.alloc bb.size _, by simp at hz; omega⟩
  have HX0 := hid X0
  clear X0 b1
  unfold tv
  go_wp2_with fail
  go_loopw [7] (fun i wr => ∃ k : Nat, k ≤ 64 ∧ i = .int .i64 k ∧ Hid (MuI w p q a b w1.heap.size (mulN a b k) wr)) (fun i _ => 64 - (intOf i).toNat)
  case atStart => exact ⟨0, by omega, rfl, HX0⟩
  case round =>
    obtain ⟨k, hk, rfl, HI⟩ := hrel
    obtain ⟨wo, rfl⟩ : ∃ wo : World, wo = wr := ⟨_, rfl⟩
    by_cases hlt : k < 64
    · have hlt' : (k : Int) < 64 := by omega
      have hq' := HI.out.cb.1
      have q1 := HI.out.cb.2.1
      have q2 := HI.out.cb.2.2
      go_wp2_with fail
      go_region
      have I5 : MuI w p q a b w1.heap.size (mulN a b k) (wo.alloc (.cells #[.int .u64 (ub (b.1 <<< k)), .int .u64 (ub (b.2 <<< k))] 24)).drew := HI.out.next ((Below.refl _ _).alloc (Nat.le_refl _) _).drew
      have T5 : TC (wo.alloc (.cells #[.int .u64 (ub (b.1 <<< k)), .int .u64 (ub (b.2 <<< k))] 24)).drew wo.heap.size (upT b k) := (TC.new (a := upT b k) rfl).below (below_dr _)
      have HG := HI.out.acc.1.1
      clear HI q1 q2 hq'
      generalize (wo.alloc (.cells #[.int .u64 (ub (b.1 <<< k)), .int .u64 (ub (b.2 <<< k))] 24)).drew = w5 at I5 T5 ⊢
      generalize wo.heap.size = g at T5 HG ⊢
      have hgb : w1.heap.size < g := HG
      have p1 := I5.ca.2.1
      have p2 := I5.ca.2.2
      have c1 := I5.acc.1.2.1
      have c2 := I5.acc.1.2.2
      have g1 : w5.cell? ⟨g, 0, none⟩ = some (.int .u64 (ub (b.1 <<< k))) := T5.2.1
      have g2 : w5.cell? ⟨g, 1, none⟩ = some (.int .u64 (ub (b.2 <<< k))) := T5.2.2
      cases h1 : bt a.1 k
      · cases h2 : bt a.2 k
        · have HM : mulN a b (k + 1) = mulN a b k := by show mulStep a b k (mulN a b k) = _; unfold mulStep; rw [h1, h2]; rfl
          go_wp2
          go_roundw
          case rel => exact ⟨k + 1, by omega, by go_num, hid (HM ▸ I5)⟩
          case measure => simp [intOf]; omega
        · have HM : mulN a b (k + 1) = sumT (mulN a b k) (butT 0#64 ((upT b k).1 ||| (upT b k).2)) := by show mulStep a b k (mulN a b k) = _; unfold mulStep; rw [h1, h2]; rfl
          go_wp2_with fail
          clear p1 p2 h1 h2 c1 c2 g1 g2
          have c1 := I5.acc.1.2.1
          have c2 := I5.acc.1.2.2
          have g1 : w5.cell? ⟨g, 0, none⟩ = some (.int .u64 (ub (b.1 <<< k))) := T5.2.1
          have g2 : w5.cell? ⟨g, 1, none⟩ = some (.int .u64 (ub (b.2 <<< k))) := T5.2.2
          have HI := hid I5
          clear I5 T5
          obtain ⟨U, hU⟩ : ∃ U, U = butT 0#64 ((upT b k).1 ||| (upT b k).2) := ⟨_, rfl⟩
          have HU : Hid (∀ W, Calls Try.prog 60 #[.int .u64 0, .int .u64 (ub (b.1 <<< k ||| b.2 <<< k))] W fun e w' => e = .returned (tv U) ∧ Below W.heap.size W w') := hid (fun W => hU ▸ tBut_any 0#64 (b.1 <<< k ||| b.2 <<< k) W)
          rw [← hU] at HM
          clear hU
          generalize mulN a b k = T1 at HM HI c1 c2 ⊢
          obtain ⟨R1, hR1⟩ : ∃ R1, R1 = sumT T1 U := ⟨_, rfl⟩
          have HS := hid (fun W => hR1 ▸ tSum_any T1 U W)
          rw [← hR1] at HM
          have HM := hid HM
          clear hR1
          unfold tv at HU HS
          go_region_law (first
              | (go_simp; go_at_call 60; refine (HU.out _).mono ?_; rintro e wq ⟨rfl, bq⟩; have Iq := (HI.out.next (below_dr _)).next bq; have cq1 := Iq.acc.1.2.1; have cq2 := Iq.acc.1.2.2)
              | (go_simp; go_at_call 56; refine (HS.out _).mono ?_; rintro e ws ⟨rfl, bs⟩; have Is := Iq.next bs; have cs1 := Is.acc.1.2.1; have cs2 := Is.acc.1.2.2; have cs3 := Is.acc.2.1; have cs4 := Is.acc.2.2))
          all_goals
            have I9 := Is.put hp hq R1
            clear cq1 cq2 cs1 cs2 cs3 cs4 Iq Is
            go_wp2
            go_roundw
            case rel => exact ⟨k + 1, by omega, by go_num, hid (HM.out ▸ I9)⟩
            case measure => simp [intOf]; omega
      · obtain ⟨R0, hR0⟩ : ∃ R0, R0 = sumT (mulN a b k) (upT b k) := ⟨_, rfl⟩
        have HS1 : Hid (∀ W, Calls Try.prog 56 #[tv (mulN a b k), tv (b.1 <<< k, b.2 <<< k)] W fun e w' => e = .returned (tv R0) ∧ Below W.heap.size W w') := hid (fun W => hR0 ▸ tSum_any (mulN a b k) (upT b k) W)
        unfold tv at HS1
        cases h2 : bt a.2 k
        · have HM : mulN a b (k + 1) = R0 := by rw [hR0]; show mulStep a b k (mulN a b k) = _; unfold mulStep; rw [h1, h2]; rfl
          have HM := hid HM
          clear hR0
          go_wp2_with fail
          refine (HS1.out _).mono ?_
          rintro e w6 ⟨rfl, b6⟩
          have I6 := I5.next b6
          have T6 := T5.below b6
          have T7 : TC ((w6.setCell ⟨w1.heap.size, 0, none⟩ (.int .u64 (ub R0.1))).setCell ⟨w1.heap.size, 1, none⟩ (.int .u64 (ub R0.2))) g (upT b k) := T6.put (Nat.ne_of_gt hgb) _ _
          have I7 := I6.put hp hq R0
          have d1 := I6.acc.1.2.1
          have d2 := I6.acc.1.2.2
          have d3 := I6.acc.2.1
          have d4 := I6.acc.2.2
          have P2 := I7.ca.2.2
          clear b6 I6 T6 I5 T5 p1 p2 c1 c2 g1 g2
          go_wp2
          go_roundw
          case rel => exact ⟨k + 1, by omega, by go_num, hid (HM.out ▸ I7)⟩
          case measure => simp [intOf]; omega
        · have HM : mulN a b (k + 1) = sumT R0 (butT 0#64 ((upT b k).1 ||| (upT b k).2)) := by rw [hR0]; show mulStep a b k (mulN a b k) = _; unfold mulStep; rw [h1, h2]; rfl
          clear hR0
          go_wp2_with fail
          refine (HS1.out _).mono ?_
          rintro e w6 ⟨rfl, b6⟩
          have I6 := I5.next b6
          have T6 := T5.below b6
          have T7 : TC ((w6.setCell ⟨w1.heap.size, 0, none⟩ (.int .u64 (ub R0.1))).setCell ⟨w1.heap.size, 1, none⟩ (.int .u64 (ub R0.2))) g (upT b k) := T6.put (Nat.ne_of_gt hgb) _ _
          have I7 := I6.put hp hq R0
          have d1 := I6.acc.1.2.1
          have d2 := I6.acc.1.2.2
          have d3 := I6.acc.2.1
          have d4 := I6.acc.2.2
          have P2 := I7.ca.2.2
          clear b6 I6 T6 I5 T5 p1 p2 c1 c2 g1 g2
          go_wp2_with fail
          clear P2 d1 d2 d3 d4 HS1 h1 h2
          generalize (w6.setCell ⟨w1.heap.size, 0, none⟩ (.int .u64 (ub R0.1))).setCell ⟨w1.heap.size, 1, none⟩ (.int .u64 (ub R0.2)) = w7 at I7 T7 ⊢
          have c1 := I7.acc.1.2.1
          have c2 := I7.acc.1.2.2
          have g1 : w7.cell? ⟨g, 0, none⟩ = some (.int .u64 (ub (b.1 <<< k))) := T7.2.1
          have g2 : w7.cell? ⟨g, 1, none⟩ = some (.int .u64 (ub (b.2 <<< k))) := T7.2.2
          have HI := hid I7
          clear I7 T7
          obtain ⟨U, hU⟩ : ∃ U, U = butT 0#64 ((upT b k).1 ||| (upT b k).2) := ⟨_, rfl⟩
          have HU : Hid (∀ W, Calls Try.prog 60 #[.int .u64 0, .int .u64 (ub (b.1 <<< k ||| b.2 <<< k))] W fun e w' => e = .returned (tv U) ∧ Below W.heap.size W w') := hid (fun W => hU ▸ tBut_any 0#64 (b.1 <<< k ||| b.2 <<< k) W)
          rw [← hU] at HM
          clear hU
          generalize R0 = T1 at HM HI c1 c2 ⊢
          obtain ⟨R1, hR1⟩ : ∃ R1, R1 = sumT T1 U := ⟨_, rfl⟩
          have HS := hid (fun W => hR1 ▸ tSum_any T1 U W)
          rw [← hR1] at HM
          have HM := hid HM
          clear hR1
          unfold tv at HU HS
          go_region_law (first
              | (go_simp; go_at_call 60; refine (HU.out _).mono ?_; rintro e wq ⟨rfl, bq⟩; have Iq := (HI.out.next (below_dr _)).next bq; have cq1 := Iq.acc.1.2.1; have cq2 := Iq.acc.1.2.2)
              | (go_simp; go_at_call 56; refine (HS.out _).mono ?_; rintro e ws ⟨rfl, bs⟩; have Is := Iq.next bs; have cs1 := Is.acc.1.2.1; have cs2 := Is.acc.1.2.2; have cs3 := Is.acc.2.1; have cs4 := Is.acc.2.2))
          all_goals
            have I9 := Is.put hp hq R1
            clear cq1 cq2 cs1 cs2 cs3 cs4 Iq Is
            go_wp2
            go_roundw
            case rel => exact ⟨k + 1, by omega, by go_num, hid (HM.out ▸ I9)⟩
            case measure => simp [intOf]; omega
    · have hk64 : k = 64 := by omega
      subst hk64
      have I0 := HI.out
      have c1 := I0.acc.1.2.1
      have c2 := I0.acc.1.2.2
      have d1 := I0.res.1.2.1
      have d2 := I0.res.1.2.2
      have d3 := I0.res.2.1
      have d4 := I0.res.2.2
      have dz := I0.res.1.1
      have HB := hid I0.bel
      clear I0
      go_wp2
      refine bodyPost_ret (v := .agg #[.int .u64 (ub (mulN a b 64).1), .int .u64 (ub (mulN a b 64).2)]) (by simp [results, Try.results61, go_sem, d1, d2, dz]; try rfl) rfl ⟨rfl, ?_⟩
      exact (HB.out.setCell (by simp) _).setCell (by simp) _
end Go.Proofs.Ytodmikjpmcabiaa
