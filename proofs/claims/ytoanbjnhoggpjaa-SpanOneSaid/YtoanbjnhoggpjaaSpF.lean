/-
  Contracts of half and of the closure that chooses a way, as the landed code has them.
-/
import Derived.Test.YtoanbjnhoggpjaaSpE
namespace Go.Proofs.Ytoanbjnhoggpjaa
set_option linter.unusedSimpArgs false
set_option linter.unusedVariables false
set_option maxRecDepth 100000
open Go.ChangeShapes Go.WideShapes Go.ChangeAt Go.RowKit

@[go_sem] theorem ub_dbl (x : B64) : IntKind.u64.wrap (ub x * 2) = ub (x <<< 1) := by have h := ub_wshl x 1; rw [Int.pow_succ, Int.pow_zero, Int.one_mul] at h; exact h
theorem sHalf_any (a : Tn) (bit is : B64) (w : World) : Calls Try.prog 216 #[tv a, .int .u64 (ub bit), .int .u64 (ub is)] w fun e w' => e = .returned (.tuple #[tv (halfS a bit is), .bool (halfOk a bit is)]) ∧ Below w.heap.size w w' := by
  have HM := fun W => sMeet_any a (halfP a bit is) W
  rw [show meetS a (halfP a bit is) = halfS a bit is from rfl, show mayS (meetP a (halfP a bit is)) = halfOk a bit is from rfl] at HM
  generalize halfS a bit is = R at *
  generalize halfOk a bit is = B at *
  obtain ⟨v, m⟩ := a
  unfold halfP firstS at HM
  unfold tv at HM ⊢
  dsimp only at HM ⊢
  replace HM := hid HM
  go_enter Try.func216, Try.ntmps216
  go_wp2_with fail
  refine (HM.out _).mono ?_
  rintro e w1 ⟨rfl, b1⟩
  have hb : Below w.heap.size w w1 := (((Below.refl _ _).alloc (Nat.le_refl _) _).alloc (by simp) _).trans (b1.mono (by simp; omega))
  obtain ⟨hc1, hf1⟩ := bcell b1
  have hz1_0 : w.heap.size < w1.heap.size := by have := b1.size; simp at this; omega
  have hz1_1 : w.heap.size + 1 < w1.heap.size := by have := b1.size; simp at this; omega
  have HB1 := hid hb
  clear b1 hb
  go_wp2
  exact bodyPost_ret (v := .tuple #[tv R, .bool B]) (by simp [results, Try.results216, go_sem, hc1, hf1, hz1_0, hz1_1]; try rfl) rfl ⟨rfl, (HB1.out.setCell (by simp <;> omega) _).setCell (by simp <;> omega) _⟩
theorem cOrS (x y : B64) (w : World) : Calls Try.prog 198 #[.int .u64 (ub x), .int .u64 (ub y)] w fun e w' => e = .returned (.int .u64 (ub (x ||| y))) ∧ w' = w := by
  go_enter Try.func198, Try.ntmps198
  go_wp2
  go_ret
  exact ⟨rfl, rfl⟩
theorem cAndS (x y : B64) (w : World) : Calls Try.prog 199 #[.int .u64 (ub x), .int .u64 (ub y)] w fun e w' => e = .returned (.int .u64 (ub (x &&& y))) ∧ w' = w := by
  go_enter Try.func199, Try.ntmps199
  go_wp2
  go_ret
  exact ⟨rfl, rfl⟩
theorem cXorS (x y : B64) (w : World) : Calls Try.prog 200 #[.int .u64 (ub x), .int .u64 (ub y)] w fun e w' => e = .returned (.int .u64 (ub (x ^^^ y))) ∧ w' = w := by
  go_enter Try.func200, Try.ntmps200
  go_wp2
  go_ret
  exact ⟨rfl, rfl⟩
/-- Two spans' cells, one behind the other. -/
def pv (K : Tn × Tn) : Value := .agg #[.int .u64 (ub K.1.1), .int .u64 (ub K.1.2), .int .u64 (ub K.2.1), .int .u64 (ub K.2.2)]
def PC (w : World) (b : Nat) (K : Tn × Tn) : Prop := b < w.heap.size ∧ w.cell? ⟨b, 0, none⟩ = some (.int .u64 (ub K.1.1)) ∧ w.cell? ⟨b, 1, none⟩ = some (.int .u64 (ub K.1.2)) ∧ w.cell? ⟨b, 2, none⟩ = some (.int .u64 (ub K.2.1)) ∧ w.cell? ⟨b, 3, none⟩ = some (.int .u64 (ub K.2.2)) ∧
  w.frozen? ⟨b, 0, none⟩ = false ∧ w.frozen? ⟨b, 1, none⟩ = false ∧ w.frozen? ⟨b, 2, none⟩ = false ∧ w.frozen? ⟨b, 3, none⟩ = false
theorem PC.below {w w' : World} {b : Nat} {K : Tn × Tn} (h : PC w b K) (hb : Below w.heap.size w w') : PC w' b K := by
  obtain ⟨h0, h1, h2, h3, h4, f1, f2, f3, f4⟩ := h
  exact ⟨Nat.lt_of_lt_of_le h0 hb.size, (hb.cell h0).trans h1, (hb.cell h0).trans h2, (hb.cell h0).trans h3, (hb.cell h0).trans h4,
    (hb.frozen (p := ⟨b, 0, none⟩) h0).trans f1, (hb.frozen (p := ⟨b, 1, none⟩) h0).trans f2, (hb.frozen (p := ⟨b, 2, none⟩) h0).trans f3, (hb.frozen (p := ⟨b, 3, none⟩) h0).trans f4⟩
theorem PC.new {w : World} {K : Tn × Tn} {t : TypeId} {b : Nat} (hb : b = w.heap.size) : PC (w.alloc (.cells #[.int .u64 (ub K.1.1), .int .u64 (ub K.1.2), .int .u64 (ub K.2.1), .int .u64 (ub K.2.2)] t)) b K := by
  subst hb
  refine ⟨by simp, ?_, ?_, ?_, ?_, ?_, ?_, ?_, ?_⟩ <;> simp
def put4 (w : World) (b : Nat) (K : Tn × Tn) : World := (((w.setCell ⟨b, 0, none⟩ (.int .u64 (ub K.1.1))).setCell ⟨b, 1, none⟩ (.int .u64 (ub K.1.2))).setCell ⟨b, 2, none⟩ (.int .u64 (ub K.2.1))).setCell ⟨b, 3, none⟩ (.int .u64 (ub K.2.2))
theorem put4_heap (w : World) (b : Nat) (K : Tn × Tn) {b' : Nat} (h : b' ≠ b) : (put4 w b K).heap[b']? = w.heap[b']? :=
  (((Below.heap_setCell _ _ _ _ h).trans (Below.heap_setCell _ _ _ _ h)).trans (Below.heap_setCell _ _ _ _ h)).trans (Below.heap_setCell _ _ _ _ h)
theorem put4_below {n : Nat} {w w1 : World} {b : Nat} (K : Tn × Tn) (h : Below n w w1) (hb : n ≤ b) : Below n w (put4 w1 b K) :=
  (((h.setCell (p := ⟨b, 0, none⟩) hb _).setCell (p := ⟨b, 1, none⟩) hb _).setCell (p := ⟨b, 2, none⟩) hb _).setCell (p := ⟨b, 3, none⟩) hb _
theorem put4_size (w : World) (b : Nat) (K : Tn × Tn) : (put4 w b K).heap.size = w.heap.size := by unfold put4; simp
theorem PC.put {w : World} {b : Nat} {K : Tn × Tn} (h : PC w b K) (U : Tn × Tn) : PC (put4 w b U) b U := by
  obtain ⟨h0, h1, h2, h3, h4, f1, f2, f3, f4⟩ := h
  have o : ∀ (w : World) (i j : Nat) (v : Value), i ≠ j → (w.setCell ⟨b, j, none⟩ v).cell? ⟨b, i, none⟩ = w.cell? ⟨b, i, none⟩ := fun w i j v hij => World.cell?_setCell_other _ _ _ _ (fun h => hij (congrArg Addr.off h).symm)
  unfold put4
  refine ⟨by simp; exact h0, ?_, ?_, ?_, ?_, by simp; exact f1, by simp; exact f2, by simp; exact f3, by simp; exact f4⟩
  · rw [o _ 0 3 _ (by decide), o _ 0 2 _ (by decide), o _ 0 1 _ (by decide)]; exact World.cell?_setCell_same _ _ _ h1
  · rw [o _ 1 3 _ (by decide), o _ 1 2 _ (by decide)]; exact World.cell?_setCell_same _ _ _ ((o _ 1 0 _ (by decide)).trans h2)
  · rw [o _ 2 3 _ (by decide)]; exact World.cell?_setCell_same _ _ _ ((o _ 2 1 _ (by decide)).trans ((o _ 2 0 _ (by decide)).trans h3))
  · exact World.cell?_setCell_same _ _ _ ((o _ 3 2 _ (by decide)).trans ((o _ 3 1 _ (by decide)).trans ((o _ 3 0 _ (by decide)).trans h4)))
theorem PC.other {w : World} {b c : Nat} {K : Tn × Tn} (h : PC w b K) (hbc : b ≠ c) (U : Tn × Tn) : PC (put4 w c U) b K := by
  obtain ⟨h0, h1, h2, h3, h4, f1, f2, f3, f4⟩ := h
  have e := put4_heap w c U hbc
  exact ⟨by rw [put4_size]; exact h0, (World.cell?_of_block (w := w) (a := ⟨b, 0, none⟩) e).trans h1, (World.cell?_of_block (w := w) (a := ⟨b, 1, none⟩) e).trans h2, (World.cell?_of_block (w := w) (a := ⟨b, 2, none⟩) e).trans h3, (World.cell?_of_block (w := w) (a := ⟨b, 3, none⟩) e).trans h4,
    (World.frozen?_of_block (w := w) (a := ⟨b, 0, none⟩) e).trans f1, (World.frozen?_of_block (w := w) (a := ⟨b, 1, none⟩) e).trans f2, (World.frozen?_of_block (w := w) (a := ⟨b, 2, none⟩) e).trans f3, (World.frozen?_of_block (w := w) (a := ⟨b, 3, none⟩) e).trans f4⟩
/-- One cell that holds a function. -/
def FC (w : World) (q : Nat) (D : FuncId) : Prop := q < w.heap.size ∧ w.cell? ⟨q, 0, none⟩ = some (.func (.func D) #[] #[])
theorem FC.below {w w' : World} {q : Nat} {D : FuncId} (h : FC w q D) (hb : Below w.heap.size w w') : FC w' q D := ⟨Nat.lt_of_lt_of_le h.1 hb.size, (hb.cell h.1).trans h.2⟩
theorem FC.other {w : World} {q c : Nat} {D : FuncId} (h : FC w q D) (hqc : q ≠ c) (U : Tn × Tn) : FC (put4 w c U) q D :=
  ⟨by rw [put4_size]; exact h.1, (World.cell?_of_block (w := w) (a := ⟨q, 0, none⟩) (put4_heap w c U hqc)).trans h.2⟩
def wx (bit : B64) (k : Nat) : B64 := if k < 2 then bit else 0#64
def wy (bit : B64) (k : Nat) : B64 := if k = 0 ∨ k = 2 then bit else 0#64
def stN (f : B64 → B64 → B64) (K : Tn × Tn) (bit : B64) : Nat → (Tn × Tn) × B64
  | 0 => (K, 18446744073709551615#64)
  | k + 1 => wayS f K bit (stN f K bit k) (wx bit k) (wy bit k)
theorem stN_four (f : B64 → B64 → B64) (K : Tn × Tn) (bit : B64) : (stN f K bit 4).1 = stepS f K bit := rfl
structure LeI (w : World) (q : Nat) (D : FuncId) (K : Tn × Tn) (st : Tn × Tn) (wr : World) : Prop where
  kc : PC wr w.heap.size K
  bc : PC wr (w.heap.size + 2) st
  rc : PC wr (w.heap.size + 1) (t0, t0)
  fc : FC wr q D
  bel : Below w.heap.size w wr
theorem LeI.next {w : World} {q : Nat} {D : FuncId} {K st : Tn × Tn} {wr w' : World} (h : LeI w q D K st wr) (hb : Below wr.heap.size wr w') : LeI w q D K st w' :=
  ⟨h.kc.below hb, h.bc.below hb, h.rc.below hb, h.fc.below hb, h.bel.trans (hb.mono h.bel.size)⟩
theorem LeI.put {w : World} {q : Nat} {D : FuncId} {K st : Tn × Tn} {wr : World} (h : LeI w q D K st wr) (hq : q < w.heap.size) (U : Tn × Tn) : LeI w q D K U (put4 wr (w.heap.size + 2) U) :=
  ⟨h.kc.other (by omega) U, h.bc.put U, h.rc.other (by omega) U, h.fc.other (by omega) U, put4_below U h.bel (by omega)⟩
/-- A way's cells. -/
def WC (w : World) (b : Nat) (x y : B64) : Prop := b < w.heap.size ∧ w.cell? ⟨b, 0, none⟩ = some (.int .u64 (ub x)) ∧ w.cell? ⟨b, 1, none⟩ = some (.int .u64 (ub y))
theorem WC.below {w w' : World} {b : Nat} {x y : B64} (h : WC w b x y) (hb : Below w.heap.size w w') : WC w' b x y := ⟨Nat.lt_of_lt_of_le h.1 hb.size, (hb.cell h.1).trans h.2.1, (hb.cell h.1).trans h.2.2⟩
theorem WC.new {w : World} {x y : B64} {t : TypeId} {b : Nat} (hb : b = w.heap.size) : WC (w.alloc (.cells #[.int .u64 (ub x), .int .u64 (ub y)] t)) b x y := by
  subst hb
  refine ⟨by simp, ?_, ?_⟩ <;> simp
end Go.Proofs.Ytoanbjnhoggpjaa
