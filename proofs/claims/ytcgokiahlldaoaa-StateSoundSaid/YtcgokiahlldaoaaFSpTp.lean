/-
  Contracts of sums, products, quotients, rests, counts, as the landed code has them. Contracts of sum, product, rest, counts, as the landed code has them. Contracts of half and of the closure that chooses a way, as the landed code has them. The closure that chooses a way, as the landed code has it. Contracts of fromTop, least, bitwise, as the landed code has them. Contracts of bitwise and of the shifts with the sign, as the landed code has them. Contracts of the document's Top, Power, Drawn, One, and of the laws' pick. Contract of the document's One: an operation of two numbers. Contracts of the shifts with the sign, as the landed code has them. Contract of signed, as the landed code has it. Contracts of the operations of spans, as the landed code has them. Contracts of Alu, as the landed code has it. Contract of Alu, as the landed code has it. Plain: what an operation of spans holds; one number each.
-/
import Derived.Test.YtcgokiahlldaoaaFSpC
import Derived.Test.YtcgokiahlldaoaaFSpMo
import Derived.Laws.Externs
import Derived.Lib.Mul64
import Derived.Deep.RegionHeld3
import Derived.Deep.RegionLaw
namespace Go.Proofs.Ytcgokiahlldaoaa
set_option linter.unusedSimpArgs false
set_option linter.unusedVariables false
set_option maxRecDepth 100000
open Go.ChangeShapes Go.WideShapes Go.ChangeAt Go.RowKit

def szI (w : Bool) : Int := if w then 64 else 32
theorem szI_nat (w : Bool) : szI w = ((sizeW w : Nat) : Int) := by cases w <;> rfl
theorem sTop_any (c : Bool) (w : World) : Calls Try.prog 110 #[.int .i64 (szI c)] w fun e w' => e = .returned (.int .u64 (ub (topW c))) ∧ w' = w := by
  have h := sLow_any (sizeW c) w (sizeW_le c)
  rw [← szI_nat] at h
  rw [show topW c = 1#64 <<< sizeW c - 1#64 by cases c <;> rfl]
  exact h
theorem ub_m32 (x : B64) : bits .and .u64 (ub x) 4294967295 = ub (x &&& 4294967295#64) := by rw [← ub_and, show ub 4294967295#64 = 4294967295 by kernel_rfl]
attribute [go_sem] ub_m32
def hiB (x y : B64) : B64 := BitVec.ofNat 64 (x.toNat * y.toNat / 18446744073709551616)
theorem hiB_toNat (x y : B64) : (hiB x y).toNat = x.toNat * y.toNat / 18446744073709551616 := by
  unfold hiB
  rw [BitVec.toNat_ofNat, Nat.mod_eq_of_lt]
  have : x.toNat * y.toNat ≤ 18446744073709551615 * 18446744073709551615 := Nat.mul_le_mul (by have := x.isLt; omega) (by have := y.isLt; omega)
  omega
theorem hi_is (x y : B64) : x >>> 32 * y >>> 32 + (x >>> 32 * (y &&& 4294967295#64) + ((x &&& 4294967295#64) * (y &&& 4294967295#64)) >>> 32) >>> 32 +
      ((x >>> 32 * (y &&& 4294967295#64) + ((x &&& 4294967295#64) * (y &&& 4294967295#64)) >>> 32 &&& 4294967295#64) + (x &&& 4294967295#64) * y >>> 32) >>> 32 = hiB x y := by
  apply BitVec.eq_of_toNat_eq
  rw [hiB_toNat]
  have an : ∀ z : B64, (z &&& 4294967295#64).toNat = z.toNat % 4294967296 := fun z => and_top z false
  have sh : ∀ z : B64, (z >>> 32).toNat = z.toNat / 4294967296 := fun z => by rw [BitVec.toNat_ushiftRight, Nat.shiftRight_eq_div_pow]
  have ml : ∀ z u : B64, z.toNat * u.toNat < 18446744073709551616 → (z * u).toNat = z.toNat * u.toNat := fun z u h => by rw [BitVec.toNat_mul]; exact Nat.mod_eq_of_lt h
  obtain ⟨m1, m2, m3, m4⟩ := Lib.mul64_hi x.toNat y.toNat x.isLt y.isLt
  have hx := x.isLt
  have hy := y.isLt
  have b1 := Lib.half_mul_le (a := x.toNat / 4294967296) (b := y.toNat / 4294967296) (by omega) (by omega)
  have b2 := Lib.half_mul_le (a := x.toNat / 4294967296) (b := y.toNat % 4294967296) (by omega) (by omega)
  have b3 := Lib.half_mul_le (a := x.toNat % 4294967296) (b := y.toNat / 4294967296) (by omega) (by omega)
  have e1 : ((x &&& 4294967295#64) * (y &&& 4294967295#64)).toNat = (x.toNat % 4294967296) * (y.toNat % 4294967296) := by rw [ml _ _ (by rw [an, an]; exact m1), an, an]
  have e2 : (x >>> 32 * (y &&& 4294967295#64)).toNat = (x.toNat / 4294967296) * (y.toNat % 4294967296) := by rw [ml _ _ (by rw [an, sh]; omega), an, sh]
  have e3 : ((x &&& 4294967295#64) * y >>> 32).toNat = (x.toNat % 4294967296) * (y.toNat / 4294967296) := by rw [ml _ _ (by rw [an, sh]; omega), an, sh]
  have e4 : (x >>> 32 * y >>> 32).toNat = (x.toNat / 4294967296) * (y.toNat / 4294967296) := by rw [ml _ _ (by rw [sh, sh]; omega), sh, sh]
  rw [add64, add64, sh, sh, add64, e4, add64, sh, an, add64, sh, e1, e2, e3, ← m4]
  generalize (x.toNat / 4294967296) * (y.toNat / 4294967296) = a at *
  generalize (x.toNat / 4294967296) * (y.toNat % 4294967296) = b at *
  generalize (x.toNat % 4294967296) * (y.toNat / 4294967296) = c at *
  generalize (x.toNat % 4294967296) * (y.toNat % 4294967296) = d at *
  omega
end Go.Proofs.Ytcgokiahlldaoaa

namespace Go.Proofs.Ytcgokiahlldaoaa
set_option linter.unusedSimpArgs false
set_option linter.unusedVariables false
set_option maxRecDepth 100000
open Go.ChangeShapes Go.WideShapes Go.ChangeAt Go.RowKit

@[go_sem] theorem szI_wrap (c : Bool) : IntKind.u64.wrap (szI c) = ub (sizeB c) := by cases c <;> kernel_rfl
end Go.Proofs.Ytcgokiahlldaoaa

namespace Go.Proofs.Ytcgokiahlldaoaa
set_option linter.unusedSimpArgs false
set_option linter.unusedVariables false
set_option maxRecDepth 100000
open Go.ChangeShapes Go.WideShapes Go.ChangeAt Go.RowKit

@[go_sem] theorem ub_dbl (x : B64) : IntKind.u64.wrap (ub x * 2) = ub (x <<< 1) := by have h := ub_wshl x 1; rw [Int.pow_succ, Int.pow_zero, Int.one_mul] at h; exact h
/-- Two spans' cells, one behind the other. -/
def pv (K : Tn × Tn) : Value := .agg #[.int .u64 (ub K.1.1), .int .u64 (ub K.1.2), .int .u64 (ub K.2.1), .int .u64 (ub K.2.2)]
def PC (w : World) (b : Nat) (K : Tn × Tn) : Prop := b < w.heap.size ∧ w.cell? ⟨b, 0, none⟩ = some (.int .u64 (ub K.1.1)) ∧ w.cell? ⟨b, 1, none⟩ = some (.int .u64 (ub K.1.2)) ∧ w.cell? ⟨b, 2, none⟩ = some (.int .u64 (ub K.2.1)) ∧ w.cell? ⟨b, 3, none⟩ = some (.int .u64 (ub K.2.2)) ∧
  w.frozen? ⟨b, 0, none⟩ = false ∧ w.frozen? ⟨b, 1, none⟩ = false ∧ w.frozen? ⟨b, 2, none⟩ = false ∧ w.frozen? ⟨b, 3, none⟩ = false
theorem PC.below {w w' : World} {b : Nat} {K : Tn × Tn} (h : PC w b K) (hb : Below w.heap.size w w') : PC w' b K := by
  obtain ⟨h0, h1, h2, h3, h4, f1, f2, f3, f4⟩ := h
  exact ⟨Nat.lt_of_lt_of_le h0 hb.size, (hb.cell h0).trans h1, (hb.cell h0).trans h2, (hb.cell h0).trans h3, (hb.cell h0).trans h4,
    (hb.frozen (p := ⟨b, 0, none⟩) h0).trans f1, (hb.frozen (p := ⟨b, 1, none⟩) h0).trans f2, (hb.frozen (p := ⟨b, 2, none⟩) h0).trans f3, (hb.frozen (p := ⟨b, 3, none⟩) h0).trans f4⟩
theorem PC.new {w : World} {K : Tn × Tn} {t : TypeId} {b : Nat} (hb : b = w.heap.size) : PC (w.alloc (.cells #[.int .u64 (ub K.1.1), .int .u64 (ub K.1.2), .int .u64 (ub K.2.1), .int .u64 (ub K.2.2)] t)) b K := by
  subst hb
  refine ⟨by simp, ?_, ?_, ?_, ?_, ?_, ?_, ?_, ?_⟩ <;> simp
def put4 (w : World) (b : Nat) (K : Tn × Tn) : World := (((w.setCell ⟨b, 0, none⟩ (.int .u64 (ub K.1.1))).setCell ⟨b, 1, none⟩ (.int .u64 (ub K.1.2))).setCell ⟨b, 2, none⟩ (.int .u64 (ub K.2.1))).setCell ⟨b, 3, none⟩ (.int .u64 (ub K.2.2))
theorem put4_heap (w : World) (b : Nat) (K : Tn × Tn) {b' : Nat} (h : b' ≠ b) : (put4 w b K).heap[b']? = w.heap[b']? :=
  (((Below.heap_setCell _ _ _ _ h).trans (Below.heap_setCell _ _ _ _ h)).trans (Below.heap_setCell _ _ _ _ h)).trans (Below.heap_setCell _ _ _ _ h)
theorem put4_below {n : Nat} {w w1 : World} {b : Nat} (K : Tn × Tn) (h : Below n w w1) (hb : n ≤ b) : Below n w (put4 w1 b K) :=
  (((h.setCell (p := ⟨b, 0, none⟩) hb _).setCell (p := ⟨b, 1, none⟩) hb _).setCell (p := ⟨b, 2, none⟩) hb _).setCell (p := ⟨b, 3, none⟩) hb _
theorem put4_size (w : World) (b : Nat) (K : Tn × Tn) : (put4 w b K).heap.size = w.heap.size := by unfold put4; simp
theorem PC.put {w : World} {b : Nat} {K : Tn × Tn} (h : PC w b K) (U : Tn × Tn) : PC (put4 w b U) b U := by
  obtain ⟨h0, h1, h2, h3, h4, f1, f2, f3, f4⟩ := h
  have o : ∀ (w : World) (i j : Nat) (v : Value), i ≠ j → (w.setCell ⟨b, j, none⟩ v).cell? ⟨b, i, none⟩ = w.cell? ⟨b, i, none⟩ := fun w i j v hij => World.cell?_setCell_other _ _ _ _ (fun h => hij (congrArg Addr.off h).symm)
  unfold put4
  refine ⟨by simp; exact h0, ?_, ?_, ?_, ?_, by simp; exact f1, by simp; exact f2, by simp; exact f3, by simp; exact f4⟩
  · rw [o _ 0 3 _ (by decide), o _ 0 2 _ (by decide), o _ 0 1 _ (by decide)]; exact World.cell?_setCell_same _ _ _ h1
  · rw [o _ 1 3 _ (by decide), o _ 1 2 _ (by decide)]; exact World.cell?_setCell_same _ _ _ ((o _ 1 0 _ (by decide)).trans h2)
  · rw [o _ 2 3 _ (by decide)]; exact World.cell?_setCell_same _ _ _ ((o _ 2 1 _ (by decide)).trans ((o _ 2 0 _ (by decide)).trans h3))
  · exact World.cell?_setCell_same _ _ _ ((o _ 3 2 _ (by decide)).trans ((o _ 3 1 _ (by decide)).trans ((o _ 3 0 _ (by decide)).trans h4)))
theorem PC.other {w : World} {b c : Nat} {K : Tn × Tn} (h : PC w b K) (hbc : b ≠ c) (U : Tn × Tn) : PC (put4 w c U) b K := by
  obtain ⟨h0, h1, h2, h3, h4, f1, f2, f3, f4⟩ := h
  have e := put4_heap w c U hbc
  exact ⟨by rw [put4_size]; exact h0, (World.cell?_of_block (w := w) (a := ⟨b, 0, none⟩) e).trans h1, (World.cell?_of_block (w := w) (a := ⟨b, 1, none⟩) e).trans h2, (World.cell?_of_block (w := w) (a := ⟨b, 2, none⟩) e).trans h3, (World.cell?_of_block (w := w) (a := ⟨b, 3, none⟩) e).trans h4,
    (World.frozen?_of_block (w := w) (a := ⟨b, 0, none⟩) e).trans f1, (World.frozen?_of_block (w := w) (a := ⟨b, 1, none⟩) e).trans f2, (World.frozen?_of_block (w := w) (a := ⟨b, 2, none⟩) e).trans f3, (World.frozen?_of_block (w := w) (a := ⟨b, 3, none⟩) e).trans f4⟩
/-- One cell that holds a function. -/
def FC (w : World) (q : Nat) (D : FuncId) : Prop := q < w.heap.size ∧ w.cell? ⟨q, 0, none⟩ = some (.func (.func D) #[] #[])
theorem FC.below {w w' : World} {q : Nat} {D : FuncId} (h : FC w q D) (hb : Below w.heap.size w w') : FC w' q D := ⟨Nat.lt_of_lt_of_le h.1 hb.size, (hb.cell h.1).trans h.2⟩
theorem FC.other {w : World} {q c : Nat} {D : FuncId} (h : FC w q D) (hqc : q ≠ c) (U : Tn × Tn) : FC (put4 w c U) q D :=
  ⟨by rw [put4_size]; exact h.1, (World.cell?_of_block (w := w) (a := ⟨q, 0, none⟩) (put4_heap w c U hqc)).trans h.2⟩
def wx (bit : B64) (k : Nat) : B64 := if k < 2 then bit else 0#64
def wy (bit : B64) (k : Nat) : B64 := if k = 0 ∨ k = 2 then bit else 0#64
def stN (f : B64 → B64 → B64) (K : Tn × Tn) (bit : B64) : Nat → (Tn × Tn) × B64
  | 0 => (K, 18446744073709551615#64)
  | k + 1 => wayS f K bit (stN f K bit k) (wx bit k) (wy bit k)
theorem stN_four (f : B64 → B64 → B64) (K : Tn × Tn) (bit : B64) : (stN f K bit 4).1 = stepS f K bit := rfl
structure LeI (w : World) (q : Nat) (D : FuncId) (K : Tn × Tn) (st : Tn × Tn) (wr : World) : Prop where
  kc : PC wr w.heap.size K
  bc : PC wr (w.heap.size + 2) st
  rc : PC wr (w.heap.size + 1) (t0, t0)
  fc : FC wr q D
  bel : Below w.heap.size w wr
theorem LeI.next {w : World} {q : Nat} {D : FuncId} {K st : Tn × Tn} {wr w' : World} (h : LeI w q D K st wr) (hb : Below wr.heap.size wr w') : LeI w q D K st w' :=
  ⟨h.kc.below hb, h.bc.below hb, h.rc.below hb, h.fc.below hb, h.bel.trans (hb.mono h.bel.size)⟩
theorem LeI.put {w : World} {q : Nat} {D : FuncId} {K st : Tn × Tn} {wr : World} (h : LeI w q D K st wr) (hq : q < w.heap.size) (U : Tn × Tn) : LeI w q D K U (put4 wr (w.heap.size + 2) U) :=
  ⟨h.kc.other (by omega) U, h.bc.put U, h.rc.other (by omega) U, h.fc.other (by omega) U, put4_below U h.bel (by omega)⟩
/-- A way's cells. -/
def WC (w : World) (b : Nat) (x y : B64) : Prop := b < w.heap.size ∧ w.cell? ⟨b, 0, none⟩ = some (.int .u64 (ub x)) ∧ w.cell? ⟨b, 1, none⟩ = some (.int .u64 (ub y))
theorem WC.below {w w' : World} {b : Nat} {x y : B64} (h : WC w b x y) (hb : Below w.heap.size w w') : WC w' b x y := ⟨Nat.lt_of_lt_of_le h.1 hb.size, (hb.cell h.1).trans h.2.1, (hb.cell h.1).trans h.2.2⟩
theorem WC.new {w : World} {x y : B64} {t : TypeId} {b : Nat} (hb : b = w.heap.size) : WC (w.alloc (.cells #[.int .u64 (ub x), .int .u64 (ub y)] t)) b x y := by
  subst hb
  refine ⟨by simp, ?_, ?_⟩ <;> simp
end Go.Proofs.Ytcgokiahlldaoaa

namespace Go.Proofs.Ytcgokiahlldaoaa
set_option linter.unusedSimpArgs false
set_option linter.unusedVariables false
set_option maxRecDepth 100000
open Go.ChangeShapes Go.WideShapes Go.ChangeAt Go.RowKit

end Go.Proofs.Ytcgokiahlldaoaa

namespace Go.Proofs.Ytcgokiahlldaoaa
set_option linter.unusedSimpArgs false
set_option linter.unusedVariables false
set_option maxRecDepth 100000
open Go.ChangeShapes Go.WideShapes Go.ChangeAt Go.RowKit

theorem bitAt_lt (j : Nat) (h : j < 64) : (bitAt j == 0#64) = false ∧ (ub (bitAt (j + 1))).toNat < (ub (bitAt j)).toNat ∧ bitAt (j + 1) = bitAt j >>> 1 := by
  have e := toNat_bit (63 - j) (by omega)
  rw [← bitAt_eq j h] at e
  have hp := Nat.two_pow_pos (63 - j)
  have e3 : bitAt (j + 1) = bitAt j >>> 1 := by unfold bitAt; rw [BitVec.shiftRight_add]
  refine ⟨by rw [beq_eq_false_iff_ne]; intro h0; rw [h0] at e; simp at e; omega, ?_, e3⟩
  rw [e3, ub_nat, ub_nat, BitVec.toNat_ushiftRight, Nat.shiftRight_eq_div_pow]
  omega
structure TpI (w : World) (q : Nat) (D : FuncId) (K : Tn × Tn) (wr : World) : Prop where
  kc : PC wr w.heap.size K
  rc : PC wr (w.heap.size + 1) (t0, t0)
  fc : FC wr q D
  bel : Below w.heap.size w wr
theorem TpI.next {w : World} {q : Nat} {D : FuncId} {K : Tn × Tn} {wr w' : World} (h : TpI w q D K wr) (hb : Below wr.heap.size wr w') : TpI w q D K w' :=
  ⟨h.kc.below hb, h.rc.below hb, h.fc.below hb, h.bel.trans (hb.mono h.bel.size)⟩
theorem TpI.put {w : World} {q : Nat} {D : FuncId} {K : Tn × Tn} {wr : World} (h : TpI w q D K wr) (hq : q < w.heap.size) (U : Tn × Tn) : TpI w q D U (put4 wr w.heap.size U) :=
  ⟨h.kc.put U, h.rc.other (by omega) U, h.fc.other (by omega) U, put4_below U h.bel (Nat.le_refl _)⟩
theorem FC.new {w : World} {D : FuncId} {t : TypeId} {b : Nat} (hb : b = w.heap.size) : FC (w.alloc (.cells #[.func (.func D) #[] #[]] t)) b D := by
  subst hb
  exact ⟨by simp, by simp⟩
end Go.Proofs.Ytcgokiahlldaoaa

namespace Go.Proofs.Ytcgokiahlldaoaa
set_option linter.unusedSimpArgs false
set_option linter.unusedVariables false
set_option maxRecDepth 100000
open Go.ChangeShapes Go.WideShapes Go.ChangeAt Go.RowKit

/-- A span's cells in a block of the call's own. -/
structure BC (w : World) (b : Nat) (t : Tn) : Prop where
  lt : b < w.heap.size
  c0 : w.cell? ⟨b, 0, none⟩ = some (.int .u64 (ub t.1))
  c1 : w.cell? ⟨b, 1, none⟩ = some (.int .u64 (ub t.2))
  f0 : w.frozen? ⟨b, 0, none⟩ = false
  f1 : w.frozen? ⟨b, 1, none⟩ = false
theorem BC.below {w w' : World} {b : Nat} {t : Tn} (h : BC w b t) (hb : Below w.heap.size w w') : BC w' b t :=
  ⟨Nat.lt_of_lt_of_le h.lt hb.size, (hb.cell h.lt).trans h.c0, (hb.cell h.lt).trans h.c1, (hb.frozen (p := ⟨b, 0, none⟩) h.lt).trans h.f0, (hb.frozen (p := ⟨b, 1, none⟩) h.lt).trans h.f1⟩
theorem BC.new {w : World} {a : Tn} {t : TypeId} {b : Nat} (hb : b = w.heap.size) : BC (w.alloc (.cells #[.int .u64 (ub a.1), .int .u64 (ub a.2)] t)) b a := by
  subst hb
  exact ⟨by simp, by simp, by simp, by simp, by simp⟩
def put2 (w : World) (b : Nat) (u : Tn) : World := (w.setCell ⟨b, 0, none⟩ (.int .u64 (ub u.1))).setCell ⟨b, 1, none⟩ (.int .u64 (ub u.2))
theorem put2_heap (w : World) (b : Nat) (u : Tn) {b' : Nat} (h : b' ≠ b) : (put2 w b u).heap[b']? = w.heap[b']? := (Below.heap_setCell _ _ _ _ h).trans (Below.heap_setCell _ _ _ _ h)
theorem put2_below {n : Nat} {w w1 : World} {b : Nat} (u : Tn) (h : Below n w w1) (hb : n ≤ b) : Below n w (put2 w1 b u) := (h.setCell (p := ⟨b, 0, none⟩) hb _).setCell (p := ⟨b, 1, none⟩) hb _
theorem put2_size (w : World) (b : Nat) (u : Tn) : (put2 w b u).heap.size = w.heap.size := by unfold put2; simp
theorem BC.put {w : World} {b : Nat} {t : Tn} (h : BC w b t) (u : Tn) : BC (put2 w b u) b u := by
  unfold put2
  refine ⟨by simp; exact h.lt, ?_, ?_, by simp; exact h.f0, by simp; exact h.f1⟩
  · exact (World.cell?_setCell_other _ _ _ _ (by simp)).trans (World.cell?_setCell_same _ _ _ h.c0)
  · exact World.cell?_setCell_same _ _ _ ((World.cell?_setCell_other _ _ _ _ (by simp)).trans h.c1)
theorem BC.other {w : World} {b c : Nat} {t : Tn} (h : BC w b t) (hbc : b ≠ c) (u : Tn) : BC (put2 w c u) b t := by
  have e := put2_heap w c u hbc
  exact ⟨by rw [put2_size]; exact h.lt, (World.cell?_of_block (w := w) (a := ⟨b, 0, none⟩) e).trans h.c0, (World.cell?_of_block (w := w) (a := ⟨b, 1, none⟩) e).trans h.c1,
    (World.frozen?_of_block (w := w) (a := ⟨b, 0, none⟩) e).trans h.f0, (World.frozen?_of_block (w := w) (a := ⟨b, 1, none⟩) e).trans h.f1⟩
/-- The boxes of two spans, and of a result. -/
structure RI (w : World) (a b : Tn) (w' : World) : Prop where
  ca : BC w' w.heap.size a
  cb : BC w' (w.heap.size + 1) b
  rc : BC w' (w.heap.size + 1 + 1) t0
  bel : Below w.heap.size w w'
theorem RI.next {w : World} {a b : Tn} {w' w2 : World} (h : RI w a b w') (hb : Below w'.heap.size w' w2) : RI w a b w2 :=
  ⟨h.ca.below hb, h.cb.below hb, h.rc.below hb, h.bel.trans (hb.mono h.bel.size)⟩
theorem RI.putb {w : World} {a b : Tn} {w' : World} (h : RI w a b w') (u : Tn) : RI w a u (put2 w' (w.heap.size + 1) u) :=
  ⟨h.ca.other (by omega) u, h.cb.put u, h.rc.other (by omega) u, put2_below u h.bel (by omega)⟩
theorem RI.puta {w : World} {a b : Tn} {w' : World} (h : RI w a b w') (u : Tn) : RI w u b (put2 w' w.heap.size u) :=
  ⟨h.ca.put u, h.cb.other (by omega) u, h.rc.other (by omega) u, put2_below u h.bel (by omega)⟩
theorem RI.start (w : World) (a b : Tn) (t t' t'' : TypeId) : RI w a b (((w.alloc (.cells #[.int .u64 (ub a.1), .int .u64 (ub a.2)] t)).alloc (.cells #[.int .u64 (ub b.1), .int .u64 (ub b.2)] t')).alloc (.cells #[.int .u64 0, .int .u64 0] t'')) := by
  have e1 := BC.new (w := w) (a := a) (t := t) rfl
  have s1 : (w.alloc (.cells #[.int .u64 (ub a.1), .int .u64 (ub a.2)] t)).heap.size = w.heap.size + 1 := by simp
  have b1 : Below w.heap.size w (w.alloc (.cells #[.int .u64 (ub a.1), .int .u64 (ub a.2)] t)) := (Below.refl _ _).alloc (Nat.le_refl _) _
  generalize w.alloc (.cells #[.int .u64 (ub a.1), .int .u64 (ub a.2)] t) = u1 at *
  have e2 := BC.new (w := u1) (a := b) (t := t') s1.symm
  have b2 : Below u1.heap.size u1 (u1.alloc (.cells #[.int .u64 (ub b.1), .int .u64 (ub b.2)] t')) := (Below.refl _ _).alloc (Nat.le_refl _) _
  have s2 : (u1.alloc (.cells #[.int .u64 (ub b.1), .int .u64 (ub b.2)] t')).heap.size = w.heap.size + 1 + 1 := by simp; omega
  generalize u1.alloc (.cells #[.int .u64 (ub b.1), .int .u64 (ub b.2)] t') = u2 at *
  have e3 : BC (u2.alloc (.cells #[.int .u64 0, .int .u64 0] t'')) (w.heap.size + 1 + 1) t0 := BC.new (w := u2) (a := t0) (t := t'') s2.symm
  have b3 : Below u2.heap.size u2 (u2.alloc (.cells #[.int .u64 0, .int .u64 0] t'')) := (Below.refl _ _).alloc (Nat.le_refl _) _
  exact ⟨(e1.below b2).below b3, e2.below b3, e3, (b1.trans (b2.mono b1.size)).trans (b3.mono (by omega))⟩
/-- A block that takes a result. -/
structure RsI (w : World) (r : Nat) (w' : World) : Prop where
  lt : r < w'.heap.size
  c0 : ∃ c, w'.cell? ⟨r, 0, none⟩ = some c
  c1 : ∃ c, w'.cell? ⟨r, 1, none⟩ = some c
  f0 : w'.frozen? ⟨r, 0, none⟩ = false
  f1 : w'.frozen? ⟨r, 1, none⟩ = false
  le : w.heap.size ≤ r
  bel : Below w.heap.size w w'
theorem RsI.next {w : World} {r : Nat} {w' w2 : World} (h : RsI w r w') (hb : Below w'.heap.size w' w2) : RsI w r w2 := by
  obtain ⟨h0, ⟨c0, h1⟩, ⟨c1, h2⟩, h3, h4, h6, h5⟩ := h
  exact ⟨Nat.lt_of_lt_of_le h0 hb.size, ⟨c0, (hb.cell h0).trans h1⟩, ⟨c1, (hb.cell h0).trans h2⟩, (hb.frozen (p := ⟨r, 0, none⟩) h0).trans h3, (hb.frozen (p := ⟨r, 1, none⟩) h0).trans h4, h6, h5.trans (hb.mono h5.size)⟩
theorem RsI.put {w : World} {r : Nat} {w' : World} (h : RsI w r w') (u v : Int) : RsI w r ((w'.setCell ⟨r, 0, none⟩ (.int .u64 u)).setCell ⟨r, 1, none⟩ (.int .u64 v)) := by
  obtain ⟨h0, ⟨c0, h1⟩, ⟨c1, h2⟩, h3, h4, h6, h5⟩ := h
  refine ⟨by simp; exact h0, ⟨.int .u64 u, ?_⟩, ⟨.int .u64 v, ?_⟩, by simp; exact h3, by simp; exact h4, h6, (h5.setCell (p := ⟨r, 0, none⟩) h6 _).setCell (p := ⟨r, 1, none⟩) h6 _⟩
  · exact (World.cell?_setCell_other _ _ _ _ (by simp)).trans (World.cell?_setCell_same _ _ _ h1)
  · exact World.cell?_setCell_same _ _ _ ((World.cell?_setCell_other _ _ _ _ (by simp)).trans h2)
theorem RI.res {w : World} {a b : Tn} {w' : World} (h : RI w a b w') : RsI w (w.heap.size + 1 + 1) w' := ⟨h.rc.lt, ⟨_, h.rc.c0⟩, ⟨_, h.rc.c1⟩, h.rc.f0, h.rc.f1, by omega, h.bel⟩
theorem cs3 {w : World} {p : Addr} {q : Nat} {u u' c : Value} (h : w.cell? p = some c) (hq : p.block ≠ q) : ((w.setCell ⟨q, 0, none⟩ u).setCell ⟨q, 1, none⟩ u').cell? p = some c :=
  (World.cell?_of_block (w := w) (a := p) ((Below.heap_setCell _ _ _ _ hq).trans (Below.heap_setCell _ _ _ _ hq))).trans h
end Go.Proofs.Ytcgokiahlldaoaa

namespace Go.Proofs.Ytcgokiahlldaoaa
set_option linter.unusedSimpArgs false
set_option linter.unusedVariables false
set_option maxRecDepth 100000
open Go.ChangeShapes Go.WideShapes Go.ChangeAt Go.RowKit

@[go_sem] theorem ub_2mul (x : B64) : IntKind.u64.wrap (2 * ub x) = ub (2#64 * x) := ub_wmul 2#64 x
@[go_sem] theorem ub_succ (x : B64) : IntKind.u64.wrap (ub x + 1) = ub (x + 1#64) := ub_wadd x 1#64
@[go_sem] theorem ub_tdiv2 (x : B64) : IntKind.u64.wrap ((ub x).tdiv 2) = ub (x / 2#64) := ub_tdiv x 2#64
@[go_sem] theorem ub_tmod64 (x : B64) : IntKind.u64.wrap ((ub x).tmod 64) = ub (x % 64#64) := ub_tmod x 64#64
@[go_sem] theorem ub_tmod32 (x : B64) : IntKind.u64.wrap ((ub x).tmod 32) = ub (x % 32#64) := ub_tmod x 32#64
@[go_sem] theorem ub_negO (x : B64) : IntKind.u64.wrap (-(ub x)) = ub (0#64 - x) := by
  have h := ub_wsub 0#64 x
  rw [show ub 0#64 = 0 from rfl, Int.zero_sub] at h
  exact h
theorem tmod_is (x y : B64) : (ub x).tmod (ub y) = ub (x % y) := by
  rw [Int.tmod_eq_emod_of_nonneg (ub_ge x)]; unfold ub; rw [BitVec.toNat_umod]; exact (Int.natCast_emod _ _).symm
@[go_sem] theorem ub_sub0 (x : B64) : IntKind.u64.wrap (0 - ub x) = ub (0#64 - x) := ub_wsub 0#64 x
theorem low_step (i : Nat) (h : i < 64) : 2#64 * (1#64 <<< i - 1#64) + 1#64 = 1#64 <<< (i + 1) - 1#64 := by
  apply BitVec.eq_of_toNat_eq
  rw [add64, BitVec.toNat_mul, toNat_low i (by omega), toNat_low (i + 1) (by omega), Nat.pow_succ, show (2#64 : B64).toNat = 2 from rfl, show (1#64 : B64).toNat = 1 from rfl]
  have h1 : 2 ^ i ≤ 2 ^ 63 := Nat.pow_le_pow_right (by decide) (by omega)
  have h2 := Nat.two_pow_pos i
  omega
theorem pow_step (i : Nat) : 2#64 * (1#64 <<< i) = 1#64 <<< (i + 1) := by
  apply BitVec.eq_of_toNat_eq
  rw [BitVec.toNat_mul, BitVec.toNat_shiftLeft, BitVec.toNat_shiftLeft, Nat.shiftLeft_eq, Nat.shiftLeft_eq, show (2#64 : B64).toNat = 2 from rfl, show (1#64 : B64).toNat = 1 from rfl, Nat.pow_succ]
  omega
def drB (p x : B64) : Nat → B64
  | 0 => x
  | k + 1 => drB p x k / 2#64 + (drB p x k &&& p)
theorem max64 : (18446744073709551615 : Int) = ub 18446744073709551615#64 := by kernel_rfl
@[go_sem] theorem ub_eqmax (x : B64) : (ub x == 18446744073709551615) = (x == 18446744073709551615#64) := by rw [max64, ub_eqi]
def pickB (s : Tn) (n : B64) : B64 := if s.2 - s.1 = 18446744073709551615#64 then n else s.1 + n % (s.2 - s.1 + 1#64)
theorem pick_lies (s : Tn) (n : B64) (h : s.1.toNat ≤ s.2.toNat) : Lies s (pickB s n).toNat := by
  have hw := width s h
  unfold pickB Lies
  by_cases e : s.2 - s.1 = 18446744073709551615#64
  · rw [if_pos e]
    rw [e] at hw
    have : (18446744073709551615#64 : B64).toNat = 18446744073709551615 := rfl
    have := n.isLt
    have := s.2.isLt
    omega
  · rw [if_neg e]
    have e' : (s.2 - s.1).toNat ≠ 18446744073709551615 := fun h => e (BitVec.eq_of_toNat_eq h)
    have e1 : (s.2 - s.1 + 1#64).toNat = s.2.toNat - s.1.toNat + 1 := by
      rw [add64, hw, show (1#64 : B64).toNat = 1 from rfl]; have := s.2.isLt; omega
    rw [add64, BitVec.toNat_umod, e1]
    have := Nat.mod_lt n.toNat (show 0 < s.2.toNat - s.1.toNat + 1 by omega)
    have := s.2.isLt
    omega
end Go.Proofs.Ytcgokiahlldaoaa

namespace Go.Proofs.Ytcgokiahlldaoaa
set_option linter.unusedSimpArgs false
set_option linter.unusedVariables false
set_option maxRecDepth 100000
open Go.ChangeShapes Go.WideShapes Go.ChangeAt Go.RowKit

theorem ib_small (x : B64) (h : x.toNat < 9223372036854775808) : ib x = ((x.toNat : Nat) : Int) := by
  unfold ib
  rw [BitVec.toInt_eq_toNat_cond]
  split <;> omega
def shB (c : Bool) (y : B64) : Nat := (y % sizeB c).toNat
theorem shB_lt (c : Bool) (y : B64) : shB c y < sizeW c := by
  unfold shB
  rw [BitVec.toNat_umod]
  cases c
  · exact Nat.mod_lt _ (by decide)
  · exact Nat.mod_lt _ (by decide)
/-- An operation of two numbers that are cut. -/
def oneC (op : Nat) (c : Bool) (x y : B64) : B64 :=
  match op with
  | 0 => (x + y) &&& topW c
  | 1 => (x - y) &&& topW c
  | 2 => (x * y) &&& topW c
  | 3 => if y = 0#64 then 0#64 else x / y
  | 4 => x ||| y
  | 5 => x &&& y
  | 6 => (x * (1#64 <<< shB c y)) &&& topW c
  | 7 => x / (1#64 <<< shB c y)
  | 8 => (0#64 - x) &&& topW c
  | 9 => if y = 0#64 then x else x % y
  | 10 => x ^^^ y
  | 11 => y
  | _ => drB (1#64 <<< (sizeW c - 1)) x (shB c y)
def oneB (op : Nat) (c : Bool) (x y : B64) : B64 := oneC op c (x &&& topW c) (y &&& topW c)
theorem sh_pow (c : Bool) (y : B64) : (1#64 <<< shB c y).toNat = 2 ^ (y.toNat % sizeW c) := by
  have h := shB_lt c y
  have := sizeW_le c
  rw [toNat_bit _ (by omega)]
  congr 1
  unfold shB
  rw [BitVec.toNat_umod]; cases c <;> rfl
theorem mul_mod (w : Bool) (x y : B64) : (x * y &&& topW w).toNat = x.toNat * y.toNat % modW w := by
  rw [and_top, BitVec.toNat_mul]
  rcases modW_two w with h | h <;> rw [h] <;> omega
theorem and_pow (y n : Nat) : y &&& 2 ^ n = if y.testBit n = true then 2 ^ n else 0 := by
  apply Nat.eq_of_testBit_eq
  intro i
  rw [Nat.testBit_and, Nat.testBit_two_pow]
  by_cases h : n = i
  · subst h
    cases hb : y.testBit n <;> simp
  · cases hb : y.testBit n <;> simp [h, Nat.testBit_two_pow]
theorem drB_is (c : Bool) (x : B64) (hx : x.toNat < modW c) (k : Nat) : (drB (1#64 <<< (sizeW c - 1)) x k).toNat = drawN c x.toNat k := by
  have hp : (1#64 <<< (sizeW c - 1)).toNat = 2 ^ (sizeW c - 1) := by
    have h1 := sizeW_le c
    have h2 : 0 < sizeW c := by cases c <;> decide
    exact toNat_bit _ (by omega)
  have hM : modW c / 2 = 2 ^ (sizeW c - 1) ∧ modW c = 2 * 2 ^ (sizeW c - 1) := by cases c <;> decide
  have hle := modW_le c
  have an : ∀ y : B64, y.toNat < modW c → (y &&& 1#64 <<< (sizeW c - 1)).toNat = if y.toNat < modW c / 2 then 0 else modW c / 2 := by
    intro y hy
    rw [BitVec.toNat_and, hp, and_pow]
    by_cases h : y.toNat < modW c / 2
    · rw [if_pos h, Nat.testBit_lt_two_pow (by omega)]; simp
    · rw [if_neg h]
      have : y.toNat.testBit (sizeW c - 1) = true := by
        rw [Nat.testBit_eq_decide_div_mod_eq]
        have : y.toNat / 2 ^ (sizeW c - 1) = 1 := by
          rw [Nat.div_eq_iff (Nat.two_pow_pos _)]
          omega
        rw [this]; rfl
      rw [this, hM.1]; simp
  have bd : ∀ k, drawN c x.toNat k < modW c ∧ (x.toNat < modW c / 2 ↔ drawN c x.toNat k < modW c / 2) := by
    intro k
    unfold drawN
    have d1 := Nat.div_le_self x.toNat (2 ^ k)
    have d2 := Nat.div_le_self (modW c - 1 - x.toNat) (2 ^ k)
    generalize x.toNat / 2 ^ k = p at *
    generalize (modW c - 1 - x.toNat) / 2 ^ k = q at *
    split <;> omega
  induction k with
  | zero =>
    show x.toNat = _
    unfold drawN
    simp only [Nat.pow_zero, Nat.div_one]
    split <;> omega
  | succ k ih =>
    have b := bd k
    show (drB (1#64 <<< (sizeW c - 1)) x k / 2#64 + (drB (1#64 <<< (sizeW c - 1)) x k &&& 1#64 <<< (sizeW c - 1))).toNat = _
    rw [add64, BitVec.toNat_udiv, an _ (by rw [ih]; exact b.1), ih, show (2#64 : B64).toNat = 2 from rfl]
    by_cases h : x.toNat < modW c / 2
    · rw [if_pos (b.2.1 h)]
      have e1 : drawN c x.toNat k = x.toNat / 2 ^ k := if_pos h
      have e2 : drawN c x.toNat (k + 1) = x.toNat / 2 ^ k / 2 := by
        rw [Nat.div_div_eq_div_mul, ← Nat.pow_succ]; exact if_pos h
      rw [e2, e1]
      have := b.1
      omega
    · rw [if_neg (fun hh => h (b.2.2 hh))]
      have e1 : drawN c x.toNat k = modW c - 1 - (modW c - 1 - x.toNat) / 2 ^ k := if_neg h
      have e2 : drawN c x.toNat (k + 1) = modW c - 1 - (modW c - 1 - x.toNat) / 2 ^ k / 2 := by
        rw [Nat.div_div_eq_div_mul, ← Nat.pow_succ]; exact if_neg h
      have d2 := Nat.div_le_self (modW c - 1 - x.toNat) (2 ^ k)
      rw [e2, e1]
      generalize (modW c - 1 - x.toNat) / 2 ^ k = q at *
      omega
theorem oneB_is (op : Nat) (hop : op ≤ 12) (c : Bool) (X Y : B64) : (oneB op c X Y).toNat = opN op c (X.toNat % modW c) (Y.toNat % modW c) := by
  have hp := modW_pos c
  have hx : (X &&& topW c).toNat = X.toNat % modW c := and_top X c
  have hy : (Y &&& topW c).toNat = Y.toNat % modW c := and_top Y c
  unfold oneB
  generalize X &&& topW c = x at *
  generalize Y &&& topW c = y at *
  have lx : x.toNat < modW c := by rw [hx]; exact Nat.mod_lt _ hp
  have ly : y.toNat < modW c := by rw [hy]; exact Nat.mod_lt _ hp
  rw [← hx, ← hy]
  clear hx hy
  have hw := modW_two c
  rcases twelve hop with rfl | rfl | rfl | rfl | rfl | rfl | rfl | rfl | rfl | rfl | rfl | rfl | rfl
  · show ((x + y) &&& topW c).toNat = (x.toNat + y.toNat) % modW c
    rw [and_top, add64]; rcases hw with h | h <;> rw [h] <;> omega
  · show ((x - y) &&& topW c).toNat = (x.toNat + modW c - y.toNat) % modW c
    rw [and_top, sub64]
    generalize modW c = M at *
    rcases hw with rfl | rfl <;> omega
  · exact mul_mod c x y
  · show (if y = 0#64 then 0#64 else x / y).toNat = x.toNat / y.toNat
    by_cases h : y = 0#64
    · rw [if_pos h, h, show (0#64 : B64).toNat = 0 from rfl, Nat.div_zero]
    · rw [if_neg h, BitVec.toNat_udiv]
  · exact BitVec.toNat_or ..
  · exact BitVec.toNat_and ..
  · show (x * (1#64 <<< shB c y) &&& topW c).toNat = _
    rw [mul_mod, sh_pow]; rfl
  · show (x / (1#64 <<< shB c y)).toNat = _
    rw [BitVec.toNat_udiv, sh_pow]; rfl
  · show ((0#64 - x) &&& topW c).toNat = (modW c - x.toNat) % modW c
    rw [and_top, sub64, show (0#64 : B64).toNat = 0 from rfl]
    generalize modW c = M at *
    rcases hw with rfl | rfl <;> omega
  · show (if y = 0#64 then x else x % y).toNat = x.toNat % y.toNat
    by_cases h : y = 0#64
    · rw [if_pos h, h, show (0#64 : B64).toNat = 0 from rfl, Nat.mod_zero]
    · rw [if_neg h, BitVec.toNat_umod]
  · exact BitVec.toNat_xor ..
  · rfl
  · show (drB (1#64 <<< (sizeW c - 1)) x (shB c y)).toNat = drawN c x.toNat (y.toNat % sizeW c)
    rw [drB_is c x lx]
    congr 1
    unfold shB
    rw [BitVec.toNat_umod]; cases c <;> rfl
end Go.Proofs.Ytcgokiahlldaoaa

namespace Go.Proofs.Ytcgokiahlldaoaa
set_option linter.unusedSimpArgs false
set_option linter.unusedVariables false
set_option maxRecDepth 100000
open Go.ChangeShapes Go.WideShapes Go.ChangeAt Go.RowKit

attribute [go_sem] ib_of2
def drawU (u : Nat) (T n : B64) (below above : Nat) : B64 := if ((n <<< u).sshiftRight u).toInt < 0 then ((n <<< u).sshiftRight u).sshiftRight above &&& T else n >>> below
theorem drawU_is (c : Bool) (n : B64) (below above : Nat) : drawB c n below above = drawU (if c then 0 else 32) (topW c) n below above := by
  cases c
  · simp only [drawB, drawU, Bool.false_eq_true, if_false]
  · simp only [drawB, drawU, if_true, BitVec.shiftLeft_zero, BitVec.sshiftRight_zero]
end Go.Proofs.Ytcgokiahlldaoaa

namespace Go.Proofs.Ytcgokiahlldaoaa
set_option linter.unusedSimpArgs false
set_option linter.unusedVariables false
set_option maxRecDepth 100000
open Go.ChangeShapes Go.WideShapes Go.ChangeAt Go.RowKit

theorem cell1 {w : World} {u : Value} {t : TypeId} {b : Nat} (hb : b = w.heap.size) : (w.alloc (.cells #[u] t)).cell? ⟨b, 0, none⟩ = some u := by
  subst hb
  simp
theorem sg_start (w : World) (a b : Tn) (SZ UP : Int) (t1 t2 t3 t4 t5 : TypeId) :
    let W := ((((w.alloc (.cells #[.int .i64 SZ] t1)).alloc (.cells #[.int .u64 (ub a.1), .int .u64 (ub a.2)] t2)).alloc (.cells #[.int .u64 (ub b.1), .int .u64 (ub b.2)] t3)).alloc (.cells #[.int .u64 0, .int .u64 0] t4)).alloc (.cells #[.int .i64 UP] t5)
    W.cell? ⟨w.heap.size + 1, 0, none⟩ = some (.int .u64 (ub a.1)) ∧ W.cell? ⟨w.heap.size + 1, 1, none⟩ = some (.int .u64 (ub a.2)) ∧ W.cell? ⟨w.heap.size + 1 + 1, 0, none⟩ = some (.int .u64 (ub b.1)) ∧ W.cell? ⟨w.heap.size + 1 + 1, 1, none⟩ = some (.int .u64 (ub b.2)) ∧
      W.cell? ⟨w.heap.size + 1 + 1 + 1 + 1, 0, none⟩ = some (.int .i64 UP) ∧ W.cell? ⟨w.heap.size, 0, none⟩ = some (.int .i64 SZ) ∧ RsI w (w.heap.size + 1 + 1 + 1) W := by
  intro W
  have e1 := cell1 (w := w) (u := .int .i64 SZ) (t := t1) rfl
  have s1 : (w.alloc (.cells #[.int .i64 SZ] t1)).heap.size = w.heap.size + 1 := by simp
  have b1 : Below w.heap.size w (w.alloc (.cells #[.int .i64 SZ] t1)) := (Below.refl _ _).alloc (Nat.le_refl _) _
  have hW : W = ((((w.alloc (.cells #[.int .i64 SZ] t1)).alloc (.cells #[.int .u64 (ub a.1), .int .u64 (ub a.2)] t2)).alloc (.cells #[.int .u64 (ub b.1), .int .u64 (ub b.2)] t3)).alloc (.cells #[.int .u64 0, .int .u64 0] t4)).alloc (.cells #[.int .i64 UP] t5) := rfl
  clear_value W
  generalize w.alloc (.cells #[.int .i64 SZ] t1) = u1 at *
  have e2 := BC.new (w := u1) (a := a) (t := t2) s1.symm
  have b2 : Below u1.heap.size u1 (u1.alloc (.cells #[.int .u64 (ub a.1), .int .u64 (ub a.2)] t2)) := (Below.refl _ _).alloc (Nat.le_refl _) _
  have s2 : (u1.alloc (.cells #[.int .u64 (ub a.1), .int .u64 (ub a.2)] t2)).heap.size = w.heap.size + 1 + 1 := by simp; omega
  generalize u1.alloc (.cells #[.int .u64 (ub a.1), .int .u64 (ub a.2)] t2) = u2 at *
  have e3 := BC.new (w := u2) (a := b) (t := t3) s2.symm
  have b3 : Below u2.heap.size u2 (u2.alloc (.cells #[.int .u64 (ub b.1), .int .u64 (ub b.2)] t3)) := (Below.refl _ _).alloc (Nat.le_refl _) _
  have s3 : (u2.alloc (.cells #[.int .u64 (ub b.1), .int .u64 (ub b.2)] t3)).heap.size = w.heap.size + 1 + 1 + 1 := by simp; omega
  generalize u2.alloc (.cells #[.int .u64 (ub b.1), .int .u64 (ub b.2)] t3) = u3 at *
  have e4 : BC (u3.alloc (.cells #[.int .u64 0, .int .u64 0] t4)) (w.heap.size + 1 + 1 + 1) t0 := BC.new (w := u3) (a := t0) (t := t4) s3.symm
  have b4 : Below u3.heap.size u3 (u3.alloc (.cells #[.int .u64 0, .int .u64 0] t4)) := (Below.refl _ _).alloc (Nat.le_refl _) _
  have s4 : (u3.alloc (.cells #[.int .u64 0, .int .u64 0] t4)).heap.size = w.heap.size + 1 + 1 + 1 + 1 := by simp; omega
  generalize u3.alloc (.cells #[.int .u64 0, .int .u64 0] t4) = u4 at *
  have e5 := cell1 (w := u4) (u := .int .i64 UP) (t := t5) s4.symm
  have b5 : Below u4.heap.size u4 (u4.alloc (.cells #[.int .i64 UP] t5)) := (Below.refl _ _).alloc (Nat.le_refl _) _
  rw [← hW] at e5 b5
  have f2 := ((e2.below b3).below b4).below b5
  have f3 := (e3.below b4).below b5
  have f4 := e4.below b5
  exact ⟨f2.c0, f2.c1, f3.c0, f3.c1, e5, cn b5 (cn b4 (cn b3 (cn b2 e1))), f4.lt, ⟨_, f4.c0⟩, ⟨_, f4.c1⟩, f4.f0, f4.f1, by omega, (((b1.trans (b2.mono b1.size)).trans (b3.mono (by omega))).trans (b4.mono (by omega))).trans (b5.mono (by omega))⟩
end Go.Proofs.Ytcgokiahlldaoaa

namespace Go.Proofs.Ytcgokiahlldaoaa
set_option linter.unusedSimpArgs false
set_option linter.unusedVariables false
set_option maxRecDepth 100000
open Go.ChangeShapes Go.WideShapes Go.ChangeAt Go.RowKit

@[go_sem] theorem ub_neg (x : B64) : IntKind.u64.wrap (-(ub x)) = ub (0#64 - x) := by
  have h := ub_wsub 0#64 x
  rw [show ub 0#64 = 0 from rfl, Int.zero_sub] at h
  exact h
@[go_sem] theorem ub_neg1 (x : B64) : IntKind.u64.wrap (-1 * ub x) = ub (0#64 - x) := by rw [← ub_neg, Int.neg_one_mul]
end Go.Proofs.Ytcgokiahlldaoaa

namespace Go.Proofs.Ytcgokiahlldaoaa
set_option linter.unusedSimpArgs false
set_option linter.unusedVariables false
set_option maxRecDepth 100000
open Go.ChangeShapes Go.WideShapes Go.ChangeAt Go.RowKit

end Go.Proofs.Ytcgokiahlldaoaa

namespace Go.Proofs.Ytcgokiahlldaoaa
set_option linter.unusedSimpArgs false
set_option linter.unusedVariables false
set_option maxRecDepth 100000
open Go.ChangeShapes Go.WideShapes Go.ChangeAt Go.RowKit

theorem low_is (x : B64) (k : Nat) (hk : k ≤ 64) : (x &&& (1#64 <<< k - 1#64)).toNat = x.toNat % 2 ^ k := by
  rw [BitVec.toNat_and, toNat_low k hk]; exact Nat.and_two_pow_sub_one_eq_mod _ _
/-- What a span holds, cut to so many bits. -/
theorem cut_ok (s : Tn) (k : Nat) (hk : k ≤ 64) (h : s.1.toNat ≤ s.2.toNat) :
    (cutK s k).1.toNat ≤ (cutK s k).2.toNat ∧ (cutK s k).2.toNat < 2 ^ k ∧ ∀ x, Lies s x → Lies (cutK s k) (x % 2 ^ k) := by
  have hp := Nat.two_pow_pos k
  have hm : mayS s = true := decide_eq_true h
  unfold cutK
  rw [if_pos hm]
  by_cases e : s.1 &&& ~~~(1#64 <<< k - 1#64) = s.2 &&& ~~~(1#64 <<< k - 1#64)
  · rw [if_pos e]
    have e' := congrArg BitVec.toNat e
    rw [toNat_high _ _ hk, toNat_high _ _ hk] at e'
    have q : s.1.toNat / 2 ^ k = s.2.toNat / 2 ^ k := Nat.eq_of_mul_eq_mul_right hp e'
    unfold Lies
    dsimp only
    rw [low_is _ _ hk, low_is _ _ hk]
    have d1 := Nat.div_add_mod s.1.toNat (2 ^ k)
    have d2 := Nat.div_add_mod s.2.toNat (2 ^ k)
    rw [q] at d1
    refine ⟨by omega, Nat.mod_lt _ hp, fun x hx => ?_⟩
    have q1 : s.1.toNat / 2 ^ k ≤ x / 2 ^ k := Nat.div_le_div_right hx.1
    have q2 : x / 2 ^ k ≤ s.2.toNat / 2 ^ k := Nat.div_le_div_right hx.2
    have d3 := Nat.div_add_mod x (2 ^ k)
    rw [show x / 2 ^ k = s.2.toNat / 2 ^ k by omega] at d3
    omega
  · rw [if_neg e]
    unfold Lies
    dsimp only
    rw [toNat_low k hk]
    have z : (0#64 : B64).toNat = 0 := rfl
    rw [z]
    refine ⟨Nat.zero_le _, by omega, fun x hx => ⟨Nat.zero_le _, ?_⟩⟩
    have := Nat.mod_lt x hp
    omega
theorem modW_pow (c : Bool) : modW c = 2 ^ sizeW c := by cases c <;> rfl
def aluOk (op : Int) (a b : Tn) : Prop := 0 ≤ op ∧ op ≤ 12 ∧ mayS a = true ∧ mayS b = true
instance (op : Int) (a b : Tn) : Decidable (aluOk op a b) := by unfold aluOk; infer_instance
def aluT (op : Int) (c : Bool) (a b : Tn) : Tn := if aluOk op a b then resS op.toNat c (cutK a (sizeW c)) (cutK b (sizeW c)) else t0
def aluE (op : Int) (a b : Tn) : Int := if aluOk op a b then 0 else 1
end Go.Proofs.Ytcgokiahlldaoaa

namespace Go.Proofs.Ytcgokiahlldaoaa
set_option linter.unusedSimpArgs false
set_option linter.unusedVariables false
set_option maxRecDepth 100000
open Go.ChangeShapes Go.WideShapes Go.ChangeAt Go.RowKit

theorem alu_sound (op : Int) (c : Bool) (a b : Tn) (h : aluOk op a b) (x y : B64) (hx : Lies a x.toNat) (hy : Lies b y.toNat) :
    Lies (aluT op c a b) (oneB op.toNat c x y).toNat ∧ (aluT op c a b).2.toNat < modW c := by
  obtain ⟨h0, h1, ha, hb⟩ := id h
  have ha' : a.1.toNat ≤ a.2.toNat := of_decide_eq_true ha
  have hb' : b.1.toNat ≤ b.2.toNat := of_decide_eq_true hb
  obtain ⟨a1, a2, a3⟩ := cut_ok a (sizeW c) (sizeW_le c) ha'
  obtain ⟨b1, b2, b3⟩ := cut_ok b (sizeW c) (sizeW_le c) hb'
  rw [← modW_pow] at a2 a3 b2 b3
  obtain ⟨r1, r2⟩ := res_sound op.toNat (by omega) c _ _ a1 b1 a2 b2
  rw [show aluT op c a b = resS op.toNat c (cutK a (sizeW c)) (cutK b (sizeW c)) from if_pos h, oneB_is _ (by omega)]
  exact ⟨r1 _ _ (a3 _ hx) (b3 _ hy), r2⟩
theorem cut_single (x : B64) (c : Bool) : (cutK (x, x) (sizeW c)).1 = (cutK (x, x) (sizeW c)).2 := by
  unfold cutK
  rw [if_pos (show mayS (x, x) = true from decide_eq_true (Nat.le_refl _)), if_pos rfl]
theorem res_one (op : Nat) (hop : op ≤ 12) (c : Bool) (a b : Tn) (ha : a.1 = a.2) (hb : b.1 = b.2) (la : a.2.toNat < modW c) (lb : b.2.toNat < modW c) :
    (resS op c a b).1.toNat = (resS op c a b).2.toNat ∨ ((op = 2 ∨ op = 6) ∧ resS op c a b = (0#64, topW c)) := by
  have ha' : a.1.toNat = a.2.toNat := by rw [ha]
  have hb' : b.1.toNat = b.2.toNat := by rw [hb]
  have one : ∀ {s : Tn} {x : Nat}, s.1.toNat = s.2.toNat → Lies s x → x = s.2.toNat := by
    intro s x hs hx; unfold Lies at hx; omega
  obtain ⟨c1, c2, c3⟩ := count_ok c b (Nat.le_of_eq hb')
  have hs := sizeW_le c
  have cc : (countS c b).1.toNat = (countS c b).2.toNat := by
    have hwd := width b (Nat.le_of_eq hb')
    have h3 : (sizeB c - 1#64).toNat = sizeW c - 1 := by cases c <;> rfl
    have hz : sizeW c = 64 ∨ sizeW c = 32 := by cases c <;> simp [sizeW]
    have hn : ¬ ((sizeB c - 1#64).toNat ≤ (b.2 - b.1).toNat ∨ (b.2 % sizeB c).toNat < (b.1 % sizeB c).toNat) := by rw [h3, hwd, hb]; omega
    rw [show countS c b = (b.1 % sizeB c, b.2 % sizeB c) from if_neg hn]
    dsimp only
    rw [hb]
  by_cases ht : op ≤ 11 ∧ op ≠ 2 ∧ op ≠ 6 ∧ op ≠ 7 ∧ op ≠ 9
  · left
    obtain ⟨⟨x, y, hx, hy, e⟩, ⟨x2, y2, hx2, hy2, e2⟩⟩ := res_tight op ht.1 c a b (Nat.le_of_eq ha') (Nat.le_of_eq hb') la lb ht.2
    rw [← e, ← e2, one ha' hx, one ha' hx2, one hb' hy, one hb' hy2]
  · obtain rfl | rfl | rfl | rfl | rfl : op = 2 ∨ op = 6 ∨ op = 7 ∨ op = 9 ∨ op = 12 := by omega
    · rcases prod_view c a b (Nat.le_of_eq ha') (Nat.le_of_eq hb') with ⟨_, h⟩ | ⟨_, h1, h2⟩
      · exact .inr ⟨.inl rfl, h⟩
      · left
        show (prodS c a b).1.toNat = (prodS c a b).2.toNat
        rw [h1, h2, ha', hb']
    · have hp : (powS (countS c b)).1.toNat = (powS (countS c b)).2.toNat := by
        obtain ⟨p1, p2⟩ := powS_toNat (countS c b) (by omega) (by omega)
        rw [p1, p2, cc]
      rcases prod_view c a (powS (countS c b)) (Nat.le_of_eq ha') (Nat.le_of_eq hp) with ⟨_, h⟩ | ⟨_, h1, h2⟩
      · exact .inr ⟨.inr rfl, h⟩
      · left
        show (prodS c a (powS (countS c b))).1.toNat = (prodS c a (powS (countS c b))).2.toNat
        rw [h1, h2, ha', hp]
    · left
      have hp : (powS (countS c b)).1.toNat = (powS (countS c b)).2.toNat := by
        obtain ⟨p1, p2⟩ := powS_toNat (countS c b) (by omega) (by omega)
        rw [p1, p2, cc]
      obtain ⟨_, _, ⟨x, y, hx, hy, e⟩, ⟨x2, y2, hx2, hy2, e2⟩⟩ := quot_sound a (powS (countS c b)) (Nat.le_of_eq ha') (Nat.le_of_eq hp)
      show (quotS a (powS (countS c b))).1.toNat = (quotS a (powS (countS c b))).2.toNat
      rw [← e, ← e2, one ha' hx, one ha' hx2, one hp hy, one hp hy2]
    · left
      show (restS a b).1.toNat = (restS a b).2.toNat
      rcases rest_view a b with ⟨_, h1, h2⟩ | ⟨_, _, _, _, h1, h2⟩ | ⟨_, _, h, _⟩
      · rw [h1, h2, ha']
      · rw [h1, h2, ha']
      · exact absurd ⟨hb', by rw [ha']⟩ h
    · left
      obtain ⟨_, ⟨x, k, hx, hk, e⟩, ⟨x2, k2, hx2, hk2, e2⟩⟩ := sign_sound c a (countS c b) (Nat.le_of_eq ha') la c3 (by omega)
      show (signS c a (countS c b)).1.toNat = (signS c a (countS c b)).2.toNat
      rw [← e, ← e2, one ha' hx, one ha' hx2, one cc hk, one cc hk2]
theorem alu_one (op : Int) (c : Bool) (X Y : B64) :
    ((op < 0 ∨ 12 < op) → aluE op (X, X) (Y, Y) = 1) ∧
    (¬ op < 0 → ¬ 12 < op → aluE op (X, X) (Y, Y) = 0 ∧ (aluT op c (X, X) (Y, Y) = (oneB op.toNat c X Y, oneB op.toNat c X Y) ∨
      (aluT op c (X, X) (Y, Y) ≠ (oneB op.toNat c X Y, oneB op.toNat c X Y) ∧ (op = 2 ∨ op = 6) ∧ aluT op c (X, X) (Y, Y) = (0#64, topW c)))) := by
  have m : ∀ Z : B64, mayS (Z, Z) = true := fun Z => decide_eq_true (Nat.le_refl _)
  refine ⟨fun h => if_neg (fun k => by unfold aluOk at k; omega), fun h0 h1 => ?_⟩
  have hok : aluOk op (X, X) (Y, Y) := ⟨by omega, by omega, m X, m Y⟩
  refine ⟨if_pos hok, ?_⟩
  by_cases e : aluT op c (X, X) (Y, Y) = (oneB op.toNat c X Y, oneB op.toNat c X Y)
  · exact .inl e
  · refine .inr ⟨e, ?_⟩
    obtain ⟨s1, s2⟩ := (alu_sound op c (X, X) (Y, Y) hok X Y ⟨Nat.le_refl _, Nat.le_refl _⟩ ⟨Nat.le_refl _, Nat.le_refl _⟩).1
    have v : aluT op c (X, X) (Y, Y) = resS op.toNat c (cutK (X, X) (sizeW c)) (cutK (Y, Y) (sizeW c)) := if_pos hok
    obtain ⟨a1, a2, _⟩ := cut_ok (X, X) (sizeW c) (sizeW_le c) (Nat.le_refl _)
    obtain ⟨b1, b2, _⟩ := cut_ok (Y, Y) (sizeW c) (sizeW_le c) (Nat.le_refl _)
    rw [← modW_pow] at a2 b2
    rcases res_one op.toNat (by omega) c _ _ (cut_single X c) (cut_single Y c) a2 b2 with h | ⟨h, k⟩
    · exfalso
      apply e
      rw [← v] at h
      exact Prod.ext (BitVec.eq_of_toNat_eq (by dsimp only; omega)) (BitVec.eq_of_toNat_eq (by dsimp only; omega))
    · exact ⟨by omega, by rw [v, k]⟩
end Go.Proofs.Ytcgokiahlldaoaa
