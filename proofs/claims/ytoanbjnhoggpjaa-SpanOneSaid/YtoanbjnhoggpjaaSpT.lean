/-
  SpanSound: no result is left out (the stage's theorem).
-/
import Derived.Test.YtoanbjnhoggpjaaSpS
import Derived.Test.YtoanbjnhoggpjaaSpW
namespace Go.Proofs.Ytoanbjnhoggpjaa
set_option linter.unusedSimpArgs false
set_option linter.unusedVariables false
set_option maxRecDepth 100000
open Go.ChangeShapes Go.WideShapes Go.ChangeAt Go.RowKit

theorem alu_sound (op : Int) (c : Bool) (a b : Tn) (h : aluOk op a b) (x y : B64) (hx : Lies a x.toNat) (hy : Lies b y.toNat) :
    Lies (aluT op c a b) (oneB op.toNat c x y).toNat ∧ (aluT op c a b).2.toNat < modW c := by
  obtain ⟨h0, h1, ha, hb⟩ := id h
  have ha' : a.1.toNat ≤ a.2.toNat := of_decide_eq_true ha
  have hb' : b.1.toNat ≤ b.2.toNat := of_decide_eq_true hb
  obtain ⟨a1, a2, a3⟩ := cut_ok a (sizeW c) (sizeW_le c) ha'
  obtain ⟨b1, b2, b3⟩ := cut_ok b (sizeW c) (sizeW_le c) hb'
  rw [← modW_pow] at a2 a3 b2 b3
  obtain ⟨r1, r2⟩ := res_sound op.toNat (by omega) c _ _ a1 b1 a2 b2
  rw [show aluT op c a b = resS op.toNat c (cutK a (sizeW c)) (cutK b (sizeW c)) from if_pos h, oneB_is _ (by omega)]
  exact ⟨r1 _ _ (a3 _ hx) (b3 _ hy), r2⟩
/-- The box of what is given. -/
structure GI (w : World) (op : Int) (c : Bool) (A B : Tn) (X Y : B64) (w' : World) : Prop where
  lt : w.heap.size < w'.heap.size
  g0 : w'.cell? ⟨w.heap.size, 0, none⟩ = some (.int .i64 op)
  g1 : w'.cell? ⟨w.heap.size, 1, none⟩ = some (.bool c)
  g2 : w'.cell? ⟨w.heap.size, 2, none⟩ = some (.int .u64 (ub A.1))
  g3 : w'.cell? ⟨w.heap.size, 3, none⟩ = some (.int .u64 (ub A.2))
  g4 : w'.cell? ⟨w.heap.size, 4, none⟩ = some (.int .u64 (ub B.1))
  g5 : w'.cell? ⟨w.heap.size, 5, none⟩ = some (.int .u64 (ub B.2))
  g6 : w'.cell? ⟨w.heap.size, 6, none⟩ = some (.int .u64 (ub X))
  g7 : w'.cell? ⟨w.heap.size, 7, none⟩ = some (.int .u64 (ub Y))
  bel : Below w.heap.size w w'
theorem GI.next {w : World} {op : Int} {c : Bool} {A B : Tn} {X Y : B64} {w' w2 : World} (h : GI w op c A B X Y w') (hb : Below w'.heap.size w' w2) : GI w op c A B X Y w2 :=
  ⟨Nat.lt_of_lt_of_le h.lt hb.size, (hb.cell h.lt).trans h.g0, (hb.cell h.lt).trans h.g1, (hb.cell h.lt).trans h.g2, (hb.cell h.lt).trans h.g3, (hb.cell h.lt).trans h.g4, (hb.cell h.lt).trans h.g5, (hb.cell h.lt).trans h.g6, (hb.cell h.lt).trans h.g7, h.bel.trans (hb.mono h.bel.size)⟩
theorem GI.start (w : World) (op : Int) (c : Bool) (A B : Tn) (X Y : B64) (t : TypeId) : GI w op c A B X Y (w.alloc (.cells #[.int .i64 op, .bool c, .int .u64 (ub A.1), .int .u64 (ub A.2), .int .u64 (ub B.1), .int .u64 (ub B.2), .int .u64 (ub X), .int .u64 (ub Y)] t)) := by
  refine ⟨by simp, ?_, ?_, ?_, ?_, ?_, ?_, ?_, ?_, (Below.refl _ _).alloc (Nat.le_refl _) _⟩ <;> simp
end Go.Proofs.Ytoanbjnhoggpjaa
