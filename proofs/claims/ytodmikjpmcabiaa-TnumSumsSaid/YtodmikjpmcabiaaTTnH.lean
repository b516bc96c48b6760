/-
  Contracts of package tnum's Mul and Meet, as the landed code has them.
-/
import Derived.Test.YtodmikjpmcabiaaTTnG
namespace Go.Proofs.Ytodmikjpmcabiaa
set_option linter.unusedSimpArgs false
set_option linter.unusedVariables false
set_option maxRecDepth 100000
open Go.ChangeShapes Go.WideShapes Go.ChangeAt Go.RowKit

theorem mulN_any (p q : Nat) (a b : Tn) (w : World) (ha : TC w p a) (hb : TC w q b) : Calls Try.prog 61 #[.pointer (some ⟨q, 0, none⟩), .pointer (some ⟨p, 0, none⟩)] w fun e w' => e = .returned (tv (mulT a b)) ∧ Below w.heap.size w w' := cMul p q a b w ha hb
theorem tMul_any (a b : Tn) (w : World) : Calls Try.prog 17 #[tv a, tv b] w fun e w' => e = .returned (.tuple #[tv (bothT a b (mulT a b)), .int .i64 (bothE a b)]) ∧ Below w.heap.size w w' := by
  obtain ⟨R, HR⟩ : ∃ R, R = bothT a b (mulT a b) := ⟨_, rfl⟩
  rw [← HR]
  have HH := fun (p q : Nat) (w : World) (ha : TC w p a) (hb : TC w q b) => both_any a b (mulT a b) 61 #[.pointer (some ⟨q, 0, none⟩), .pointer (some ⟨p, 0, none⟩)] w (fun _ _ => by kernel_rfl) (fun W hW _ _ => mulN_any p q a b W (ha.below hW) (hb.below hW))
  rw [← HR] at HH
  have HX := hid HH
  clear HH HR
  generalize bothE a b = E at *
  unfold tv at HX ⊢
  go_enter Try.func17, Try.ntmps17
  go_wp2_with fail
  refine Calls.mono (HX.out w.heap.size (w.heap.size + 1) _ ?_ ?_) ?_
  · exact ((TC.new rfl).alloc _).alloc _
  · exact (TC.new (by simp)).alloc _
  rintro e w1 ⟨rfl, b1⟩
  have hb : Below w.heap.size w w1 := (((((Below.refl _ _).alloc (Nat.le_refl _) _).alloc (by simp) _).alloc (by simp; omega) _).trans (b1.mono (by simp; omega)))
  obtain ⟨hc, hf⟩ := bcell b1
  have hz : w.heap.size + 1 + 1 < w1.heap.size := by have := b1.size; simp at this; omega
  have HB := hid hb
  clear b1 hb
  go_wp2
  refine bodyPost_ret (v := .tuple #[.agg #[.int .u64 (ub R.1), .int .u64 (ub R.2)], .int .i64 E]) (by simp [results, Try.results17, go_sem, hc, hz]; try rfl) rfl ⟨rfl, ?_⟩
  exact (HB.out.setCell (by simp; omega) _).setCell (by simp; omega) _
end Go.Proofs.Ytodmikjpmcabiaa
