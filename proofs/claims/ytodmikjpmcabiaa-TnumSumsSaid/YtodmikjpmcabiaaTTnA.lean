/-
  Contracts of package tnum's small functions, as the landed code has them.
-/
import Derived.Test.YtodmikjpmcabiaaChecked
import Derived.Test.YtodmikjpmcabiaaTTnU
import Derived.ProofKit
import Derived.Below
import Derived.Outline
import Derived.OneCell
import Derived.Deep.QuietTactic
import Derived.BigQuiet
import Derived.BigRegion
namespace Go.Proofs.Ytodmikjpmcabiaa
set_option linter.unusedSimpArgs false
set_option linter.unusedVariables false
set_option maxRecDepth 100000
open Go.ChangeShapes Go.WideShapes Go.ChangeAt Go.RowKit

theorem bcell {W w1 : World} (hb : Below W.heap.size W w1) : (∀ b o, b < W.heap.size → w1.cell? ⟨b, o, none⟩ = W.cell? ⟨b, o, none⟩) ∧ (∀ b o, b < W.heap.size → w1.frozen? ⟨b, o, none⟩ = W.frozen? ⟨b, o, none⟩) :=
  ⟨fun _ _ h => hb.cell h, fun _ _ h => hb.frozen h⟩
/-- A tnum's cells. -/
def TC (w : World) (p : Nat) (a : Tn) : Prop := p < w.heap.size ∧ w.cell? ⟨p, 0, none⟩ = some (.int .u64 (ub a.1)) ∧ w.cell? ⟨p, 1, none⟩ = some (.int .u64 (ub a.2))
theorem TC.below {w w' : World} {p : Nat} {a : Tn} (h : TC w p a) (hb : Below w.heap.size w w') : TC w' p a :=
  ⟨Nat.lt_of_lt_of_le h.1 hb.size, (hb.cell h.1).trans h.2.1, (hb.cell h.1).trans h.2.2⟩
theorem TC.new {w : World} {a : Tn} {t : TypeId} {b : Nat} (hb : b = w.heap.size) : TC (w.alloc (.cells #[.int .u64 (ub a.1), .int .u64 (ub a.2)] t)) b a := by
  subst hb
  refine ⟨by simp, ?_, ?_⟩ <;> simp
theorem TC.alloc {w : World} {p : Nat} {a : Tn} (h : TC w p a) (o : Obj) : TC (w.alloc o) p a := h.below ((Below.refl _ _).alloc (Nat.le_refl _) o)

theorem tMay_any (a : Tn) (w : World) : Calls Try.prog 104 #[tv a] w fun e w' => e = .returned (.bool (tmay a)) ∧ Below w.heap.size w w' := by
  obtain ⟨v, m⟩ := a
  unfold tv tmay
  go_enter Try.func104, Try.ntmps104
  go_wp2
  go_ret
  exact ⟨rfl, (Below.refl _ _).alloc (Nat.le_refl _) _⟩
theorem rMay_any (a : Tn) (w : World) : Calls Try.prog 57 #[tv a] w fun e w' => e = .returned (.bool (tmay a)) ∧ Below w.heap.size w w' := by
  obtain ⟨v, m⟩ := a
  unfold tv tmay
  go_enter Try.func57, Try.ntmps57
  go_wp2
  go_ret
  exact ⟨rfl, (Below.refl _ _).alloc (Nat.le_refl _) _⟩
theorem tBut_any (n free : B64) (w : World) : Calls Try.prog 60 #[.int .u64 (ub n), .int .u64 (ub free)] w fun e w' => e = .returned (tv (butT n free)) ∧ Below w.heap.size w w' := by
  go_enter Try.func60, Try.ntmps60
  go_wp2
  exact bodyPost_ret (v := tv (butT n free)) (by simp [results, Try.results60, go_sem]; try rfl) rfl ⟨rfl, (Below.refl _ _).alloc (Nat.le_refl _) _⟩
theorem tOf_any (n : B64) (w : World) : Calls Try.prog 62 #[.int .u64 (ub n)] w fun e w' => e = .returned (tv (n, 0#64)) ∧ Below w.heap.size w w' := by
  go_enter Try.func62, Try.ntmps62
  go_wp2
  exact bodyPost_ret (v := tv (n, 0#64)) (by simp [results, Try.results62, go_sem]; try rfl) rfl ⟨rfl, (Below.refl _ _).alloc (Nat.le_refl _) _⟩
theorem tSum_any (a b : Tn) (w : World) : Calls Try.prog 56 #[tv a, tv b] w fun e w' => e = .returned (tv (sumT a b)) ∧ Below w.heap.size w w' := by
  obtain ⟨v, m⟩ := a
  obtain ⟨v', m'⟩ := b
  obtain ⟨R, HR⟩ : ∃ R, R = tv (sumT (v, m) (v', m')) := ⟨_, rfl⟩
  rw [← HR]
  have hR := hid HR
  clear HR
  unfold tv
  go_enter Try.func56, Try.ntmps56
  go_wp2_with fail
  refine (tBut_any _ _ _).mono ?_
  rintro e w1 ⟨rfl, b1⟩
  have hb : Below w.heap.size w w1 := (((((Below.refl _ _).alloc (Nat.le_refl _) _).alloc (by simp) _).alloc (by simp; omega) _).trans (b1.mono (by simp; omega)))
  obtain ⟨hc, hf⟩ := bcell b1
  have hz : w.heap.size + 1 + 1 < w1.heap.size := by have := b1.size; simp at this; omega
  have HB := hid hb
  clear b1 hb
  unfold tv butT
  dsimp only
  go_wp2
  refine bodyPost_ret (v := R) (by rw [hR.out]; simp [results, Try.results56, go_sem, hc, hz]; try rfl) rfl ⟨rfl, ?_⟩
  exact (HB.out.setCell (by simp; omega) _).setCell (by simp; omega) _
theorem cJoin (p q : Nat) (a b : Tn) (w : World) (ha : TC w p a) (hb : TC w q b) : Calls Try.prog 106 #[.pointer (some ⟨p, 0, none⟩), .pointer (some ⟨q, 0, none⟩)] w fun e w' => e = .returned (tv (joinT a b)) ∧ Below w.heap.size w w' := by
  obtain ⟨v, m⟩ := a
  obtain ⟨v', m'⟩ := b
  obtain ⟨R, HR⟩ : ∃ R, R = tv (joinT (v, m) (v', m')) := ⟨_, rfl⟩
  rw [← HR]
  have hR := hid HR
  clear HR
  obtain ⟨p0, p1, p2⟩ := ha
  obtain ⟨q0, q1, q2⟩ := hb
  dsimp only at p1 p2 q1 q2
  have hp : p ≠ w.heap.size := by omega
  have hq : q ≠ w.heap.size := by omega
  go_enter Try.func106, Try.ntmps106
  go_wp2_with fail
  refine (tBut_any _ _ _).mono ?_
  rintro e w1 ⟨rfl, b1⟩
  have hb : Below w.heap.size w w1 := ((Below.refl _ _).alloc (Nat.le_refl _) _).trans (b1.mono (by simp))
  obtain ⟨hc, hf⟩ := bcell b1
  have hz : w.heap.size < w1.heap.size := by have := b1.size; simp at this; omega
  have HB := hid hb
  clear b1 hb
  unfold tv butT
  dsimp only
  go_wp2
  refine bodyPost_ret (v := R) (by rw [hR.out]; simp [results, Try.results106, go_sem, hc, hz]; try rfl) rfl ⟨rfl, ?_⟩
  exact (HB.out.setCell (by simp) _).setCell (by simp) _
theorem cAdd (p q : Nat) (a b : Tn) (w : World) (ha : TC w p a) (hb : TC w q b) : Calls Try.prog 55 #[.pointer (some ⟨p, 0, none⟩), .pointer (some ⟨q, 0, none⟩)] w fun e w' => e = .returned (tv (sumT a b)) ∧ Below w.heap.size w w' := by
  obtain ⟨v, m⟩ := a
  obtain ⟨v', m'⟩ := b
  obtain ⟨R, HR⟩ : ∃ R, R = tv (sumT (v, m) (v', m')) := ⟨_, rfl⟩
  rw [← HR]
  have hR := hid HR
  clear HR
  obtain ⟨p0, p1, p2⟩ := ha
  obtain ⟨q0, q1, q2⟩ := hb
  dsimp only at p1 p2 q1 q2
  have hp : p ≠ w.heap.size := by omega
  have hq : q ≠ w.heap.size := by omega
  go_enter Try.func55, Try.ntmps55
  go_wp2_with fail
  refine (tSum_any (v, m) (v', m') _).mono ?_
  rintro e w1 ⟨rfl, b1⟩
  have hb : Below w.heap.size w w1 := ((Below.refl _ _).alloc (Nat.le_refl _) _).trans (b1.mono (by simp))
  obtain ⟨hc, hf⟩ := bcell b1
  have hz : w.heap.size < w1.heap.size := by have := b1.size; simp at this; omega
  have HB := hid hb
  clear b1 hb
  unfold tv sumT butT
  dsimp only
  go_wp2
  refine bodyPost_ret (v := R) (by rw [hR.out]; simp [results, Try.results55, go_sem, hc, hz]; try rfl) rfl ⟨rfl, ?_⟩
  exact (HB.out.setCell (by simp) _).setCell (by simp) _
theorem cSub (p q : Nat) (a b : Tn) (w : World) (ha : TC w p a) (hb : TC w q b) : Calls Try.prog 59 #[.pointer (some ⟨p, 0, none⟩), .pointer (some ⟨q, 0, none⟩)] w fun e w' => e = .returned (tv (subT a b)) ∧ Below w.heap.size w w' := by
  obtain ⟨v, m⟩ := a
  obtain ⟨v', m'⟩ := b
  obtain ⟨R, HR⟩ : ∃ R, R = tv (subT (v, m) (v', m')) := ⟨_, rfl⟩
  rw [← HR]
  have hR := hid HR
  clear HR
  obtain ⟨p0, p1, p2⟩ := ha
  obtain ⟨q0, q1, q2⟩ := hb
  dsimp only at p1 p2 q1 q2
  have hp : p ≠ w.heap.size := by omega
  have hq : q ≠ w.heap.size := by omega
  go_enter Try.func59, Try.ntmps59
  go_wp2_with fail
  go_region
  go_wp2_with fail
  refine (tBut_any _ _ _).mono ?_
  rintro e w1 ⟨rfl, b1⟩
  have hb : Below w.heap.size w w1 := ((Below.refl _ _).alloc (Nat.le_refl _) _).drew.trans (b1.mono (by simp))
  obtain ⟨hc, hf⟩ := bcell b1
  have hz : w.heap.size < w1.heap.size := by have := b1.size; simp at this; omega
  have HB := hid hb
  clear b1 hb
  unfold tv butT
  dsimp only
  go_wp2
  refine bodyPost_ret (v := R) (by rw [hR.out]; simp [results, Try.results59, go_sem, hc, hz]; try rfl) rfl ⟨rfl, ?_⟩
  exact (HB.out.setCell (by simp) _).setCell (by simp) _
theorem cAnd (p q : Nat) (a b : Tn) (w : World) (ha : TC w p a) (hb : TC w q b) : Calls Try.prog 65 #[.pointer (some ⟨p, 0, none⟩), .pointer (some ⟨q, 0, none⟩)] w fun e w' => e = .returned (tv (andT a b)) ∧ Below w.heap.size w w' := by
  obtain ⟨v, m⟩ := a
  obtain ⟨v', m'⟩ := b
  obtain ⟨R, HR⟩ : ∃ R, R = tv (andT (v, m) (v', m')) := ⟨_, rfl⟩
  rw [← HR]
  have hR := hid HR
  clear HR
  obtain ⟨p0, p1, p2⟩ := ha
  obtain ⟨q0, q1, q2⟩ := hb
  dsimp only at p1 p2 q1 q2
  have hp : p ≠ w.heap.size := by omega
  have hq : q ≠ w.heap.size := by omega
  go_enter Try.func65, Try.ntmps65
  go_wp2_with fail
  refine (tBut_any _ _ _).mono ?_
  rintro e w1 ⟨rfl, b1⟩
  have hb : Below w.heap.size w w1 := ((Below.refl _ _).alloc (Nat.le_refl _) _).trans (b1.mono (by simp))
  obtain ⟨hc, hf⟩ := bcell b1
  have hz : w.heap.size < w1.heap.size := by have := b1.size; simp at this; omega
  have HB := hid hb
  clear b1 hb
  unfold tv butT
  dsimp only
  go_wp2
  refine bodyPost_ret (v := R) (by rw [hR.out]; simp [results, Try.results65, go_sem, hc, hz]; try rfl) rfl ⟨rfl, ?_⟩
  exact (HB.out.setCell (by simp) _).setCell (by simp) _
theorem cOr (p q : Nat) (a b : Tn) (w : World) (ha : TC w p a) (hb : TC w q b) : Calls Try.prog 68 #[.pointer (some ⟨p, 0, none⟩), .pointer (some ⟨q, 0, none⟩)] w fun e w' => e = .returned (tv (orT a b)) ∧ Below w.heap.size w w' := by
  obtain ⟨v, m⟩ := a
  obtain ⟨v', m'⟩ := b
  obtain ⟨R, HR⟩ : ∃ R, R = tv (orT (v, m) (v', m')) := ⟨_, rfl⟩
  rw [← HR]
  have hR := hid HR
  clear HR
  obtain ⟨p0, p1, p2⟩ := ha
  obtain ⟨q0, q1, q2⟩ := hb
  dsimp only at p1 p2 q1 q2
  have hp : p ≠ w.heap.size := by omega
  have hq : q ≠ w.heap.size := by omega
  go_enter Try.func68, Try.ntmps68
  go_wp2_with fail
  refine (tBut_any _ _ _).mono ?_
  rintro e w1 ⟨rfl, b1⟩
  have hb : Below w.heap.size w w1 := ((Below.refl _ _).alloc (Nat.le_refl _) _).trans (b1.mono (by simp))
  obtain ⟨hc, hf⟩ := bcell b1
  have hz : w.heap.size < w1.heap.size := by have := b1.size; simp at this; omega
  have HB := hid hb
  clear b1 hb
  unfold tv butT
  dsimp only
  go_wp2
  refine bodyPost_ret (v := R) (by rw [hR.out]; simp [results, Try.results68, go_sem, hc, hz]; try rfl) rfl ⟨rfl, ?_⟩
  exact (HB.out.setCell (by simp) _).setCell (by simp) _
theorem cXor (p q : Nat) (a b : Tn) (w : World) (ha : TC w p a) (hb : TC w q b) : Calls Try.prog 69 #[.pointer (some ⟨p, 0, none⟩), .pointer (some ⟨q, 0, none⟩)] w fun e w' => e = .returned (tv (xorT a b)) ∧ Below w.heap.size w w' := by
  obtain ⟨v, m⟩ := a
  obtain ⟨v', m'⟩ := b
  obtain ⟨R, HR⟩ : ∃ R, R = tv (xorT (v, m) (v', m')) := ⟨_, rfl⟩
  rw [← HR]
  have hR := hid HR
  clear HR
  obtain ⟨p0, p1, p2⟩ := ha
  obtain ⟨q0, q1, q2⟩ := hb
  dsimp only at p1 p2 q1 q2
  have hp : p ≠ w.heap.size := by omega
  have hq : q ≠ w.heap.size := by omega
  go_enter Try.func69, Try.ntmps69
  go_wp2_with fail
  refine (tBut_any _ _ _).mono ?_
  rintro e w1 ⟨rfl, b1⟩
  have hb : Below w.heap.size w w1 := ((Below.refl _ _).alloc (Nat.le_refl _) _).trans (b1.mono (by simp))
  obtain ⟨hc, hf⟩ := bcell b1
  have hz : w.heap.size < w1.heap.size := by have := b1.size; simp at this; omega
  have HB := hid hb
  clear b1 hb
  unfold tv butT
  dsimp only
  go_wp2
  refine bodyPost_ret (v := R) (by rw [hR.out]; simp [results, Try.results69, go_sem, hc, hz]; try rfl) rfl ⟨rfl, ?_⟩
  exact (HB.out.setCell (by simp) _).setCell (by simp) _
end Go.Proofs.Ytodmikjpmcabiaa
