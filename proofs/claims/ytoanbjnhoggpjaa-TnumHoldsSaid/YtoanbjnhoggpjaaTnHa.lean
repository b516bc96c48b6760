/-
  TnumHolds: what meets, joins and spans hold.
-/
import Derived.Test.YtoanbjnhoggpjaaTnHp
import Derived.Test.YtoanbjnhoggpjaaTnW
import Derived.Test.YtoanbjnhoggpjaaHrT
import Derived.Deep.RegionHeld3
namespace Go.Proofs.Ytoanbjnhoggpjaa
set_option linter.unusedSimpArgs false
set_option linter.unusedVariables false
open Go.ChangeShapes Go.WideShapes Go.ChangeAt Go.RowKit

@[go_sem] theorem ub_suc (x : B64) : IntKind.u64.wrap (ub x + 1) = ub (x + 1#64) := ub_wadd x 1#64
def AC (w : World) (p : Nat) (n0 n1 n2 : B64) : Prop := p < w.heap.size ∧ w.cell? ⟨p, 0, none⟩ = some (.int .u64 (ub n0)) ∧ w.cell? ⟨p, 1, none⟩ = some (.int .u64 (ub n1)) ∧ w.cell? ⟨p, 2, none⟩ = some (.int .u64 (ub n2))
theorem AC.below {w w' : World} {p : Nat} {n0 n1 n2 : B64} (h : AC w p n0 n1 n2) (hb : Below w.heap.size w w') : AC w' p n0 n1 n2 :=
  ⟨Nat.lt_of_lt_of_le h.1 hb.size, (hb.cell h.1).trans h.2.1, (hb.cell h.1).trans h.2.2.1, (hb.cell h.1).trans h.2.2.2⟩
theorem AC.new {w : World} {n0 n1 n2 : B64} {t : TypeId} {b : Nat} (hb : b = w.heap.size) : AC (w.alloc (.cells #[.int .u64 (ub n0), .int .u64 (ub n1), .int .u64 (ub n2)] t)) b n0 n1 n2 := by
  subst hb
  refine ⟨by simp, ?_, ?_, ?_⟩ <;> simp
structure HoI (w : World) (a b : Tn) (n0 n1 n2 : B64) (wr : World) : Prop where
  ca : TC wr w.heap.size a
  cb : TC wr (w.heap.size + 1) b
  cc : AC wr (w.heap.size + 1 + 1) n0 n1 n2
  bel : Below w.heap.size w wr
theorem HoI.next {w : World} {a b : Tn} {n0 n1 n2 : B64} {wr w' : World} (h : HoI w a b n0 n1 n2 wr) (hb : Below wr.heap.size wr w') : HoI w a b n0 n1 n2 w' :=
  ⟨h.ca.below hb, h.cb.below hb, h.cc.below hb, h.bel.trans (hb.mono h.bel.size)⟩
structure HoJ (w : World) (a b : Tn) (n0 n1 n2 : B64) (g1 : Nat) (M : Tn) (g2 : Nat) (J : Tn) (wr : World) : Prop where
  i : HoI w a b n0 n1 n2 wr
  c1 : TC wr g1 M
  c2 : TC wr g2 J
theorem HoJ.next {w : World} {a b : Tn} {n0 n1 n2 : B64} {g1 : Nat} {M : Tn} {g2 : Nat} {J : Tn} {wr w' : World} (h : HoJ w a b n0 n1 n2 g1 M g2 J wr) (hb : Below wr.heap.size wr w') : HoJ w a b n0 n1 n2 g1 M g2 J w' :=
  ⟨h.i.next hb, h.c1.below hb, h.c2.below hb⟩
theorem HoJ.drew {w : World} {a b : Tn} {n0 n1 n2 : B64} {g1 : Nat} {M : Tn} {g2 : Nat} {J : Tn} {wr : World} (h : HoJ w a b n0 n1 n2 g1 M g2 J wr) : HoJ w a b n0 n1 n2 g1 M g2 J wr.drew := h.next (below_dr _)
theorem holds_a (a b : Tn) (n0 n1 n2 : B64) (w : World) (ha : tmay a = false) : Calls Try.prog 10 #[tv a, tv b, .agg #[.int .u64 (ub n0), .int .u64 (ub n1), .int .u64 (ub n2)]] w fun e w' => e = .returned (.bool true) ∧ Below w.heap.size w w' := by
  have HAW := hid awake_true
  have HA := fun W => tMay_any a W
  rw [ha] at HA
  unfold tv at HA ⊢
  have HA' := hid HA
  clear HA ha
  go_enter Try.func10, Try.ntmps10
  go_wp2_with fail
  refine (HAW.out _).mono ?_
  rintro e w1 ⟨rfl, z1⟩
  have I : HoI w a b n0 n1 n2 w1 := ⟨((TC.new rfl).alloc _ |>.alloc _).below z1, ((TC.new (by simp)).alloc _).below z1, (AC.new (by simp)).below z1, ((((Below.refl _ _).alloc (Nat.le_refl _) _).alloc (by simp) _).alloc (by simp; omega) _).trans (z1.mono (by simp; omega))⟩
  clear z1
  have p0 := I.ca.1
  have q0 := I.ca.2.1
  have r0 := I.ca.2.2
  have p1 := I.cb.1
  have q1 := I.cb.2.1
  have r1 := I.cb.2.2
  go_wp2_with fail
  refine (HA'.out _).mono ?_
  rintro e w2 ⟨rfl, z2⟩
  clear p0 q0 r0 p1 q1 r1
  replace I := I.next z2
  clear z2
  have p0 := I.ca.1
  have q0 := I.ca.2.1
  have r0 := I.ca.2.2
  have p1 := I.cb.1
  have q1 := I.cb.2.1
  have r1 := I.cb.2.2
  go_wp2_with fail
  refine (HAW.out _).mono ?_
  rintro e w9 ⟨rfl, z9⟩
  have HB9 := hid (I.next z9).bel
  go_wp2
  go_ret
  exact ⟨rfl, HB9.out⟩
theorem holds_b (a b : Tn) (n0 n1 n2 : B64) (w : World) (ha : tmay a = true) (hb : tmay b = false) : Calls Try.prog 10 #[tv a, tv b, .agg #[.int .u64 (ub n0), .int .u64 (ub n1), .int .u64 (ub n2)]] w fun e w' => e = .returned (.bool true) ∧ Below w.heap.size w w' := by
  have HAW := hid awake_true
  have HA := fun W => tMay_any a W
  have HB := fun W => tMay_any b W
  rw [ha] at HA
  rw [hb] at HB
  unfold tv at HA HB ⊢
  have HA' := hid HA
  have HB' := hid HB
  clear HA HB ha hb
  go_enter Try.func10, Try.ntmps10
  go_wp2_with fail
  refine (HAW.out _).mono ?_
  rintro e w1 ⟨rfl, z1⟩
  have I : HoI w a b n0 n1 n2 w1 := ⟨((TC.new rfl).alloc _ |>.alloc _).below z1, ((TC.new (by simp)).alloc _).below z1, (AC.new (by simp)).below z1, ((((Below.refl _ _).alloc (Nat.le_refl _) _).alloc (by simp) _).alloc (by simp; omega) _).trans (z1.mono (by simp; omega))⟩
  clear z1
  have p0 := I.ca.1
  have q0 := I.ca.2.1
  have r0 := I.ca.2.2
  have p1 := I.cb.1
  have q1 := I.cb.2.1
  have r1 := I.cb.2.2
  go_wp2_with fail
  refine (HA'.out _).mono ?_
  rintro e w2 ⟨rfl, z2⟩
  clear p0 q0 r0 p1 q1 r1
  replace I := I.next z2
  clear z2
  have p0 := I.ca.1
  have q0 := I.ca.2.1
  have r0 := I.ca.2.2
  have p1 := I.cb.1
  have q1 := I.cb.2.1
  have r1 := I.cb.2.2
  go_wp2_with fail
  refine (HB'.out _).mono ?_
  rintro e w3 ⟨rfl, z3⟩
  clear p0 q0 r0 p1 q1 r1
  replace I := I.next z3
  clear z3
  have p0 := I.ca.1
  have q0 := I.ca.2.1
  have r0 := I.ca.2.2
  have p1 := I.cb.1
  have q1 := I.cb.2.1
  have r1 := I.cb.2.2
  go_wp2_with fail
  refine (HAW.out _).mono ?_
  rintro e w9 ⟨rfl, z9⟩
  have HB9 := hid (I.next z9).bel
  go_wp2
  go_ret
  exact ⟨rfl, HB9.out⟩
end Go.Proofs.Ytoanbjnhoggpjaa
