/-
  Scalars' cells; contracts of one turn of settling and of Settle, as the landed code has them. Contract of Settle, as the landed code has it.
-/
import Derived.Test.YtjcnpjidkimldaaGreatDoorAScP
import Derived.Test.YtjcnpjidkimldaaGreatDoorASpI
import Derived.Test.YtjcnpjidkimldaaGreatDoorATnH
namespace Go.Proofs.YtjcnpjidkimldaaGreatDoor
set_option linter.unusedSimpArgs false
set_option linter.unusedVariables false
set_option maxRecDepth 100000
open Go.ChangeShapes Go.WideShapes Go.ChangeAt Go.RowKit

def sv (x : Sc) : Value := .agg #[.int .u64 (ub x.1.1), .int .u64 (ub x.1.2), .int .u64 (ub x.2.1), .int .u64 (ub x.2.2)]
/-- A scalar's cells in a block of the call's own. -/
structure SC (w : World) (b : Nat) (x : Sc) : Prop where
  lt : b < w.heap.size
  c0 : w.cell? ⟨b, 0, none⟩ = some (.int .u64 (ub x.1.1))
  c1 : w.cell? ⟨b, 1, none⟩ = some (.int .u64 (ub x.1.2))
  c2 : w.cell? ⟨b, 2, none⟩ = some (.int .u64 (ub x.2.1))
  c3 : w.cell? ⟨b, 3, none⟩ = some (.int .u64 (ub x.2.2))
  f0 : w.frozen? ⟨b, 0, none⟩ = false
  f1 : w.frozen? ⟨b, 1, none⟩ = false
  f2 : w.frozen? ⟨b, 2, none⟩ = false
  f3 : w.frozen? ⟨b, 3, none⟩ = false
theorem SC.below {w w' : World} {b : Nat} {x : Sc} (h : SC w b x) (hb : Below w.heap.size w w') : SC w' b x :=
  ⟨Nat.lt_of_lt_of_le h.lt hb.size, (hb.cell h.lt).trans h.c0, (hb.cell h.lt).trans h.c1, (hb.cell h.lt).trans h.c2, (hb.cell h.lt).trans h.c3, (hb.frozen (p := ⟨b, 0, none⟩) h.lt).trans h.f0, (hb.frozen (p := ⟨b, 1, none⟩) h.lt).trans h.f1, (hb.frozen (p := ⟨b, 2, none⟩) h.lt).trans h.f2, (hb.frozen (p := ⟨b, 3, none⟩) h.lt).trans h.f3⟩
theorem SC.alloc {w : World} {b : Nat} {x : Sc} (h : SC w b x) (o : Obj) : SC (w.alloc o) b x := h.below ((Below.refl _ _).alloc (Nat.le_refl _) o)
theorem BC.alloc {w : World} {b : Nat} {x : Tn} (h : BC w b x) (o : Obj) : BC (w.alloc o) b x := h.below ((Below.refl _ _).alloc (Nat.le_refl _) o)
theorem SC.new {w : World} {x : Sc} {t : TypeId} {b : Nat} (hb : b = w.heap.size) : SC (w.alloc (.cells #[.int .u64 (ub x.1.1), .int .u64 (ub x.1.2), .int .u64 (ub x.2.1), .int .u64 (ub x.2.2)] t)) b x := by
  subst hb
  exact ⟨by simp, by simp, by simp, by simp, by simp, by simp, by simp, by simp, by simp⟩
def putS (w : World) (b : Nat) (u : Sc) : World := (((w.setCell ⟨b, 0, none⟩ (.int .u64 (ub u.1.1))).setCell ⟨b, 1, none⟩ (.int .u64 (ub u.1.2))).setCell ⟨b, 2, none⟩ (.int .u64 (ub u.2.1))).setCell ⟨b, 3, none⟩ (.int .u64 (ub u.2.2))
theorem putS_heap (w : World) (b : Nat) (u : Sc) {b' : Nat} (h : b' ≠ b) : (putS w b u).heap[b']? = w.heap[b']? := (((Below.heap_setCell _ _ _ _ h).trans (Below.heap_setCell _ _ _ _ h)).trans (Below.heap_setCell _ _ _ _ h)).trans (Below.heap_setCell _ _ _ _ h)
theorem putS_below {n : Nat} {w w1 : World} {b : Nat} (u : Sc) (h : Below n w w1) (hb : n ≤ b) : Below n w (putS w1 b u) := (((h.setCell (p := ⟨b, 0, none⟩) hb _).setCell (p := ⟨b, 1, none⟩) hb _).setCell (p := ⟨b, 2, none⟩) hb _).setCell (p := ⟨b, 3, none⟩) hb _
theorem putS_size (w : World) (b : Nat) (u : Sc) : (putS w b u).heap.size = w.heap.size := by unfold putS; simp
theorem SC.put {w : World} {b : Nat} {x : Sc} (h : SC w b x) (u : Sc) : SC (putS w b u) b u := by
  unfold putS
  refine ⟨by simp; exact h.lt, ?_, ?_, ?_, ?_, by simp; exact h.f0, by simp; exact h.f1, by simp; exact h.f2, by simp; exact h.f3⟩
  · exact (World.cell?_setCell_other _ _ _ _ (by simp)).trans ((World.cell?_setCell_other _ _ _ _ (by simp)).trans ((World.cell?_setCell_other _ _ _ _ (by simp)).trans (World.cell?_setCell_same _ _ _ h.c0)))
  · exact (World.cell?_setCell_other _ _ _ _ (by simp)).trans ((World.cell?_setCell_other _ _ _ _ (by simp)).trans (World.cell?_setCell_same _ _ _ ((World.cell?_setCell_other _ _ _ _ (by simp)).trans h.c1)))
  · exact (World.cell?_setCell_other _ _ _ _ (by simp)).trans (World.cell?_setCell_same _ _ _ ((World.cell?_setCell_other _ _ _ _ (by simp)).trans ((World.cell?_setCell_other _ _ _ _ (by simp)).trans h.c2)))
  · exact World.cell?_setCell_same _ _ _ ((World.cell?_setCell_other _ _ _ _ (by simp)).trans ((World.cell?_setCell_other _ _ _ _ (by simp)).trans ((World.cell?_setCell_other _ _ _ _ (by simp)).trans h.c3)))
theorem SC.other {w : World} {b c : Nat} {x : Sc} (h : SC w b x) (hbc : b ≠ c) (u : Sc) : SC (putS w c u) b x := by
  have e := putS_heap w c u hbc
  have g : ∀ k, (putS w c u).cell? ⟨b, k, none⟩ = w.cell? ⟨b, k, none⟩ := fun k => World.cell?_of_block (w := w) (a := ⟨b, k, none⟩) e
  have f : ∀ k, (putS w c u).frozen? ⟨b, k, none⟩ = w.frozen? ⟨b, k, none⟩ := fun k => World.frozen?_of_block (w := w) (a := ⟨b, k, none⟩) e
  exact ⟨by rw [putS_size]; exact h.lt, (g 0).trans h.c0, (g 1).trans h.c1, (g 2).trans h.c2, (g 3).trans h.c3, (f 0).trans h.f0, (f 1).trans h.f1, (f 2).trans h.f2, (f 3).trans h.f3⟩
theorem bel_alloc {w u : World} {o : Obj} (h : Below w.heap.size w u) : Below w.heap.size w (u.alloc o) := h.alloc h.size o
/-- Two scalars held against each other. -/
theorem eq_sc (x y : Sc) (W : World) : (binOp .eql 39 (sv x) (sv y)).run Tryz.prog W = .ok (.bool (x == y)) W := by
  obtain ⟨⟨a, b⟩, c, d⟩ := x
  obtain ⟨⟨a', b'⟩, c', d'⟩ := y
  unfold sv
  have e : (((a, b), c, d) == ((a', b'), c', d') : Bool) = (((a == a') && (b == b')) && ((c == c') && (d == d'))) := rfl
  rw [e]
  go_simp
  by_cases h1 : a = a' <;> by_cases h2 : b = b' <;> by_cases h3 : c = c' <;> by_cases h4 : d = d' <;> simp [h1, h2, h3, h4]
set_option maxHeartbeats 4000000 in
theorem cSharp_any (x : Sc) (w : World) : Calls Tryz.prog 226 #[sv x] w fun e w' => e = .returned (.tuple #[sv (if scOk x = true then scN x else sc0), .bool (scOk x)]) ∧ Below w.heap.size w w' := by
  have X1 := fun W => sMeet_any x.2 (hull x.1) W
  have X2 := fun W => tRange_any (endsP x).1 (endsP x).2 W
  have X3 := fun W => tMeet_any x.1 (rgX x) W
  change ∀ W, Calls Tryz.prog _ #[tv x.2, tv (x.1.1, x.1.1 ||| x.1.2)] W fun e w' => e = .returned (.tuple #[tv (if mayS (endsP x) = true then endsP x else t0), .bool (mayS (endsP x))]) ∧ Below W.heap.size W w' at X1
  obtain ⟨R, HR⟩ : ∃ R, R = (if scOk x = true then scN x else sc0) := ⟨_, rfl⟩
  rw [← HR]
  unfold scOk at HR ⊢
  cases hm : mayS (endsP x)
  · rw [hm, if_neg (by decide)] at X1
    rw [hm, Bool.false_and, if_neg (by decide)] at HR
    rw [Bool.false_and]
    subst HR
    clear X2 X3 hm
    obtain ⟨⟨v, m⟩, l, h⟩ := x
    unfold tv at X1
    dsimp only at X1
    replace X1 := hid X1
    unfold sv
    go_enter Tryz.func226, Tryz.ntmps226
    go_wp2_with fail
    refine (X1.out _).mono ?_
    rintro e w1 ⟨rfl, z⟩
    have JX : SC w1 (w.heap.size) (((v, m), l, h)) := ((SC.new rfl).alloc _).below z
    have JR : SC w1 (w.heap.size + 1) (sc0) := (SC.new (by simp)).below z
    have B := below_next (bel_alloc (bel_alloc (Below.refl w.heap.size w))) z
    clear z
    have JX0 := JX.c0
    have JX1 := JX.c1
    have JX2 := JX.c2
    have JX3 := JX.c3
    have JXl := JX.lt
    have JR0 := JR.c0
    have JR1 := JR.c1
    have JR2 := JR.c2
    have JR3 := JR.c3
    have JRl := JR.lt
    have JRf0 := JR.f0
    have JRf1 := JR.f1
    have JRf2 := JR.f2
    have JRf3 := JR.f3
    have lb := B.size
    go_wp2
    exact bodyPost_ret (v := .tuple #[sv sc0, .bool false]) (by simp [results, Tryz.results226, go_sem, JX0, JX1, JX2, JX3, JXl, JR0, JR1, JR2, JR3, JRl]; try rfl) rfl ⟨rfl, bel_alloc (putS_below sc0 B (by omega))⟩
  · rw [hm, if_pos rfl] at X1
    rw [hm, Bool.true_and] at HR
    rw [Bool.true_and]
    have hle : ¬ ub (endsP x).2 < ub (endsP x).1 := by
      unfold mayS at hm
      rw [decide_eq_true_eq] at hm
      unfold ub; omega
    have hr : rangeT (endsP x).1 (endsP x).2 = rgX x := by unfold rangeT; rw [if_neg hle]; rfl
    rw [hr] at X2
    generalize rangeE (endsP x).1 (endsP x).2 = E at X2
    clear hr hle hm
    cases hk : meetB x.1 (rgX x)
    · rw [hk, if_neg (by decide)] at X3
      rw [hk, if_neg (by decide)] at HR
      subst HR
      generalize endsP x = P at *
      generalize rgX x = Q at *
      clear hk
      obtain ⟨⟨v, m⟩, l, h⟩ := x
      unfold tv at X1 X2 X3
      dsimp only at X1 X2 X3
      replace X1 := hid X1
      replace X2 := hid X2
      replace X3 := hid X3
      unfold sv
      go_enter Tryz.func226, Tryz.ntmps226
      go_wp2_with fail
      refine (X1.out _).mono ?_
      rintro e w1 ⟨rfl, z⟩
      have JX : SC w1 (w.heap.size) (((v, m), l, h)) := ((SC.new rfl).alloc _).below z
      have JR : SC w1 (w.heap.size + 1) (sc0) := (SC.new (by simp)).below z
      have B := below_next (bel_alloc (bel_alloc (Below.refl w.heap.size w))) z
      clear z
      have JX0 := JX.c0
      have JX1 := JX.c1
      have JX2 := JX.c2
      have JX3 := JX.c3
      have JXl := JX.lt
      have JR0 := JR.c0
      have JR1 := JR.c1
      have JR2 := JR.c2
      have JR3 := JR.c3
      have JRl := JR.lt
      have JRf0 := JR.f0
      have JRf1 := JR.f1
      have JRf2 := JR.f2
      have JRf3 := JR.f3
      have lb := B.size
      go_wp2_with fail
      refine (X2.out _).mono ?_
      rintro e w2 ⟨rfl, z⟩
      clear JX0 JX1 JX2 JX3 JXl JR0 JR1 JR2 JR3 JRl JRf0 JRf1 JRf2 JRf3 lb
      replace JX := (JX.alloc _).below z
      replace JR := (JR.alloc _).below z
      have JP : BC w2 (w1.heap.size) (P) := (BC.new rfl).below z
      replace B := below_next (bel_alloc B) z
      clear z
      have JX0 := JX.c0
      have JX1 := JX.c1
      have JX2 := JX.c2
      have JX3 := JX.c3
      have JXl := JX.lt
      have JR0 := JR.c0
      have JR1 := JR.c1
      have JR2 := JR.c2
      have JR3 := JR.c3
      have JRl := JR.lt
      have JRf0 := JR.f0
      have JRf1 := JR.f1
      have JRf2 := JR.f2
      have JRf3 := JR.f3
      have JP0 := JP.c0
      have JP1 := JP.c1
      have JPl := JP.lt
      have lb := B.size
      go_wp2_with fail
      refine (X3.out _).mono ?_
      rintro e w3 ⟨rfl, z⟩
      clear JX0 JX1 JX2 JX3 JXl JR0 JR1 JR2 JR3 JRl JRf0 JRf1 JRf2 JRf3 JP0 JP1 JPl lb
      replace JX := (JX.alloc _).below z
      replace JR := (JR.alloc _).below z
      replace JP := (JP.alloc _).below z
      have JQ : BC w3 (w2.heap.size) (Q) := (BC.new rfl).below z
      replace B := below_next (bel_alloc B) z
      clear z
      have JX0 := JX.c0
      have JX1 := JX.c1
      have JX2 := JX.c2
      have JX3 := JX.c3
      have JXl := JX.lt
      have JR0 := JR.c0
      have JR1 := JR.c1
      have JR2 := JR.c2
      have JR3 := JR.c3
      have JRl := JR.lt
      have JRf0 := JR.f0
      have JRf1 := JR.f1
      have JRf2 := JR.f2
      have JRf3 := JR.f3
      have JP0 := JP.c0
      have JP1 := JP.c1
      have JPl := JP.lt
      have JQ0 := JQ.c0
      have JQ1 := JQ.c1
      have JQl := JQ.lt
      have lb := B.size
      go_wp2
      exact bodyPost_ret (v := .tuple #[sv sc0, .bool false]) (by simp [results, Tryz.results226, go_sem, JX0, JX1, JX2, JX3, JXl, JR0, JR1, JR2, JR3, JRl, JP0, JP1, JPl, JQ0, JQ1, JQl]; try rfl) rfl ⟨rfl, bel_alloc (putS_below sc0 B (by omega))⟩
    · rw [hk, if_pos rfl] at X3
      rw [hk, if_pos rfl] at HR
      have hR : R = (meetT x.1 (rgX x), endsP x) := HR
      clear HR
      subst hR
      generalize meetT x.1 (rgX x) = M at *
      generalize endsP x = P at *
      generalize rgX x = Q at *
      clear hk
      obtain ⟨⟨v, m⟩, l, h⟩ := x
      unfold tv at X1 X2 X3
      dsimp only at X1 X2 X3
      replace X1 := hid X1
      replace X2 := hid X2
      replace X3 := hid X3
      unfold sv
      go_enter Tryz.func226, Tryz.ntmps226
      go_wp2_with fail
      refine (X1.out _).mono ?_
      rintro e w1 ⟨rfl, z⟩
      have JX : SC w1 (w.heap.size) (((v, m), l, h)) := ((SC.new rfl).alloc _).below z
      have JR : SC w1 (w.heap.size + 1) (sc0) := (SC.new (by simp)).below z
      have B := below_next (bel_alloc (bel_alloc (Below.refl w.heap.size w))) z
      clear z
      have JX0 := JX.c0
      have JX1 := JX.c1
      have JX2 := JX.c2
      have JX3 := JX.c3
      have JXl := JX.lt
      have JR0 := JR.c0
      have JR1 := JR.c1
      have JR2 := JR.c2
      have JR3 := JR.c3
      have JRl := JR.lt
      have JRf0 := JR.f0
      have JRf1 := JR.f1
      have JRf2 := JR.f2
      have JRf3 := JR.f3
      have lb := B.size
      go_wp2_with fail
      refine (X2.out _).mono ?_
      rintro e w2 ⟨rfl, z⟩
      clear JX0 JX1 JX2 JX3 JXl JR0 JR1 JR2 JR3 JRl JRf0 JRf1 JRf2 JRf3 lb
      replace JX := (JX.alloc _).below z
      replace JR := (JR.alloc _).below z
      have JP : BC w2 (w1.heap.size) (P) := (BC.new rfl).below z
      replace B := below_next (bel_alloc B) z
      clear z
      have JX0 := JX.c0
      have JX1 := JX.c1
      have JX2 := JX.c2
      have JX3 := JX.c3
      have JXl := JX.lt
      have JR0 := JR.c0
      have JR1 := JR.c1
      have JR2 := JR.c2
      have JR3 := JR.c3
      have JRl := JR.lt
      have JRf0 := JR.f0
      have JRf1 := JR.f1
      have JRf2 := JR.f2
      have JRf3 := JR.f3
      have JP0 := JP.c0
      have JP1 := JP.c1
      have JPl := JP.lt
      have lb := B.size
      go_wp2_with fail
      refine (X3.out _).mono ?_
      rintro e w3 ⟨rfl, z⟩
      clear JX0 JX1 JX2 JX3 JXl JR0 JR1 JR2 JR3 JRl JRf0 JRf1 JRf2 JRf3 JP0 JP1 JPl lb
      replace JX := (JX.alloc _).below z
      replace JR := (JR.alloc _).below z
      replace JP := (JP.alloc _).below z
      have JQ : BC w3 (w2.heap.size) (Q) := (BC.new rfl).below z
      replace B := below_next (bel_alloc B) z
      clear z
      have JX0 := JX.c0
      have JX1 := JX.c1
      have JX2 := JX.c2
      have JX3 := JX.c3
      have JXl := JX.lt
      have JR0 := JR.c0
      have JR1 := JR.c1
      have JR2 := JR.c2
      have JR3 := JR.c3
      have JRl := JR.lt
      have JRf0 := JR.f0
      have JRf1 := JR.f1
      have JRf2 := JR.f2
      have JRf3 := JR.f3
      have JP0 := JP.c0
      have JP1 := JP.c1
      have JPl := JP.lt
      have JQ0 := JQ.c0
      have JQ1 := JQ.c1
      have JQl := JQ.lt
      have lb := B.size
      go_wp2
      exact bodyPost_ret (v := .tuple #[sv (M, P), .bool true]) (by simp [results, Tryz.results226, go_sem, JX0, JX1, JX2, JX3, JXl, JR0, JR1, JR2, JR3, JRl, JP0, JP1, JPl, JQ0, JQ1, JQl]; try rfl) rfl ⟨rfl, bel_alloc (putS_below (M, P) B (by omega))⟩
end Go.Proofs.YtjcnpjidkimldaaGreatDoor

namespace Go.Proofs.YtjcnpjidkimldaaGreatDoor
set_option linter.unusedSimpArgs false
set_option linter.unusedVariables false
set_option maxRecDepth 100000
open Go.ChangeShapes Go.WideShapes Go.ChangeAt Go.RowKit

def cB (w : World) (b o : Nat) : B64 := match w.cell? ⟨b, o, none⟩ with
  | some (.int _ n) => BitVec.ofNat 64 n.toNat
  | _ => 0#64
def muW (w : World) (b : Nat) : Nat := mu ((cB w b 0, cB w b 1), (cB w b 2, cB w b 3))
theorem of_ub (x : B64) : BitVec.ofNat 64 (ub x).toNat = x := by rw [ub_nat]; simp
theorem muW_is {w : World} {b : Nat} {x : Sc} (h : SC w b x) : muW w b = mu x := by
  unfold muW cB
  rw [h.c0, h.c1, h.c2, h.c3]
  dsimp only
  rw [of_ub, of_ub, of_ub, of_ub]
/-- What lies in Settle's memory between two rounds. -/
structure SeI (w : World) (y : Sc) (wr : World) : Prop where
  res : SC wr (w.heap.size + 1 + 1) sc0
  was : SC wr (w.heap.size + 1 + 1 + 1) y
  bel : Below w.heap.size w wr
theorem SeI.start (w : World) (t s : Tn) (t1 t2 t3 t4 : TypeId) : SeI w (t, s) ((((w.alloc (.cells #[.int .u64 (ub t.1), .int .u64 (ub t.2)] t1)).alloc (.cells #[.int .u64 (ub s.1), .int .u64 (ub s.2)] t2)).alloc (.cells #[.int .u64 0, .int .u64 0, .int .u64 0, .int .u64 0] t3)).alloc (.cells #[.int .u64 (ub t.1), .int .u64 (ub t.2), .int .u64 (ub s.1), .int .u64 (ub s.2)] t4)) :=
  ⟨(SC.new (x := sc0) (by simp)).alloc _, SC.new (x := (t, s)) (by simp), bel_alloc (bel_alloc (bel_alloc (bel_alloc (Below.refl _ _))))⟩
theorem SeI.next {w : World} {y : Sc} {wr w' : World} (h : SeI w y wr) (hb : Below wr.heap.size wr w') : SeI w y w' :=
  ⟨h.res.below hb, h.was.below hb, h.bel.trans (hb.mono h.bel.size)⟩
theorem SeI.put {w : World} {y : Sc} {wr : World} (h : SeI w y wr) (u : Sc) : SeI w u (putS wr (w.heap.size + 1 + 1 + 1) u) :=
  ⟨h.res.other (by omega) u, h.was.put u, putS_below u h.bel (by omega)⟩
def optS (o : Option Sc) : Sc := o.getD sc0
set_option maxHeartbeats 4000000 in
theorem cSettle_any (t s : Tn) (w : World) : Calls Tryz.prog 168 #[tv t, tv s] w fun e w' => e = .returned (.tuple #[sv (optS (settle (t, s))), .bool (settle (t, s)).isSome]) ∧ Below w.heap.size w w' := by
  have XS := hid fun (y : Sc) (W : World) => cSharp_any y W
  have EQ := hid fun (x y : Sc) (W : World) => eq_sc x y W
  have I0 := SeI.start w t s 35 37 39 39
  obtain ⟨Z, HZ⟩ : ∃ Z, Z = settle (t, s) := ⟨_, rfl⟩
  rw [← HZ]
  have HI0 : Hid (SeI w (t, s) _ ∧ settle (t, s) = Z) := hid ⟨I0, HZ.symm⟩
  clear I0 HZ
  generalize hx0 : ((t, s) : Sc) = x0 at HI0
  clear hx0
  unfold tv
  go_enter Tryz.func168, Tryz.ntmps168
  go_wp2_with fail
  go_loopw [8] (fun v wr => ∃ y : Sc, Hid (SeI w y wr ∧ settle y = Z) ∧ v = v) (fun _ wr => muW wr (w.heap.size + 1 + 1 + 1))
  case atStart => exact ⟨x0, HI0, rfl⟩
  case round =>
    obtain ⟨y, HI, _⟩ := hrel
    obtain ⟨wo, rfl⟩ : ∃ wo : World, wo = wr := ⟨_, rfl⟩
    have hs := settle_step y
    rw [HI.out.2] at hs
    have hm := muW_is HI.out.1.was
    have X := fun W => cSharp_any y W
    clear XS HI0
    cases ho : scOk y
    · rw [ho, if_neg (by decide)] at hs X
      subst hs
      unfold sv at X
      replace X := hid X
      have qc0 := HI.out.1.was.c0
      have qc1 := HI.out.1.was.c1
      have qc2 := HI.out.1.was.c2
      have qc3 := HI.out.1.was.c3
      have qlt := HI.out.1.was.lt
      have qf0 := HI.out.1.was.f0
      have qf1 := HI.out.1.was.f1
      have qf2 := HI.out.1.was.f2
      have qf3 := HI.out.1.was.f3
      have rc0 := HI.out.1.res.c0
      have rc1 := HI.out.1.res.c1
      have rc2 := HI.out.1.res.c2
      have rc3 := HI.out.1.res.c3
      have rlt := HI.out.1.res.lt
      have rf0 := HI.out.1.res.f0
      have rf1 := HI.out.1.res.f1
      have rf2 := HI.out.1.res.f2
      have rf3 := HI.out.1.res.f3
      go_wp2_with fail
      refine (X.out _).mono ?_
      rintro e w1 ⟨rfl, z⟩
      clear qc0 qc1 qc2 qc3 qlt qf0 qf1 qf2 qf3 rc0 rc1 rc2 rc3 rlt rf0 rf1 rf2 rf3
      have I1 := HI.out.1.next z
      clear z
      have qc0 := I1.was.c0
      have qc1 := I1.was.c1
      have qc2 := I1.was.c2
      have qc3 := I1.was.c3
      have qlt := I1.was.lt
      have qf0 := I1.was.f0
      have qf1 := I1.was.f1
      have qf2 := I1.was.f2
      have qf3 := I1.was.f3
      have rc0 := I1.res.c0
      have rc1 := I1.res.c1
      have rc2 := I1.res.c2
      have rc3 := I1.res.c3
      have rlt := I1.res.lt
      have rf0 := I1.res.f0
      have rf1 := I1.res.f1
      have rf2 := I1.res.f2
      have rf3 := I1.res.f3
      go_wp2
      exact bodyPost_ret (v := .tuple #[sv sc0, .bool false]) (by simp [results, Tryz.results168, go_sem, rc0, rc1, rc2, rc3, rlt]; try rfl) rfl ⟨rfl, bel_alloc (putS_below sc0 I1.bel (by omega))⟩
    · rw [ho, if_pos rfl] at hs X
      have hlt := fun h => mu_lt ho (x := y) h
      generalize scN y = r at hs X hlt
      have E := fun W => eq_sc r y W
      unfold sv at X E
      cases hq : (r == y)
      · rw [hq] at E
        have hne : ¬ r = y := by intro h; rw [h, beq_self_eq_true] at hq; cases hq
        rw [if_neg hne] at hs
        replace X := hid X
        have qc0 := HI.out.1.was.c0
        have qc1 := HI.out.1.was.c1
        have qc2 := HI.out.1.was.c2
        have qc3 := HI.out.1.was.c3
        have qlt := HI.out.1.was.lt
        have qf0 := HI.out.1.was.f0
        have qf1 := HI.out.1.was.f1
        have qf2 := HI.out.1.was.f2
        have qf3 := HI.out.1.was.f3
        have rc0 := HI.out.1.res.c0
        have rc1 := HI.out.1.res.c1
        have rc2 := HI.out.1.res.c2
        have rc3 := HI.out.1.res.c3
        have rlt := HI.out.1.res.lt
        have rf0 := HI.out.1.res.f0
        have rf1 := HI.out.1.res.f1
        have rf2 := HI.out.1.res.f2
        have rf3 := HI.out.1.res.f3
        go_wp2_with fail
        refine (X.out _).mono ?_
        rintro e w1 ⟨rfl, z⟩
        clear qc0 qc1 qc2 qc3 qlt qf0 qf1 qf2 qf3 rc0 rc1 rc2 rc3 rlt rf0 rf1 rf2 rf3
        have I1 := HI.out.1.next z
        clear z
        have qc0 := I1.was.c0
        have qc1 := I1.was.c1
        have qc2 := I1.was.c2
        have qc3 := I1.was.c3
        have qlt := I1.was.lt
        have qf0 := I1.was.f0
        have qf1 := I1.was.f1
        have qf2 := I1.was.f2
        have qf3 := I1.was.f3
        have rc0 := I1.res.c0
        have rc1 := I1.res.c1
        have rc2 := I1.res.c2
        have rc3 := I1.res.c3
        have rlt := I1.res.lt
        have rf0 := I1.res.f0
        have rf1 := I1.res.f1
        have rf2 := I1.res.f2
        have rf3 := I1.res.f3
        go_wp2
        go_roundw
        case rel => exact ⟨r, hid ⟨(I1.put r).next ((Below.refl _ _).alloc (Nat.le_refl _) _), hs.symm⟩, trivial⟩
        case measure =>
          have := muW_is ((I1.put r).next ((Below.refl _ _).alloc (Nat.le_refl _) (.cells #[.int .u64 (ub r.1.1), .int .u64 (ub r.1.2), .int .u64 (ub r.2.1), .int .u64 (ub r.2.2)] 39))).was
          unfold putS at this
          rw [hm, this]
          exact hlt hne
      · rw [hq] at E
        have he : r = y := by rw [beq_iff_eq] at hq; exact hq
        subst he
        rw [if_pos rfl] at hs
        subst hs
        replace X := hid X
        have qc0 := HI.out.1.was.c0
        have qc1 := HI.out.1.was.c1
        have qc2 := HI.out.1.was.c2
        have qc3 := HI.out.1.was.c3
        have qlt := HI.out.1.was.lt
        have qf0 := HI.out.1.was.f0
        have qf1 := HI.out.1.was.f1
        have qf2 := HI.out.1.was.f2
        have qf3 := HI.out.1.was.f3
        have rc0 := HI.out.1.res.c0
        have rc1 := HI.out.1.res.c1
        have rc2 := HI.out.1.res.c2
        have rc3 := HI.out.1.res.c3
        have rlt := HI.out.1.res.lt
        have rf0 := HI.out.1.res.f0
        have rf1 := HI.out.1.res.f1
        have rf2 := HI.out.1.res.f2
        have rf3 := HI.out.1.res.f3
        go_wp2_with fail
        refine (X.out _).mono ?_
        rintro e w1 ⟨rfl, z⟩
        clear qc0 qc1 qc2 qc3 qlt qf0 qf1 qf2 qf3 rc0 rc1 rc2 rc3 rlt rf0 rf1 rf2 rf3
        have I1 := HI.out.1.next z
        clear z
        have qc0 := I1.was.c0
        have qc1 := I1.was.c1
        have qc2 := I1.was.c2
        have qc3 := I1.was.c3
        have qlt := I1.was.lt
        have qf0 := I1.was.f0
        have qf1 := I1.was.f1
        have qf2 := I1.was.f2
        have qf3 := I1.was.f3
        have rc0 := I1.res.c0
        have rc1 := I1.res.c1
        have rc2 := I1.res.c2
        have rc3 := I1.res.c3
        have rlt := I1.res.lt
        have rf0 := I1.res.f0
        have rf1 := I1.res.f1
        have rf2 := I1.res.f2
        have rf3 := I1.res.f3
        go_wp2
        exact bodyPost_ret (v := .tuple #[sv r, .bool true]) (by simp [results, Tryz.results168, go_sem, rc0, rc1, rc2, rc3, rlt]; try rfl) rfl ⟨rfl, bel_alloc (putS_below r I1.bel (by omega))⟩
end Go.Proofs.YtjcnpjidkimldaaGreatDoor
