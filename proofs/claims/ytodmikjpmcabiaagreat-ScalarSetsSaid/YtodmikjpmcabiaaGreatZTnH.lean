/-
  Contracts of package tnum's Mul and Meet, as the landed code has them.
-/
import Derived.Test.YtodmikjpmcabiaaGreatZTnG
namespace Go.Proofs.YtodmikjpmcabiaaGreat
set_option linter.unusedSimpArgs false
set_option linter.unusedVariables false
set_option maxRecDepth 100000
open Go.ChangeShapes Go.WideShapes Go.ChangeAt Go.RowKit

theorem mulN_any (p q : Nat) (a b : Tn) (w : World) (ha : TC w p a) (hb : TC w q b) : Calls Tryz.prog 131 #[.pointer (some ⟨q, 0, none⟩), .pointer (some ⟨p, 0, none⟩)] w fun e w' => e = .returned (tv (mulT a b)) ∧ Below w.heap.size w w' := cMul p q a b w ha hb
theorem tMul_any (a b : Tn) (w : World) : Calls Tryz.prog 102 #[tv a, tv b] w fun e w' => e = .returned (.tuple #[tv (bothT a b (mulT a b)), .int .i64 (bothE a b)]) ∧ Below w.heap.size w w' := by
  obtain ⟨R, HR⟩ : ∃ R, R = bothT a b (mulT a b) := ⟨_, rfl⟩
  rw [← HR]
  have HH := fun (p q : Nat) (w : World) (ha : TC w p a) (hb : TC w q b) => both_any a b (mulT a b) 131 #[.pointer (some ⟨q, 0, none⟩), .pointer (some ⟨p, 0, none⟩)] w (fun _ _ => by kernel_rfl) (fun W hW _ _ => mulN_any p q a b W (ha.below hW) (hb.below hW))
  rw [← HR] at HH
  have HX := hid HH
  clear HH HR
  generalize bothE a b = E at *
  unfold tv at HX ⊢
  go_enter Tryz.func102, Tryz.ntmps102
  go_wp2_with fail
  refine Calls.mono (HX.out w.heap.size (w.heap.size + 1) _ ?_ ?_) ?_
  · exact ((TC.new rfl).alloc _).alloc _
  · exact (TC.new (by simp)).alloc _
  rintro e w1 ⟨rfl, b1⟩
  have hb : Below w.heap.size w w1 := (((((Below.refl _ _).alloc (Nat.le_refl _) _).alloc (by simp) _).alloc (by simp; omega) _).trans (b1.mono (by simp; omega)))
  obtain ⟨hc, hf⟩ := bcell b1
  have hz : w.heap.size + 1 + 1 < w1.heap.size := by have := b1.size; simp at this; omega
  have HB := hid hb
  clear b1 hb
  go_wp2
  refine bodyPost_ret (v := .tuple #[.agg #[.int .u64 (ub R.1), .int .u64 (ub R.2)], .int .i64 E]) (by simp [results, Tryz.results102, go_sem, hc, hz]; try rfl) rfl ⟨rfl, ?_⟩
  exact (HB.out.setCell (by simp; omega) _).setCell (by simp; omega) _
def meetB (a b : Tn) : Bool := tmay a && tmay b && tin (meetT a b) a && tin (meetT a b) b
theorem tMeet_any (a b : Tn) (w : World) : Calls Tryz.prog 45 #[tv a, tv b] w fun e w' => e = .returned (.tuple #[tv (if meetB a b then meetT a b else t0), .bool (meetB a b)]) ∧ Below w.heap.size w w' := by
  have HH := fun (p q : Nat) (w : World) (ha : TC w p a) (hb : TC w q b) => both_any a b (meetT a b) 83 #[.pointer (some ⟨p, 0, none⟩), .pointer (some ⟨q, 0, none⟩)] w (fun _ _ => by kernel_rfl) (fun W hW _ _ => cMeet p q a b W (ha.below hW) (hb.below hW))
  have HI1 := fun W => tIn_any (meetT a b) a W
  have HI2 := fun W => tIn_any (meetT a b) b W
  unfold bothT bothE at HH
  unfold meetB
  generalize meetT a b = R at *
  cases hm : (tmay a && tmay b)
  · rw [hm] at HH
    obtain ⟨V, hV⟩ : ∃ V, V = (if (false && tin R a && tin R b) = true then R else t0) := ⟨_, rfl⟩
    rw [← hV]
    obtain rfl : V = t0 := hV
    have hB : (false && tin R a && tin R b) = false := rfl
    rw [hB]
    have HX := hid HH
    clear HH HI1 HI2 hm hB
    simp only [Bool.false_eq_true, if_false] at HX
    unfold tv at HX ⊢
    go_enter Tryz.func45, Tryz.ntmps45
    go_wp2_with fail
    refine Calls.mono (HX.out w.heap.size (w.heap.size + 1) _ ?_ ?_) ?_
    · exact ((TC.new rfl).alloc _).alloc _
    · exact (TC.new (by simp)).alloc _
    rintro e w1 ⟨rfl, b1⟩
    have hb : Below w.heap.size w w1 := (((((Below.refl _ _).alloc (Nat.le_refl _) _).alloc (by simp) _).alloc (by simp; omega) _).trans (b1.mono (by simp; omega)))
    obtain ⟨hc, hf⟩ := bcell b1
    have hz : w.heap.size + 1 + 1 < w1.heap.size := by have := b1.size; simp at this; omega
    have HB := hid hb
    clear b1 hb
    go_wp2
    refine bodyPost_ret (v := .tuple #[.agg #[.int .u64 0, .int .u64 0], .bool false]) (by simp [results, Tryz.results45, go_sem, hc, hz]; try rfl) rfl ⟨rfl, ?_⟩
    exact ((HB.out.setCell (by simp; omega) _).setCell (by simp; omega) _).alloc (by simp; omega) _
  rw [hm] at HH
  have HX := hid HH
  have H1 := hid HI1
  have H2 := hid HI2
  clear HH HI1 HI2 hm
  simp only [if_true] at HX
  unfold tv at HX H1 H2
  cases h1 : tin R a
  · rw [h1] at H1
    clear h1
    obtain ⟨V, hV⟩ : ∃ V, V = (if (true && false && tin R b) = true then R else t0) := ⟨_, rfl⟩
    rw [← hV]
    obtain rfl : V = t0 := hV
    rw [show (true && false && tin R b) = false from rfl]
    clear H2
    unfold tv
    go_enter Tryz.func45, Tryz.ntmps45
    go_wp2_with fail
    refine Calls.mono (HX.out w.heap.size (w.heap.size + 1) _ ?_ ?_) ?_
    · exact ((TC.new rfl).alloc _).alloc _
    · exact (TC.new (by simp)).alloc _
    rintro e w1 ⟨rfl, b1⟩
    have hb : Below w.heap.size w w1 := (((((Below.refl _ _).alloc (Nat.le_refl _) _).alloc (by simp) _).alloc (by simp; omega) _).trans (b1.mono (by simp; omega)))
    have F1 : TC w1 w.heap.size a := (((TC.new rfl).alloc _).alloc _).below b1
    have F2 : TC w1 (w.heap.size + 1) b := ((TC.new (by simp)).alloc _).below b1
    have F3 : TB w1 (w.heap.size + 1 + 1) t0 := (TB.new (a := t0) (by simp)).below b1
    have G1 := F1.alloc (.cells #[.int .u64 (ub R.1), .int .u64 (ub R.2)] 24)
    have G2 := F2.alloc (.cells #[.int .u64 (ub R.1), .int .u64 (ub R.2)] 24)
    have G3 := F3.below ((Below.refl _ _).alloc (Nat.le_refl _) (.cells #[.int .u64 (ub R.1), .int .u64 (ub R.2)] 24))
    have G4 : TC (w1.alloc (.cells #[.int .u64 (ub R.1), .int .u64 (ub R.2)] 24)) w1.heap.size R := TC.new rfl
    have G5 := hb.alloc hb.size (.cells #[.int .u64 (ub R.1), .int .u64 (ub R.2)] 24)
    have k1 := F1.1
    have k2 := F2.1
    have k3 := F3.1.1
    have x1 := F1.2.1
    have x2 := F1.2.2
    clear F1 F2 F3 b1 hb
    go_wp2_with fail
    refine (H1.out _).mono ?_
    rintro e w2 ⟨rfl, b2⟩
    replace G1 := G1.below b2
    replace G2 := G2.below b2
    replace G3 := G3.below b2
    replace G4 := G4.below b2
    replace G5 := G5.trans (b2.mono G5.size)
    clear x1 x2 k1 k2 k3 b2
    generalize w1.heap.size = g at G4 ⊢
    have y1 := G3.1.2.1
    have y2 := G3.1.2.2
    have y3 := G3.2.1
    have y4 := G3.2.2
    have y5 := G3.1.1
    have z1 := G4.2.1
    have z2 := G4.2.2
    have HB := hid G5
    clear G1 G2 G3 G4 G5
    go_wp2
    refine bodyPost_ret (v := .tuple #[.agg #[.int .u64 0, .int .u64 0], .bool false]) (by simp [results, Tryz.results45, go_sem, y1, y2, y5]; try rfl) rfl ⟨rfl, ?_⟩
    exact (HB.out.setCell (by simp; omega) _).setCell (by simp; omega) _
  rw [h1] at H1
  clear h1
  cases h2 : tin R b
  · rw [h2] at H2
    clear h2
    obtain ⟨V, hV⟩ : ∃ V, V = (if (true && true && false) = true then R else t0) := ⟨_, rfl⟩
    rw [← hV]
    obtain rfl : V = t0 := hV
    rw [show (true && true && false) = false from rfl]
    unfold tv
    go_enter Tryz.func45, Tryz.ntmps45
    go_wp2_with fail
    refine Calls.mono (HX.out w.heap.size (w.heap.size + 1) _ ?_ ?_) ?_
    · exact ((TC.new rfl).alloc _).alloc _
    · exact (TC.new (by simp)).alloc _
    rintro e w1 ⟨rfl, b1⟩
    have hb : Below w.heap.size w w1 := (((((Below.refl _ _).alloc (Nat.le_refl _) _).alloc (by simp) _).alloc (by simp; omega) _).trans (b1.mono (by simp; omega)))
    have F1 : TC w1 w.heap.size a := (((TC.new rfl).alloc _).alloc _).below b1
    have F2 : TC w1 (w.heap.size + 1) b := ((TC.new (by simp)).alloc _).below b1
    have F3 : TB w1 (w.heap.size + 1 + 1) t0 := (TB.new (a := t0) (by simp)).below b1
    have G1 := F1.alloc (.cells #[.int .u64 (ub R.1), .int .u64 (ub R.2)] 24)
    have G2 := F2.alloc (.cells #[.int .u64 (ub R.1), .int .u64 (ub R.2)] 24)
    have G3 := F3.below ((Below.refl _ _).alloc (Nat.le_refl _) (.cells #[.int .u64 (ub R.1), .int .u64 (ub R.2)] 24))
    have G4 : TC (w1.alloc (.cells #[.int .u64 (ub R.1), .int .u64 (ub R.2)] 24)) w1.heap.size R := TC.new rfl
    have G5 := hb.alloc hb.size (.cells #[.int .u64 (ub R.1), .int .u64 (ub R.2)] 24)
    have k1 := F1.1
    have k2 := F2.1
    have k3 := F3.1.1
    have x1 := F1.2.1
    have x2 := F1.2.2
    clear F1 F2 F3 b1 hb
    go_wp2_with fail
    refine (H1.out _).mono ?_
    rintro e w2 ⟨rfl, b2⟩
    replace G1 := G1.below b2
    replace G2 := G2.below b2
    replace G3 := G3.below b2
    replace G4 := G4.below b2
    replace G5 := G5.trans (b2.mono G5.size)
    clear x1 x2 k1 k2 k3 b2
    generalize w1.heap.size = g at G4 ⊢
    have z1 := G4.2.1
    have z2 := G4.2.2
    have x1 := G2.2.1
    have x2 := G2.2.2
    go_wp2_with fail
    refine (H2.out _).mono ?_
    rintro e w3 ⟨rfl, b3⟩
    replace G3 := G3.below b3
    replace G4 := G4.below b3
    replace G5 := G5.trans (b3.mono G5.size)
    clear x1 x2 z1 z2 b3 G1 G2
    have G1 := trivial
    have G2 := trivial
    have y1 := G3.1.2.1
    have y2 := G3.1.2.2
    have y3 := G3.2.1
    have y4 := G3.2.2
    have y5 := G3.1.1
    have z1 := G4.2.1
    have z2 := G4.2.2
    have HB := hid G5
    clear G1 G2 G3 G4 G5
    go_wp2
    refine bodyPost_ret (v := .tuple #[.agg #[.int .u64 0, .int .u64 0], .bool false]) (by simp [results, Tryz.results45, go_sem, y1, y2, y5]; try rfl) rfl ⟨rfl, ?_⟩
    exact (HB.out.setCell (by simp; omega) _).setCell (by simp; omega) _
  · rw [h2] at H2
    clear h2
    obtain ⟨V, hV⟩ : ∃ V, V = (if (true && true && true) = true then R else t0) := ⟨_, rfl⟩
    rw [← hV]
    rw [show V = R from hV]
    clear hV
    rw [show (true && true && true) = true from rfl]
    unfold tv
    go_enter Tryz.func45, Tryz.ntmps45
    go_wp2_with fail
    refine Calls.mono (HX.out w.heap.size (w.heap.size + 1) _ ?_ ?_) ?_
    · exact ((TC.new rfl).alloc _).alloc _
    · exact (TC.new (by simp)).alloc _
    rintro e w1 ⟨rfl, b1⟩
    have hb : Below w.heap.size w w1 := (((((Below.refl _ _).alloc (Nat.le_refl _) _).alloc (by simp) _).alloc (by simp; omega) _).trans (b1.mono (by simp; omega)))
    have F1 : TC w1 w.heap.size a := (((TC.new rfl).alloc _).alloc _).below b1
    have F2 : TC w1 (w.heap.size + 1) b := ((TC.new (by simp)).alloc _).below b1
    have F3 : TB w1 (w.heap.size + 1 + 1) t0 := (TB.new (a := t0) (by simp)).below b1
    have G1 := F1.alloc (.cells #[.int .u64 (ub R.1), .int .u64 (ub R.2)] 24)
    have G2 := F2.alloc (.cells #[.int .u64 (ub R.1), .int .u64 (ub R.2)] 24)
    have G3 := F3.below ((Below.refl _ _).alloc (Nat.le_refl _) (.cells #[.int .u64 (ub R.1), .int .u64 (ub R.2)] 24))
    have G4 : TC (w1.alloc (.cells #[.int .u64 (ub R.1), .int .u64 (ub R.2)] 24)) w1.heap.size R := TC.new rfl
    have G5 := hb.alloc hb.size (.cells #[.int .u64 (ub R.1), .int .u64 (ub R.2)] 24)
    have k1 := F1.1
    have k2 := F2.1
    have k3 := F3.1.1
    have x1 := F1.2.1
    have x2 := F1.2.2
    clear F1 F2 F3 b1 hb
    go_wp2_with fail
    refine (H1.out _).mono ?_
    rintro e w2 ⟨rfl, b2⟩
    replace G1 := G1.below b2
    replace G2 := G2.below b2
    replace G3 := G3.below b2
    replace G4 := G4.below b2
    replace G5 := G5.trans (b2.mono G5.size)
    clear x1 x2 k1 k2 k3 b2
    generalize w1.heap.size = g at G4 ⊢
    have z1 := G4.2.1
    have z2 := G4.2.2
    have x1 := G2.2.1
    have x2 := G2.2.2
    go_wp2_with fail
    refine (H2.out _).mono ?_
    rintro e w3 ⟨rfl, b3⟩
    replace G3 := G3.below b3
    replace G4 := G4.below b3
    replace G5 := G5.trans (b3.mono G5.size)
    clear x1 x2 z1 z2 b3 G1 G2
    have G1 := trivial
    have G2 := trivial
    have y1 := G3.1.2.1
    have y2 := G3.1.2.2
    have y3 := G3.2.1
    have y4 := G3.2.2
    have y5 := G3.1.1
    have z1 := G4.2.1
    have z2 := G4.2.2
    have HB := hid G5
    clear G1 G2 G3 G4 G5
    go_wp2
    refine bodyPost_ret (v := .tuple #[.agg #[.int .u64 (ub R.1), .int .u64 (ub R.2)], .bool true]) (by simp [results, Tryz.results45, go_sem, y1, y2, y5]; try rfl) rfl ⟨rfl, ?_⟩
    exact (HB.out.setCell (by simp; omega) _).setCell (by simp; omega) _
end Go.Proofs.YtodmikjpmcabiaaGreat
