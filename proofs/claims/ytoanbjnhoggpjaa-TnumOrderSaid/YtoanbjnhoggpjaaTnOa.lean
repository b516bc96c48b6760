/-
  TnumOrder: where one of the three may not be.
-/
import Derived.Test.YtoanbjnhoggpjaaTnOp
import Derived.Test.YtoanbjnhoggpjaaTnW
import Derived.Test.YtoanbjnhoggpjaaHrT
namespace Go.Proofs.Ytoanbjnhoggpjaa
set_option linter.unusedSimpArgs false
set_option linter.unusedVariables false
open Go.ChangeShapes Go.WideShapes Go.ChangeAt Go.RowKit

set_option maxRecDepth 100000 in
set_option maxHeartbeats 8000000 in
theorem ord_na (a b c : Tn) (ha : tmay a = false) (w : World) : Calls Try.prog 11 #[tv a, tv b, tv c] w fun e w' => e = .returned (.bool true) ∧ Below w.heap.size w w' := by
  have HAW := hid awake_true
  have Ma : ∀ W, Calls Try.prog 43 #[tv a] W fun e w' => e = .returned (.bool false) ∧ Below W.heap.size W w' := fun W => ha ▸ tMay_any a W
  have I : ∀ W, Calls Try.prog 48 #[tv a, tv a] W fun e w' => e = .returned (.bool false) ∧ Below W.heap.size W w' := fun W => (show tin a a = false by unfold tin; rw [ha]; rfl) ▸ tIn_any a a W
  have FR : ∀ W, Calls Try.prog 49 #[tv a] W fun e w' => e = .returned (.int .i64 (-1)) ∧ Below W.heap.size W w' := fun W => by have := tFree_any a W; rwa [ha, if_neg (by decide)] at this
  unfold tv at Ma I FR ⊢
  replace Ma := hid Ma
  replace I := hid I
  replace FR := hid FR
  go_enter Try.func11, Try.ntmps11
  go_wp2_with fail
  refine (HAW.out _).mono ?_
  rintro e w1 ⟨rfl, z⟩
  have JA : TC w1 w.heap.size a := ((TC.new rfl).alloc _ |>.alloc _).below z
  have JB : TC w1 (w.heap.size + 1) b := ((TC.new (by simp)).alloc _).below z
  have JC : TC w1 (w.heap.size + 1 + 1) c := (TC.new (by simp)).below z
  have B : Below w.heap.size w w1 := ((((Below.refl _ _).alloc (Nat.le_refl _) _).alloc (by simp) _).alloc (by simp; omega) _).trans (z.mono (by simp; omega))
  clear z
  have JA0 := JA.2.1
  have JA1 := JA.2.2
  have JAl := JA.1
  have JB0 := JB.2.1
  have JB1 := JB.2.2
  have JBl := JB.1
  have JC0 := JC.2.1
  have JC1 := JC.2.2
  have JCl := JC.1
  have lB := B.size
  go_wp2_with fail
  refine (Ma.out _).mono ?_
  rintro e w2 ⟨rfl, z⟩
  clear JA0 JA1 JAl JB0 JB1 JBl JC0 JC1 JCl lB
  replace JA := JA.below z
  replace JB := JB.below z
  replace JC := JC.below z
  replace B := below_next B z
  clear z
  have JA0 := JA.2.1
  have JA1 := JA.2.2
  have JAl := JA.1
  have JB0 := JB.2.1
  have JB1 := JB.2.2
  have JBl := JB.1
  have JC0 := JC.2.1
  have JC1 := JC.2.2
  have JCl := JC.1
  have lB := B.size
  go_wp2_with fail
  refine (Ma.out _).mono ?_
  rintro e w3 ⟨rfl, z⟩
  clear JA0 JA1 JAl JB0 JB1 JBl JC0 JC1 JCl lB
  replace JA := JA.below z
  replace JB := JB.below z
  replace JC := JC.below z
  replace B := below_next B z
  clear z
  have JA0 := JA.2.1
  have JA1 := JA.2.2
  have JAl := JA.1
  have JB0 := JB.2.1
  have JB1 := JB.2.2
  have JBl := JB.1
  have JC0 := JC.2.1
  have JC1 := JC.2.2
  have JCl := JC.1
  have lB := B.size
  go_wp2_with fail
  refine (I.out _).mono ?_
  rintro e w4 ⟨rfl, z⟩
  clear JA0 JA1 JAl JB0 JB1 JBl JC0 JC1 JCl lB
  replace JA := JA.below z
  replace JB := JB.below z
  replace JC := JC.below z
  replace B := below_next B z
  clear z
  have JA0 := JA.2.1
  have JA1 := JA.2.2
  have JAl := JA.1
  have JB0 := JB.2.1
  have JB1 := JB.2.2
  have JBl := JB.1
  have JC0 := JC.2.1
  have JC1 := JC.2.2
  have JCl := JC.1
  have lB := B.size
  go_wp2_with fail
  refine (FR.out _).mono ?_
  rintro e w5 ⟨rfl, z⟩
  clear JA0 JA1 JAl JB0 JB1 JBl JC0 JC1 JCl lB
  replace JA := JA.below z
  replace JB := JB.below z
  replace JC := JC.below z
  replace B := below_next B z
  clear z
  have JA0 := JA.2.1
  have JA1 := JA.2.2
  have JAl := JA.1
  have JB0 := JB.2.1
  have JB1 := JB.2.2
  have JBl := JB.1
  have JC0 := JC.2.1
  have JC1 := JC.2.2
  have JCl := JC.1
  have lB := B.size
  go_wp2
  go_ret
  exact ⟨rfl, B⟩
set_option maxRecDepth 100000 in
set_option maxHeartbeats 8000000 in
theorem ord_nb (a b c : Tn) (ha : tmay a = true) (hb : tmay b = false) (w : World) : Calls Try.prog 11 #[tv a, tv b, tv c] w fun e w' => e = .returned (.bool true) ∧ Below w.heap.size w w' := by
  have HAW := hid awake_true
  have Ma : ∀ W, Calls Try.prog 43 #[tv a] W fun e w' => e = .returned (.bool true) ∧ Below W.heap.size W w' := fun W => ha ▸ tMay_any a W
  have Mb : ∀ W, Calls Try.prog 43 #[tv b] W fun e w' => e = .returned (.bool false) ∧ Below W.heap.size W w' := fun W => hb ▸ tMay_any b W
  unfold tv at Ma Mb ⊢
  replace Ma := hid Ma
  replace Mb := hid Mb
  go_enter Try.func11, Try.ntmps11
  go_wp2_with fail
  refine (HAW.out _).mono ?_
  rintro e w1 ⟨rfl, z⟩
  have JA : TC w1 w.heap.size a := ((TC.new rfl).alloc _ |>.alloc _).below z
  have JB : TC w1 (w.heap.size + 1) b := ((TC.new (by simp)).alloc _).below z
  have JC : TC w1 (w.heap.size + 1 + 1) c := (TC.new (by simp)).below z
  have B : Below w.heap.size w w1 := ((((Below.refl _ _).alloc (Nat.le_refl _) _).alloc (by simp) _).alloc (by simp; omega) _).trans (z.mono (by simp; omega))
  clear z
  have JA0 := JA.2.1
  have JA1 := JA.2.2
  have JAl := JA.1
  have JB0 := JB.2.1
  have JB1 := JB.2.2
  have JBl := JB.1
  have JC0 := JC.2.1
  have JC1 := JC.2.2
  have JCl := JC.1
  have lB := B.size
  go_wp2_with fail
  refine (Ma.out _).mono ?_
  rintro e w2 ⟨rfl, z⟩
  clear JA0 JA1 JAl JB0 JB1 JBl JC0 JC1 JCl lB
  replace JA := JA.below z
  replace JB := JB.below z
  replace JC := JC.below z
  replace B := below_next B z
  clear z
  have JA0 := JA.2.1
  have JA1 := JA.2.2
  have JAl := JA.1
  have JB0 := JB.2.1
  have JB1 := JB.2.2
  have JBl := JB.1
  have JC0 := JC.2.1
  have JC1 := JC.2.2
  have JCl := JC.1
  have lB := B.size
  go_wp2_with fail
  refine (Mb.out _).mono ?_
  rintro e w3 ⟨rfl, z⟩
  clear JA0 JA1 JAl JB0 JB1 JBl JC0 JC1 JCl lB
  replace JA := JA.below z
  replace JB := JB.below z
  replace JC := JC.below z
  replace B := below_next B z
  clear z
  have JA0 := JA.2.1
  have JA1 := JA.2.2
  have JAl := JA.1
  have JB0 := JB.2.1
  have JB1 := JB.2.2
  have JBl := JB.1
  have JC0 := JC.2.1
  have JC1 := JC.2.2
  have JCl := JC.1
  have lB := B.size
  go_wp2_with fail
  refine (Ma.out _).mono ?_
  rintro e w4 ⟨rfl, z⟩
  clear JA0 JA1 JAl JB0 JB1 JBl JC0 JC1 JCl lB
  replace JA := JA.below z
  replace JB := JB.below z
  replace JC := JC.below z
  replace B := below_next B z
  clear z
  have JA0 := JA.2.1
  have JA1 := JA.2.2
  have JAl := JA.1
  have JB0 := JB.2.1
  have JB1 := JB.2.2
  have JBl := JB.1
  have JC0 := JC.2.1
  have JC1 := JC.2.2
  have JCl := JC.1
  have lB := B.size
  go_wp2
  go_ret
  exact ⟨rfl, B⟩
set_option maxRecDepth 100000 in
set_option maxHeartbeats 8000000 in
theorem ord_nc (a b c : Tn) (ha : tmay a = true) (hb : tmay b = true) (hc : tmay c = false) (w : World) : Calls Try.prog 11 #[tv a, tv b, tv c] w fun e w' => e = .returned (.bool true) ∧ Below w.heap.size w w' := by
  have HAW := hid awake_true
  have Ma : ∀ W, Calls Try.prog 43 #[tv a] W fun e w' => e = .returned (.bool true) ∧ Below W.heap.size W w' := fun W => ha ▸ tMay_any a W
  have Mb : ∀ W, Calls Try.prog 43 #[tv b] W fun e w' => e = .returned (.bool true) ∧ Below W.heap.size W w' := fun W => hb ▸ tMay_any b W
  have Mc : ∀ W, Calls Try.prog 43 #[tv c] W fun e w' => e = .returned (.bool false) ∧ Below W.heap.size W w' := fun W => hc ▸ tMay_any c W
  unfold tv at Ma Mb Mc ⊢
  replace Ma := hid Ma
  replace Mb := hid Mb
  replace Mc := hid Mc
  go_enter Try.func11, Try.ntmps11
  go_wp2_with fail
  refine (HAW.out _).mono ?_
  rintro e w1 ⟨rfl, z⟩
  have JA : TC w1 w.heap.size a := ((TC.new rfl).alloc _ |>.alloc _).below z
  have JB : TC w1 (w.heap.size + 1) b := ((TC.new (by simp)).alloc _).below z
  have JC : TC w1 (w.heap.size + 1 + 1) c := (TC.new (by simp)).below z
  have B : Below w.heap.size w w1 := ((((Below.refl _ _).alloc (Nat.le_refl _) _).alloc (by simp) _).alloc (by simp; omega) _).trans (z.mono (by simp; omega))
  clear z
  have JA0 := JA.2.1
  have JA1 := JA.2.2
  have JAl := JA.1
  have JB0 := JB.2.1
  have JB1 := JB.2.2
  have JBl := JB.1
  have JC0 := JC.2.1
  have JC1 := JC.2.2
  have JCl := JC.1
  have lB := B.size
  go_wp2_with fail
  refine (Ma.out _).mono ?_
  rintro e w2 ⟨rfl, z⟩
  clear JA0 JA1 JAl JB0 JB1 JBl JC0 JC1 JCl lB
  replace JA := JA.below z
  replace JB := JB.below z
  replace JC := JC.below z
  replace B := below_next B z
  clear z
  have JA0 := JA.2.1
  have JA1 := JA.2.2
  have JAl := JA.1
  have JB0 := JB.2.1
  have JB1 := JB.2.2
  have JBl := JB.1
  have JC0 := JC.2.1
  have JC1 := JC.2.2
  have JCl := JC.1
  have lB := B.size
  go_wp2_with fail
  refine (Mb.out _).mono ?_
  rintro e w3 ⟨rfl, z⟩
  clear JA0 JA1 JAl JB0 JB1 JBl JC0 JC1 JCl lB
  replace JA := JA.below z
  replace JB := JB.below z
  replace JC := JC.below z
  replace B := below_next B z
  clear z
  have JA0 := JA.2.1
  have JA1 := JA.2.2
  have JAl := JA.1
  have JB0 := JB.2.1
  have JB1 := JB.2.2
  have JBl := JB.1
  have JC0 := JC.2.1
  have JC1 := JC.2.2
  have JCl := JC.1
  have lB := B.size
  go_wp2_with fail
  refine (Mc.out _).mono ?_
  rintro e w4 ⟨rfl, z⟩
  clear JA0 JA1 JAl JB0 JB1 JBl JC0 JC1 JCl lB
  replace JA := JA.below z
  replace JB := JB.below z
  replace JC := JC.below z
  replace B := below_next B z
  clear z
  have JA0 := JA.2.1
  have JA1 := JA.2.2
  have JAl := JA.1
  have JB0 := JB.2.1
  have JB1 := JB.2.2
  have JBl := JB.1
  have JC0 := JC.2.1
  have JC1 := JC.2.2
  have JCl := JC.1
  have lB := B.size
  go_wp2_with fail
  refine (Ma.out _).mono ?_
  rintro e w5 ⟨rfl, z⟩
  clear JA0 JA1 JAl JB0 JB1 JBl JC0 JC1 JCl lB
  replace JA := JA.below z
  replace JB := JB.below z
  replace JC := JC.below z
  replace B := below_next B z
  clear z
  have JA0 := JA.2.1
  have JA1 := JA.2.2
  have JAl := JA.1
  have JB0 := JB.2.1
  have JB1 := JB.2.2
  have JBl := JB.1
  have JC0 := JC.2.1
  have JC1 := JC.2.2
  have JCl := JC.1
  have lB := B.size
  go_wp2
  go_ret
  exact ⟨rfl, B⟩
end Go.Proofs.Ytoanbjnhoggpjaa
