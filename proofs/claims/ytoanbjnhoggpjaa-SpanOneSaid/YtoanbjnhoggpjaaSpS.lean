/-
  The walks of the document's One.
-/
import Derived.Test.YtoanbjnhoggpjaaSpR
namespace Go.Proofs.Ytoanbjnhoggpjaa
set_option linter.unusedSimpArgs false
set_option linter.unusedVariables false
set_option maxRecDepth 100000
open Go.ChangeShapes Go.WideShapes Go.ChangeAt Go.RowKit

theorem qOne_0_false (X Y : B64) (w : World) : Calls Try.prog 38 #[.int .i64 0, .bool false, .int .u64 (ub X), .int .u64 (ub Y)] w fun e w' => e = .returned (.int .u64 (ub (oneB 0 false X Y))) ∧ w' = w := by
  have HT := fun W => qTop_any 32 W (by decide)
  rw [show (1#64 <<< 32 - 1#64 : B64) = topW false by decide] at HT
  have hk := shB_lt false (Y &&& topW false)
  show Calls Try.prog 38 #[.int .i64 0, .bool false, .int .u64 (ub X), .int .u64 (ub Y)] w fun e w' => e = .returned (.int .u64 (ub (oneC 0 false (X &&& topW false) (Y &&& topW false)))) ∧ w' = w
  rw [show oneC 0 false (X &&& topW false) (Y &&& topW false) = ((X &&& topW false) + (Y &&& topW false)) &&& topW false from rfl]
  generalize topW false = T at *
  clear hk
  replace HT := hid HT
  go_enter Try.func38, Try.ntmps38
  go_wp2_with fail
  refine (HT.out _).mono ?_
  rintro e w1 ⟨rfl, rfl⟩
  go_wp2
  go_ret
  exact ⟨rfl, rfl⟩
theorem qOne_1_false (X Y : B64) (w : World) : Calls Try.prog 38 #[.int .i64 1, .bool false, .int .u64 (ub X), .int .u64 (ub Y)] w fun e w' => e = .returned (.int .u64 (ub (oneB 1 false X Y))) ∧ w' = w := by
  have HT := fun W => qTop_any 32 W (by decide)
  rw [show (1#64 <<< 32 - 1#64 : B64) = topW false by decide] at HT
  have hk := shB_lt false (Y &&& topW false)
  show Calls Try.prog 38 #[.int .i64 1, .bool false, .int .u64 (ub X), .int .u64 (ub Y)] w fun e w' => e = .returned (.int .u64 (ub (oneC 1 false (X &&& topW false) (Y &&& topW false)))) ∧ w' = w
  rw [show oneC 1 false (X &&& topW false) (Y &&& topW false) = ((X &&& topW false) - (Y &&& topW false)) &&& topW false from rfl]
  generalize topW false = T at *
  clear hk
  replace HT := hid HT
  go_enter Try.func38, Try.ntmps38
  go_wp2_with fail
  refine (HT.out _).mono ?_
  rintro e w1 ⟨rfl, rfl⟩
  go_wp2
  go_ret
  exact ⟨rfl, rfl⟩
theorem qOne_2_false (X Y : B64) (w : World) : Calls Try.prog 38 #[.int .i64 2, .bool false, .int .u64 (ub X), .int .u64 (ub Y)] w fun e w' => e = .returned (.int .u64 (ub (oneB 2 false X Y))) ∧ w' = w := by
  have HT := fun W => qTop_any 32 W (by decide)
  rw [show (1#64 <<< 32 - 1#64 : B64) = topW false by decide] at HT
  have hk := shB_lt false (Y &&& topW false)
  show Calls Try.prog 38 #[.int .i64 2, .bool false, .int .u64 (ub X), .int .u64 (ub Y)] w fun e w' => e = .returned (.int .u64 (ub (oneC 2 false (X &&& topW false) (Y &&& topW false)))) ∧ w' = w
  rw [show oneC 2 false (X &&& topW false) (Y &&& topW false) = ((X &&& topW false) * (Y &&& topW false)) &&& topW false from rfl]
  generalize topW false = T at *
  clear hk
  replace HT := hid HT
  go_enter Try.func38, Try.ntmps38
  go_wp2_with fail
  refine (HT.out _).mono ?_
  rintro e w1 ⟨rfl, rfl⟩
  go_wp2
  go_ret
  exact ⟨rfl, rfl⟩
theorem qOne_3_false (X Y : B64) (w : World) : Calls Try.prog 38 #[.int .i64 3, .bool false, .int .u64 (ub X), .int .u64 (ub Y)] w fun e w' => e = .returned (.int .u64 (ub (oneB 3 false X Y))) ∧ w' = w := by
  have HT := fun W => qTop_any 32 W (by decide)
  rw [show (1#64 <<< 32 - 1#64 : B64) = topW false by decide] at HT
  have hk := shB_lt false (Y &&& topW false)
  show Calls Try.prog 38 #[.int .i64 3, .bool false, .int .u64 (ub X), .int .u64 (ub Y)] w fun e w' => e = .returned (.int .u64 (ub (oneC 3 false (X &&& topW false) (Y &&& topW false)))) ∧ w' = w
  rw [show oneC 3 false (X &&& topW false) (Y &&& topW false) = if (Y &&& topW false) = 0#64 then 0#64 else (X &&& topW false) / (Y &&& topW false) from rfl]
  generalize topW false = T at *
  clear hk
  replace HT := hid HT
  by_cases h : (Y &&& T) = 0#64
  · rw [if_pos h]
    have x1 : ((Y &&& T) == 0#64) = true := by simp [h]
    clear h
    go_enter Try.func38, Try.ntmps38
    go_wp2_with fail
    refine (HT.out _).mono ?_
    rintro e w1 ⟨rfl, rfl⟩
    go_wp2
    go_ret
    exact ⟨rfl, rfl⟩
  · rw [if_neg h]
    have x1 : ((Y &&& T) == 0#64) = false := by simp [h]
    have y1 := ub_ne0 h
    clear h
    go_enter Try.func38, Try.ntmps38
    go_wp2_with fail
    refine (HT.out _).mono ?_
    rintro e w1 ⟨rfl, rfl⟩
    go_wp2
    go_ret
    exact ⟨rfl, rfl⟩
theorem qOne_4_false (X Y : B64) (w : World) : Calls Try.prog 38 #[.int .i64 4, .bool false, .int .u64 (ub X), .int .u64 (ub Y)] w fun e w' => e = .returned (.int .u64 (ub (oneB 4 false X Y))) ∧ w' = w := by
  have HT := fun W => qTop_any 32 W (by decide)
  rw [show (1#64 <<< 32 - 1#64 : B64) = topW false by decide] at HT
  have hk := shB_lt false (Y &&& topW false)
  show Calls Try.prog 38 #[.int .i64 4, .bool false, .int .u64 (ub X), .int .u64 (ub Y)] w fun e w' => e = .returned (.int .u64 (ub (oneC 4 false (X &&& topW false) (Y &&& topW false)))) ∧ w' = w
  rw [show oneC 4 false (X &&& topW false) (Y &&& topW false) = (X &&& topW false) ||| (Y &&& topW false) from rfl]
  generalize topW false = T at *
  clear hk
  replace HT := hid HT
  go_enter Try.func38, Try.ntmps38
  go_wp2_with fail
  refine (HT.out _).mono ?_
  rintro e w1 ⟨rfl, rfl⟩
  go_wp2
  go_ret
  exact ⟨rfl, rfl⟩
theorem qOne_5_false (X Y : B64) (w : World) : Calls Try.prog 38 #[.int .i64 5, .bool false, .int .u64 (ub X), .int .u64 (ub Y)] w fun e w' => e = .returned (.int .u64 (ub (oneB 5 false X Y))) ∧ w' = w := by
  have HT := fun W => qTop_any 32 W (by decide)
  rw [show (1#64 <<< 32 - 1#64 : B64) = topW false by decide] at HT
  have hk := shB_lt false (Y &&& topW false)
  show Calls Try.prog 38 #[.int .i64 5, .bool false, .int .u64 (ub X), .int .u64 (ub Y)] w fun e w' => e = .returned (.int .u64 (ub (oneC 5 false (X &&& topW false) (Y &&& topW false)))) ∧ w' = w
  rw [show oneC 5 false (X &&& topW false) (Y &&& topW false) = (X &&& topW false) &&& (Y &&& topW false) from rfl]
  generalize topW false = T at *
  clear hk
  replace HT := hid HT
  go_enter Try.func38, Try.ntmps38
  go_wp2_with fail
  refine (HT.out _).mono ?_
  rintro e w1 ⟨rfl, rfl⟩
  go_wp2
  go_ret
  exact ⟨rfl, rfl⟩
theorem qOne_6_false (X Y : B64) (w : World) : Calls Try.prog 38 #[.int .i64 6, .bool false, .int .u64 (ub X), .int .u64 (ub Y)] w fun e w' => e = .returned (.int .u64 (ub (oneB 6 false X Y))) ∧ w' = w := by
  have HT := fun W => qTop_any 32 W (by decide)
  rw [show (1#64 <<< 32 - 1#64 : B64) = topW false by decide] at HT
  have hk := shB_lt false (Y &&& topW false)
  have ek : wrap64 ((ub (Y &&& topW false)).tmod 32) = ((shB false (Y &&& topW false) : Nat) : Int) := (congrArg wrap64 (tmod_is _ 32#64)).trans ((ib_of _).trans (ib_small _ (by have : ((Y &&& topW false) % sizeB false).toNat < 32 := hk; have e : sizeB false = 32#64 := rfl; rw [e] at this; omega)))
  have HP := fun W => qPower_any (shB false (Y &&& topW false)) W (by have : sizeW false = 32 := rfl; omega)
  rw [← ek] at HP
  show Calls Try.prog 38 #[.int .i64 6, .bool false, .int .u64 (ub X), .int .u64 (ub Y)] w fun e w' => e = .returned (.int .u64 (ub (oneC 6 false (X &&& topW false) (Y &&& topW false)))) ∧ w' = w
  rw [show oneC 6 false (X &&& topW false) (Y &&& topW false) = (X &&& topW false) * (1#64 <<< shB false (Y &&& topW false)) &&& topW false from rfl]
  generalize 1#64 <<< shB false (Y &&& topW false) = P at *
  generalize topW false = T at *
  clear hk ek
  replace HT := hid HT
  replace HP := hid HP
  go_enter Try.func38, Try.ntmps38
  go_wp2_with fail
  refine (HT.out _).mono ?_
  rintro e w1 ⟨rfl, rfl⟩
  go_wp2_with fail
  refine (HP.out _).mono ?_
  rintro e w1 ⟨rfl, rfl⟩
  go_wp2
  go_ret
  exact ⟨rfl, rfl⟩
theorem qOne_7_false (X Y : B64) (w : World) : Calls Try.prog 38 #[.int .i64 7, .bool false, .int .u64 (ub X), .int .u64 (ub Y)] w fun e w' => e = .returned (.int .u64 (ub (oneB 7 false X Y))) ∧ w' = w := by
  have HT := fun W => qTop_any 32 W (by decide)
  rw [show (1#64 <<< 32 - 1#64 : B64) = topW false by decide] at HT
  have hk := shB_lt false (Y &&& topW false)
  have ek : wrap64 ((ub (Y &&& topW false)).tmod 32) = ((shB false (Y &&& topW false) : Nat) : Int) := (congrArg wrap64 (tmod_is _ 32#64)).trans ((ib_of _).trans (ib_small _ (by have : ((Y &&& topW false) % sizeB false).toNat < 32 := hk; have e : sizeB false = 32#64 := rfl; rw [e] at this; omega)))
  have HP := fun W => qPower_any (shB false (Y &&& topW false)) W (by have : sizeW false = 32 := rfl; omega)
  rw [← ek] at HP
  have y1 : ¬ ub (1#64 <<< shB false (Y &&& topW false)) = 0 := by
    have hs : sizeW false = 32 := rfl
    intro h; have h2 := toNat_bit (shB false (Y &&& topW false)) (by omega); have h3 := Nat.two_pow_pos (shB false (Y &&& topW false)); unfold ub at h; omega
  show Calls Try.prog 38 #[.int .i64 7, .bool false, .int .u64 (ub X), .int .u64 (ub Y)] w fun e w' => e = .returned (.int .u64 (ub (oneC 7 false (X &&& topW false) (Y &&& topW false)))) ∧ w' = w
  rw [show oneC 7 false (X &&& topW false) (Y &&& topW false) = (X &&& topW false) / (1#64 <<< shB false (Y &&& topW false)) from rfl]
  generalize 1#64 <<< shB false (Y &&& topW false) = P at *
  generalize topW false = T at *
  clear hk ek
  replace HT := hid HT
  replace HP := hid HP
  go_enter Try.func38, Try.ntmps38
  go_wp2_with fail
  refine (HT.out _).mono ?_
  rintro e w1 ⟨rfl, rfl⟩
  go_wp2_with fail
  refine (HP.out _).mono ?_
  rintro e w1 ⟨rfl, rfl⟩
  go_wp2
  go_ret
  exact ⟨rfl, rfl⟩
theorem qOne_8_false (X Y : B64) (w : World) : Calls Try.prog 38 #[.int .i64 8, .bool false, .int .u64 (ub X), .int .u64 (ub Y)] w fun e w' => e = .returned (.int .u64 (ub (oneB 8 false X Y))) ∧ w' = w := by
  have HT := fun W => qTop_any 32 W (by decide)
  rw [show (1#64 <<< 32 - 1#64 : B64) = topW false by decide] at HT
  have hk := shB_lt false (Y &&& topW false)
  show Calls Try.prog 38 #[.int .i64 8, .bool false, .int .u64 (ub X), .int .u64 (ub Y)] w fun e w' => e = .returned (.int .u64 (ub (oneC 8 false (X &&& topW false) (Y &&& topW false)))) ∧ w' = w
  rw [show oneC 8 false (X &&& topW false) (Y &&& topW false) = (0#64 - (X &&& topW false)) &&& topW false from rfl]
  generalize topW false = T at *
  clear hk
  replace HT := hid HT
  go_enter Try.func38, Try.ntmps38
  go_wp2_with fail
  refine (HT.out _).mono ?_
  rintro e w1 ⟨rfl, rfl⟩
  go_wp2
  go_ret
  exact ⟨rfl, rfl⟩
theorem qOne_9_false (X Y : B64) (w : World) : Calls Try.prog 38 #[.int .i64 9, .bool false, .int .u64 (ub X), .int .u64 (ub Y)] w fun e w' => e = .returned (.int .u64 (ub (oneB 9 false X Y))) ∧ w' = w := by
  have HT := fun W => qTop_any 32 W (by decide)
  rw [show (1#64 <<< 32 - 1#64 : B64) = topW false by decide] at HT
  have hk := shB_lt false (Y &&& topW false)
  show Calls Try.prog 38 #[.int .i64 9, .bool false, .int .u64 (ub X), .int .u64 (ub Y)] w fun e w' => e = .returned (.int .u64 (ub (oneC 9 false (X &&& topW false) (Y &&& topW false)))) ∧ w' = w
  rw [show oneC 9 false (X &&& topW false) (Y &&& topW false) = if (Y &&& topW false) = 0#64 then (X &&& topW false) else (X &&& topW false) % (Y &&& topW false) from rfl]
  generalize topW false = T at *
  clear hk
  replace HT := hid HT
  by_cases h : (Y &&& T) = 0#64
  · rw [if_pos h]
    have x1 : ((Y &&& T) == 0#64) = true := by simp [h]
    clear h
    go_enter Try.func38, Try.ntmps38
    go_wp2_with fail
    refine (HT.out _).mono ?_
    rintro e w1 ⟨rfl, rfl⟩
    go_wp2
    go_ret
    exact ⟨rfl, rfl⟩
  · rw [if_neg h]
    have x1 : ((Y &&& T) == 0#64) = false := by simp [h]
    have y1 := ub_ne0 h
    clear h
    go_enter Try.func38, Try.ntmps38
    go_wp2_with fail
    refine (HT.out _).mono ?_
    rintro e w1 ⟨rfl, rfl⟩
    go_wp2
    go_ret
    exact ⟨rfl, rfl⟩
theorem qOne_10_false (X Y : B64) (w : World) : Calls Try.prog 38 #[.int .i64 10, .bool false, .int .u64 (ub X), .int .u64 (ub Y)] w fun e w' => e = .returned (.int .u64 (ub (oneB 10 false X Y))) ∧ w' = w := by
  have HT := fun W => qTop_any 32 W (by decide)
  rw [show (1#64 <<< 32 - 1#64 : B64) = topW false by decide] at HT
  have hk := shB_lt false (Y &&& topW false)
  show Calls Try.prog 38 #[.int .i64 10, .bool false, .int .u64 (ub X), .int .u64 (ub Y)] w fun e w' => e = .returned (.int .u64 (ub (oneC 10 false (X &&& topW false) (Y &&& topW false)))) ∧ w' = w
  rw [show oneC 10 false (X &&& topW false) (Y &&& topW false) = (X &&& topW false) ^^^ (Y &&& topW false) from rfl]
  generalize topW false = T at *
  clear hk
  replace HT := hid HT
  go_enter Try.func38, Try.ntmps38
  go_wp2_with fail
  refine (HT.out _).mono ?_
  rintro e w1 ⟨rfl, rfl⟩
  go_wp2
  go_ret
  exact ⟨rfl, rfl⟩
theorem qOne_11_false (X Y : B64) (w : World) : Calls Try.prog 38 #[.int .i64 11, .bool false, .int .u64 (ub X), .int .u64 (ub Y)] w fun e w' => e = .returned (.int .u64 (ub (oneB 11 false X Y))) ∧ w' = w := by
  have HT := fun W => qTop_any 32 W (by decide)
  rw [show (1#64 <<< 32 - 1#64 : B64) = topW false by decide] at HT
  have hk := shB_lt false (Y &&& topW false)
  show Calls Try.prog 38 #[.int .i64 11, .bool false, .int .u64 (ub X), .int .u64 (ub Y)] w fun e w' => e = .returned (.int .u64 (ub (oneC 11 false (X &&& topW false) (Y &&& topW false)))) ∧ w' = w
  rw [show oneC 11 false (X &&& topW false) (Y &&& topW false) = (Y &&& topW false) from rfl]
  generalize topW false = T at *
  clear hk
  replace HT := hid HT
  go_enter Try.func38, Try.ntmps38
  go_wp2_with fail
  refine (HT.out _).mono ?_
  rintro e w1 ⟨rfl, rfl⟩
  go_wp2
  go_ret
  exact ⟨rfl, rfl⟩
theorem qOne_12_false (X Y : B64) (w : World) : Calls Try.prog 38 #[.int .i64 12, .bool false, .int .u64 (ub X), .int .u64 (ub Y)] w fun e w' => e = .returned (.int .u64 (ub (oneB 12 false X Y))) ∧ w' = w := by
  have HT := fun W => qTop_any 32 W (by decide)
  rw [show (1#64 <<< 32 - 1#64 : B64) = topW false by decide] at HT
  have hk := shB_lt false (Y &&& topW false)
  have ek : wrap64 ((ub (Y &&& topW false)).tmod 32) = ((shB false (Y &&& topW false) : Nat) : Int) := (congrArg wrap64 (tmod_is _ 32#64)).trans ((ib_of _).trans (ib_small _ (by have : ((Y &&& topW false) % sizeB false).toNat < 32 := hk; have e : sizeB false = 32#64 := rfl; rw [e] at this; omega)))
  have HD := fun W => qDrawn_any false (X &&& topW false) (shB false (Y &&& topW false)) W (by have : sizeW false = 32 := rfl; omega)
  rw [← ek, show szI false = 32 from rfl] at HD
  show Calls Try.prog 38 #[.int .i64 12, .bool false, .int .u64 (ub X), .int .u64 (ub Y)] w fun e w' => e = .returned (.int .u64 (ub (oneC 12 false (X &&& topW false) (Y &&& topW false)))) ∧ w' = w
  rw [show oneC 12 false (X &&& topW false) (Y &&& topW false) = drB (1#64 <<< (sizeW false - 1)) (X &&& topW false) (shB false (Y &&& topW false)) from rfl]
  generalize drB (1#64 <<< (sizeW false - 1)) (X &&& topW false) (shB false (Y &&& topW false)) = P at *
  generalize topW false = T at *
  clear hk ek
  replace HT := hid HT
  replace HD := hid HD
  go_enter Try.func38, Try.ntmps38
  go_wp2_with fail
  refine (HT.out _).mono ?_
  rintro e w1 ⟨rfl, rfl⟩
  go_wp2_with fail
  refine (HD.out _).mono ?_
  rintro e w1 ⟨rfl, rfl⟩
  go_wp2
  go_ret
  exact ⟨rfl, rfl⟩
theorem qOne_0_true (X Y : B64) (w : World) : Calls Try.prog 38 #[.int .i64 0, .bool true, .int .u64 (ub X), .int .u64 (ub Y)] w fun e w' => e = .returned (.int .u64 (ub (oneB 0 true X Y))) ∧ w' = w := by
  have HT := fun W => qTop_any 64 W (by decide)
  rw [show (1#64 <<< 64 - 1#64 : B64) = topW true by decide] at HT
  have hk := shB_lt true (Y &&& topW true)
  show Calls Try.prog 38 #[.int .i64 0, .bool true, .int .u64 (ub X), .int .u64 (ub Y)] w fun e w' => e = .returned (.int .u64 (ub (oneC 0 true (X &&& topW true) (Y &&& topW true)))) ∧ w' = w
  rw [show oneC 0 true (X &&& topW true) (Y &&& topW true) = ((X &&& topW true) + (Y &&& topW true)) &&& topW true from rfl]
  generalize topW true = T at *
  clear hk
  replace HT := hid HT
  go_enter Try.func38, Try.ntmps38
  go_wp2_with fail
  refine (HT.out _).mono ?_
  rintro e w1 ⟨rfl, rfl⟩
  go_wp2
  go_ret
  exact ⟨rfl, rfl⟩
theorem qOne_1_true (X Y : B64) (w : World) : Calls Try.prog 38 #[.int .i64 1, .bool true, .int .u64 (ub X), .int .u64 (ub Y)] w fun e w' => e = .returned (.int .u64 (ub (oneB 1 true X Y))) ∧ w' = w := by
  have HT := fun W => qTop_any 64 W (by decide)
  rw [show (1#64 <<< 64 - 1#64 : B64) = topW true by decide] at HT
  have hk := shB_lt true (Y &&& topW true)
  show Calls Try.prog 38 #[.int .i64 1, .bool true, .int .u64 (ub X), .int .u64 (ub Y)] w fun e w' => e = .returned (.int .u64 (ub (oneC 1 true (X &&& topW true) (Y &&& topW true)))) ∧ w' = w
  rw [show oneC 1 true (X &&& topW true) (Y &&& topW true) = ((X &&& topW true) - (Y &&& topW true)) &&& topW true from rfl]
  generalize topW true = T at *
  clear hk
  replace HT := hid HT
  go_enter Try.func38, Try.ntmps38
  go_wp2_with fail
  refine (HT.out _).mono ?_
  rintro e w1 ⟨rfl, rfl⟩
  go_wp2
  go_ret
  exact ⟨rfl, rfl⟩
theorem qOne_2_true (X Y : B64) (w : World) : Calls Try.prog 38 #[.int .i64 2, .bool true, .int .u64 (ub X), .int .u64 (ub Y)] w fun e w' => e = .returned (.int .u64 (ub (oneB 2 true X Y))) ∧ w' = w := by
  have HT := fun W => qTop_any 64 W (by decide)
  rw [show (1#64 <<< 64 - 1#64 : B64) = topW true by decide] at HT
  have hk := shB_lt true (Y &&& topW true)
  show Calls Try.prog 38 #[.int .i64 2, .bool true, .int .u64 (ub X), .int .u64 (ub Y)] w fun e w' => e = .returned (.int .u64 (ub (oneC 2 true (X &&& topW true) (Y &&& topW true)))) ∧ w' = w
  rw [show oneC 2 true (X &&& topW true) (Y &&& topW true) = ((X &&& topW true) * (Y &&& topW true)) &&& topW true from rfl]
  generalize topW true = T at *
  clear hk
  replace HT := hid HT
  go_enter Try.func38, Try.ntmps38
  go_wp2_with fail
  refine (HT.out _).mono ?_
  rintro e w1 ⟨rfl, rfl⟩
  go_wp2
  go_ret
  exact ⟨rfl, rfl⟩
theorem qOne_3_true (X Y : B64) (w : World) : Calls Try.prog 38 #[.int .i64 3, .bool true, .int .u64 (ub X), .int .u64 (ub Y)] w fun e w' => e = .returned (.int .u64 (ub (oneB 3 true X Y))) ∧ w' = w := by
  have HT := fun W => qTop_any 64 W (by decide)
  rw [show (1#64 <<< 64 - 1#64 : B64) = topW true by decide] at HT
  have hk := shB_lt true (Y &&& topW true)
  show Calls Try.prog 38 #[.int .i64 3, .bool true, .int .u64 (ub X), .int .u64 (ub Y)] w fun e w' => e = .returned (.int .u64 (ub (oneC 3 true (X &&& topW true) (Y &&& topW true)))) ∧ w' = w
  rw [show oneC 3 true (X &&& topW true) (Y &&& topW true) = if (Y &&& topW true) = 0#64 then 0#64 else (X &&& topW true) / (Y &&& topW true) from rfl]
  generalize topW true = T at *
  clear hk
  replace HT := hid HT
  by_cases h : (Y &&& T) = 0#64
  · rw [if_pos h]
    have x1 : ((Y &&& T) == 0#64) = true := by simp [h]
    clear h
    go_enter Try.func38, Try.ntmps38
    go_wp2_with fail
    refine (HT.out _).mono ?_
    rintro e w1 ⟨rfl, rfl⟩
    go_wp2
    go_ret
    exact ⟨rfl, rfl⟩
  · rw [if_neg h]
    have x1 : ((Y &&& T) == 0#64) = false := by simp [h]
    have y1 := ub_ne0 h
    clear h
    go_enter Try.func38, Try.ntmps38
    go_wp2_with fail
    refine (HT.out _).mono ?_
    rintro e w1 ⟨rfl, rfl⟩
    go_wp2
    go_ret
    exact ⟨rfl, rfl⟩
theorem qOne_4_true (X Y : B64) (w : World) : Calls Try.prog 38 #[.int .i64 4, .bool true, .int .u64 (ub X), .int .u64 (ub Y)] w fun e w' => e = .returned (.int .u64 (ub (oneB 4 true X Y))) ∧ w' = w := by
  have HT := fun W => qTop_any 64 W (by decide)
  rw [show (1#64 <<< 64 - 1#64 : B64) = topW true by decide] at HT
  have hk := shB_lt true (Y &&& topW true)
  show Calls Try.prog 38 #[.int .i64 4, .bool true, .int .u64 (ub X), .int .u64 (ub Y)] w fun e w' => e = .returned (.int .u64 (ub (oneC 4 true (X &&& topW true) (Y &&& topW true)))) ∧ w' = w
  rw [show oneC 4 true (X &&& topW true) (Y &&& topW true) = (X &&& topW true) ||| (Y &&& topW true) from rfl]
  generalize topW true = T at *
  clear hk
  replace HT := hid HT
  go_enter Try.func38, Try.ntmps38
  go_wp2_with fail
  refine (HT.out _).mono ?_
  rintro e w1 ⟨rfl, rfl⟩
  go_wp2
  go_ret
  exact ⟨rfl, rfl⟩
theorem qOne_5_true (X Y : B64) (w : World) : Calls Try.prog 38 #[.int .i64 5, .bool true, .int .u64 (ub X), .int .u64 (ub Y)] w fun e w' => e = .returned (.int .u64 (ub (oneB 5 true X Y))) ∧ w' = w := by
  have HT := fun W => qTop_any 64 W (by decide)
  rw [show (1#64 <<< 64 - 1#64 : B64) = topW true by decide] at HT
  have hk := shB_lt true (Y &&& topW true)
  show Calls Try.prog 38 #[.int .i64 5, .bool true, .int .u64 (ub X), .int .u64 (ub Y)] w fun e w' => e = .returned (.int .u64 (ub (oneC 5 true (X &&& topW true) (Y &&& topW true)))) ∧ w' = w
  rw [show oneC 5 true (X &&& topW true) (Y &&& topW true) = (X &&& topW true) &&& (Y &&& topW true) from rfl]
  generalize topW true = T at *
  clear hk
  replace HT := hid HT
  go_enter Try.func38, Try.ntmps38
  go_wp2_with fail
  refine (HT.out _).mono ?_
  rintro e w1 ⟨rfl, rfl⟩
  go_wp2
  go_ret
  exact ⟨rfl, rfl⟩
theorem qOne_6_true (X Y : B64) (w : World) : Calls Try.prog 38 #[.int .i64 6, .bool true, .int .u64 (ub X), .int .u64 (ub Y)] w fun e w' => e = .returned (.int .u64 (ub (oneB 6 true X Y))) ∧ w' = w := by
  have HT := fun W => qTop_any 64 W (by decide)
  rw [show (1#64 <<< 64 - 1#64 : B64) = topW true by decide] at HT
  have hk := shB_lt true (Y &&& topW true)
  have ek : wrap64 ((ub (Y &&& topW true)).tmod 64) = ((shB true (Y &&& topW true) : Nat) : Int) := (congrArg wrap64 (tmod_is _ 64#64)).trans ((ib_of _).trans (ib_small _ (by have : ((Y &&& topW true) % sizeB true).toNat < 64 := hk; have e : sizeB true = 64#64 := rfl; rw [e] at this; omega)))
  have HP := fun W => qPower_any (shB true (Y &&& topW true)) W (by have : sizeW true = 64 := rfl; omega)
  rw [← ek] at HP
  show Calls Try.prog 38 #[.int .i64 6, .bool true, .int .u64 (ub X), .int .u64 (ub Y)] w fun e w' => e = .returned (.int .u64 (ub (oneC 6 true (X &&& topW true) (Y &&& topW true)))) ∧ w' = w
  rw [show oneC 6 true (X &&& topW true) (Y &&& topW true) = (X &&& topW true) * (1#64 <<< shB true (Y &&& topW true)) &&& topW true from rfl]
  generalize 1#64 <<< shB true (Y &&& topW true) = P at *
  generalize topW true = T at *
  clear hk ek
  replace HT := hid HT
  replace HP := hid HP
  go_enter Try.func38, Try.ntmps38
  go_wp2_with fail
  refine (HT.out _).mono ?_
  rintro e w1 ⟨rfl, rfl⟩
  go_wp2_with fail
  refine (HP.out _).mono ?_
  rintro e w1 ⟨rfl, rfl⟩
  go_wp2
  go_ret
  exact ⟨rfl, rfl⟩
theorem qOne_7_true (X Y : B64) (w : World) : Calls Try.prog 38 #[.int .i64 7, .bool true, .int .u64 (ub X), .int .u64 (ub Y)] w fun e w' => e = .returned (.int .u64 (ub (oneB 7 true X Y))) ∧ w' = w := by
  have HT := fun W => qTop_any 64 W (by decide)
  rw [show (1#64 <<< 64 - 1#64 : B64) = topW true by decide] at HT
  have hk := shB_lt true (Y &&& topW true)
  have ek : wrap64 ((ub (Y &&& topW true)).tmod 64) = ((shB true (Y &&& topW true) : Nat) : Int) := (congrArg wrap64 (tmod_is _ 64#64)).trans ((ib_of _).trans (ib_small _ (by have : ((Y &&& topW true) % sizeB true).toNat < 64 := hk; have e : sizeB true = 64#64 := rfl; rw [e] at this; omega)))
  have HP := fun W => qPower_any (shB true (Y &&& topW true)) W (by have : sizeW true = 64 := rfl; omega)
  rw [← ek] at HP
  have y1 : ¬ ub (1#64 <<< shB true (Y &&& topW true)) = 0 := by
    have hs : sizeW true = 64 := rfl
    intro h; have h2 := toNat_bit (shB true (Y &&& topW true)) (by omega); have h3 := Nat.two_pow_pos (shB true (Y &&& topW true)); unfold ub at h; omega
  show Calls Try.prog 38 #[.int .i64 7, .bool true, .int .u64 (ub X), .int .u64 (ub Y)] w fun e w' => e = .returned (.int .u64 (ub (oneC 7 true (X &&& topW true) (Y &&& topW true)))) ∧ w' = w
  rw [show oneC 7 true (X &&& topW true) (Y &&& topW true) = (X &&& topW true) / (1#64 <<< shB true (Y &&& topW true)) from rfl]
  generalize 1#64 <<< shB true (Y &&& topW true) = P at *
  generalize topW true = T at *
  clear hk ek
  replace HT := hid HT
  replace HP := hid HP
  go_enter Try.func38, Try.ntmps38
  go_wp2_with fail
  refine (HT.out _).mono ?_
  rintro e w1 ⟨rfl, rfl⟩
  go_wp2_with fail
  refine (HP.out _).mono ?_
  rintro e w1 ⟨rfl, rfl⟩
  go_wp2
  go_ret
  exact ⟨rfl, rfl⟩
theorem qOne_8_true (X Y : B64) (w : World) : Calls Try.prog 38 #[.int .i64 8, .bool true, .int .u64 (ub X), .int .u64 (ub Y)] w fun e w' => e = .returned (.int .u64 (ub (oneB 8 true X Y))) ∧ w' = w := by
  have HT := fun W => qTop_any 64 W (by decide)
  rw [show (1#64 <<< 64 - 1#64 : B64) = topW true by decide] at HT
  have hk := shB_lt true (Y &&& topW true)
  show Calls Try.prog 38 #[.int .i64 8, .bool true, .int .u64 (ub X), .int .u64 (ub Y)] w fun e w' => e = .returned (.int .u64 (ub (oneC 8 true (X &&& topW true) (Y &&& topW true)))) ∧ w' = w
  rw [show oneC 8 true (X &&& topW true) (Y &&& topW true) = (0#64 - (X &&& topW true)) &&& topW true from rfl]
  generalize topW true = T at *
  clear hk
  replace HT := hid HT
  go_enter Try.func38, Try.ntmps38
  go_wp2_with fail
  refine (HT.out _).mono ?_
  rintro e w1 ⟨rfl, rfl⟩
  go_wp2
  go_ret
  exact ⟨rfl, rfl⟩
theorem qOne_9_true (X Y : B64) (w : World) : Calls Try.prog 38 #[.int .i64 9, .bool true, .int .u64 (ub X), .int .u64 (ub Y)] w fun e w' => e = .returned (.int .u64 (ub (oneB 9 true X Y))) ∧ w' = w := by
  have HT := fun W => qTop_any 64 W (by decide)
  rw [show (1#64 <<< 64 - 1#64 : B64) = topW true by decide] at HT
  have hk := shB_lt true (Y &&& topW true)
  show Calls Try.prog 38 #[.int .i64 9, .bool true, .int .u64 (ub X), .int .u64 (ub Y)] w fun e w' => e = .returned (.int .u64 (ub (oneC 9 true (X &&& topW true) (Y &&& topW true)))) ∧ w' = w
  rw [show oneC 9 true (X &&& topW true) (Y &&& topW true) = if (Y &&& topW true) = 0#64 then (X &&& topW true) else (X &&& topW true) % (Y &&& topW true) from rfl]
  generalize topW true = T at *
  clear hk
  replace HT := hid HT
  by_cases h : (Y &&& T) = 0#64
  · rw [if_pos h]
    have x1 : ((Y &&& T) == 0#64) = true := by simp [h]
    clear h
    go_enter Try.func38, Try.ntmps38
    go_wp2_with fail
    refine (HT.out _).mono ?_
    rintro e w1 ⟨rfl, rfl⟩
    go_wp2
    go_ret
    exact ⟨rfl, rfl⟩
  · rw [if_neg h]
    have x1 : ((Y &&& T) == 0#64) = false := by simp [h]
    have y1 := ub_ne0 h
    clear h
    go_enter Try.func38, Try.ntmps38
    go_wp2_with fail
    refine (HT.out _).mono ?_
    rintro e w1 ⟨rfl, rfl⟩
    go_wp2
    go_ret
    exact ⟨rfl, rfl⟩
theorem qOne_10_true (X Y : B64) (w : World) : Calls Try.prog 38 #[.int .i64 10, .bool true, .int .u64 (ub X), .int .u64 (ub Y)] w fun e w' => e = .returned (.int .u64 (ub (oneB 10 true X Y))) ∧ w' = w := by
  have HT := fun W => qTop_any 64 W (by decide)
  rw [show (1#64 <<< 64 - 1#64 : B64) = topW true by decide] at HT
  have hk := shB_lt true (Y &&& topW true)
  show Calls Try.prog 38 #[.int .i64 10, .bool true, .int .u64 (ub X), .int .u64 (ub Y)] w fun e w' => e = .returned (.int .u64 (ub (oneC 10 true (X &&& topW true) (Y &&& topW true)))) ∧ w' = w
  rw [show oneC 10 true (X &&& topW true) (Y &&& topW true) = (X &&& topW true) ^^^ (Y &&& topW true) from rfl]
  generalize topW true = T at *
  clear hk
  replace HT := hid HT
  go_enter Try.func38, Try.ntmps38
  go_wp2_with fail
  refine (HT.out _).mono ?_
  rintro e w1 ⟨rfl, rfl⟩
  go_wp2
  go_ret
  exact ⟨rfl, rfl⟩
theorem qOne_11_true (X Y : B64) (w : World) : Calls Try.prog 38 #[.int .i64 11, .bool true, .int .u64 (ub X), .int .u64 (ub Y)] w fun e w' => e = .returned (.int .u64 (ub (oneB 11 true X Y))) ∧ w' = w := by
  have HT := fun W => qTop_any 64 W (by decide)
  rw [show (1#64 <<< 64 - 1#64 : B64) = topW true by decide] at HT
  have hk := shB_lt true (Y &&& topW true)
  show Calls Try.prog 38 #[.int .i64 11, .bool true, .int .u64 (ub X), .int .u64 (ub Y)] w fun e w' => e = .returned (.int .u64 (ub (oneC 11 true (X &&& topW true) (Y &&& topW true)))) ∧ w' = w
  rw [show oneC 11 true (X &&& topW true) (Y &&& topW true) = (Y &&& topW true) from rfl]
  generalize topW true = T at *
  clear hk
  replace HT := hid HT
  go_enter Try.func38, Try.ntmps38
  go_wp2_with fail
  refine (HT.out _).mono ?_
  rintro e w1 ⟨rfl, rfl⟩
  go_wp2
  go_ret
  exact ⟨rfl, rfl⟩
theorem qOne_12_true (X Y : B64) (w : World) : Calls Try.prog 38 #[.int .i64 12, .bool true, .int .u64 (ub X), .int .u64 (ub Y)] w fun e w' => e = .returned (.int .u64 (ub (oneB 12 true X Y))) ∧ w' = w := by
  have HT := fun W => qTop_any 64 W (by decide)
  rw [show (1#64 <<< 64 - 1#64 : B64) = topW true by decide] at HT
  have hk := shB_lt true (Y &&& topW true)
  have ek : wrap64 ((ub (Y &&& topW true)).tmod 64) = ((shB true (Y &&& topW true) : Nat) : Int) := (congrArg wrap64 (tmod_is _ 64#64)).trans ((ib_of _).trans (ib_small _ (by have : ((Y &&& topW true) % sizeB true).toNat < 64 := hk; have e : sizeB true = 64#64 := rfl; rw [e] at this; omega)))
  have HD := fun W => qDrawn_any true (X &&& topW true) (shB true (Y &&& topW true)) W (by have : sizeW true = 64 := rfl; omega)
  rw [← ek, show szI true = 64 from rfl] at HD
  show Calls Try.prog 38 #[.int .i64 12, .bool true, .int .u64 (ub X), .int .u64 (ub Y)] w fun e w' => e = .returned (.int .u64 (ub (oneC 12 true (X &&& topW true) (Y &&& topW true)))) ∧ w' = w
  rw [show oneC 12 true (X &&& topW true) (Y &&& topW true) = drB (1#64 <<< (sizeW true - 1)) (X &&& topW true) (shB true (Y &&& topW true)) from rfl]
  generalize drB (1#64 <<< (sizeW true - 1)) (X &&& topW true) (shB true (Y &&& topW true)) = P at *
  generalize topW true = T at *
  clear hk ek
  replace HT := hid HT
  replace HD := hid HD
  go_enter Try.func38, Try.ntmps38
  go_wp2_with fail
  refine (HT.out _).mono ?_
  rintro e w1 ⟨rfl, rfl⟩
  go_wp2_with fail
  refine (HD.out _).mono ?_
  rintro e w1 ⟨rfl, rfl⟩
  go_wp2
  go_ret
  exact ⟨rfl, rfl⟩
theorem qOne_any (k : Nat) (hk : k ≤ 12) (c : Bool) (X Y : B64) (w : World) : Calls Try.prog 38 #[.int .i64 (k : Int), .bool c, .int .u64 (ub X), .int .u64 (ub Y)] w fun e w' => e = .returned (.int .u64 (ub (oneB k c X Y))) ∧ w' = w := by
  cases c
  · rcases twelve hk with rfl | rfl | rfl | rfl | rfl | rfl | rfl | rfl | rfl | rfl | rfl | rfl | rfl
    · exact qOne_0_false X Y w
    · exact qOne_1_false X Y w
    · exact qOne_2_false X Y w
    · exact qOne_3_false X Y w
    · exact qOne_4_false X Y w
    · exact qOne_5_false X Y w
    · exact qOne_6_false X Y w
    · exact qOne_7_false X Y w
    · exact qOne_8_false X Y w
    · exact qOne_9_false X Y w
    · exact qOne_10_false X Y w
    · exact qOne_11_false X Y w
    · exact qOne_12_false X Y w
  · rcases twelve hk with rfl | rfl | rfl | rfl | rfl | rfl | rfl | rfl | rfl | rfl | rfl | rfl | rfl
    · exact qOne_0_true X Y w
    · exact qOne_1_true X Y w
    · exact qOne_2_true X Y w
    · exact qOne_3_true X Y w
    · exact qOne_4_true X Y w
    · exact qOne_5_true X Y w
    · exact qOne_6_true X Y w
    · exact qOne_7_true X Y w
    · exact qOne_8_true X Y w
    · exact qOne_9_true X Y w
    · exact qOne_10_true X Y w
    · exact qOne_11_true X Y w
    · exact qOne_12_true X Y w
end Go.Proofs.Ytoanbjnhoggpjaa
