import Derived.Test.YtodmikjpmcabiaaGreatZScH
import Derived.Deep.RegionLaw
namespace Go.Proofs.YtodmikjpmcabiaaGreat
set_option linter.unusedSimpArgs false
set_option linter.unusedVariables false
set_option maxRecDepth 100000
open Go.ChangeShapes Go.WideShapes Go.ChangeAt Go.RowKit

def unsI (op : Int) : Int := if op = 6 then 2 else if op = 7 then 3 else if op = 12 then 10 else if op = 13 then 11 else op
theorem cUns_any (op : Int) (w : World) : Calls Tryz.prog 92 #[.int .i64 op] w fun e w' => e = .returned (.int .i64 (unsI op)) ∧ w' = w := by
  by_cases h6 : op = 6
  · subst h6
    rw [show unsI 6 = 2 by decide]
    go_enter Tryz.func92, Tryz.ntmps92
    go_wp2
    go_ret
    exact ⟨rfl, rfl⟩
  by_cases h7 : op = 7
  · subst h7
    rw [show unsI 7 = 3 by decide]
    go_enter Tryz.func92, Tryz.ntmps92
    go_wp2
    go_ret
    exact ⟨rfl, rfl⟩
  by_cases h12 : op = 12
  · subst h12
    rw [show unsI 12 = 10 by decide]
    go_enter Tryz.func92, Tryz.ntmps92
    go_wp2
    go_ret
    exact ⟨rfl, rfl⟩
  by_cases h13 : op = 13
  · subst h13
    rw [show unsI 13 = 11 by decide]
    go_enter Tryz.func92, Tryz.ntmps92
    go_wp2
    go_ret
    exact ⟨rfl, rfl⟩
  rw [show unsI op = op by unfold unsI; rw [if_neg h6, if_neg h7, if_neg h12, if_neg h13]]
  have e6 : (op == 6) = false := by simpa using h6
  have e7 : (op == 7) = false := by simpa using h7
  have e12 : (op == 12) = false := by simpa using h12
  have e13 : (op == 13) = false := by simpa using h13
  clear h6 h7 h12 h13
  go_enter Tryz.func92, Tryz.ntmps92
  go_wp2
  go_ret
  exact ⟨rfl, rfl⟩
def oppI (op : Int) : Int := if op = 1 then 5 else if op = 5 then 1 else if op = 2 then 11 else if op = 3 then 10 else if op = 10 then 3 else 2
theorem cOpp_any (op : Int) (w : World) : Calls Tryz.prog 94 #[.int .i64 op] w fun e w' => e = .returned (.int .i64 (oppI op)) ∧ w' = w := by
  by_cases h1 : op = 1
  · subst h1
    rw [show oppI 1 = 5 by decide]
    go_enter Tryz.func94, Tryz.ntmps94
    go_wp2
    go_ret
    exact ⟨rfl, rfl⟩
  by_cases h5 : op = 5
  · subst h5
    rw [show oppI 5 = 1 by decide]
    go_enter Tryz.func94, Tryz.ntmps94
    go_wp2
    go_ret
    exact ⟨rfl, rfl⟩
  by_cases h2 : op = 2
  · subst h2
    rw [show oppI 2 = 11 by decide]
    go_enter Tryz.func94, Tryz.ntmps94
    go_wp2
    go_ret
    exact ⟨rfl, rfl⟩
  by_cases h3 : op = 3
  · subst h3
    rw [show oppI 3 = 10 by decide]
    go_enter Tryz.func94, Tryz.ntmps94
    go_wp2
    go_ret
    exact ⟨rfl, rfl⟩
  by_cases h10 : op = 10
  · subst h10
    rw [show oppI 10 = 3 by decide]
    go_enter Tryz.func94, Tryz.ntmps94
    go_wp2
    go_ret
    exact ⟨rfl, rfl⟩
  rw [show oppI op = 2 by unfold oppI; rw [if_neg h1, if_neg h5, if_neg h2, if_neg h3, if_neg h10]]
  have e1 : (op == 1) = false := by simpa using h1
  have e5 : (op == 5) = false := by simpa using h5
  have e2 : (op == 2) = false := by simpa using h2
  have e3 : (op == 3) = false := by simpa using h3
  have e10 : (op == 10) = false := by simpa using h10
  clear h1 h5 h2 h3 h10
  go_enter Tryz.func94, Tryz.ntmps94
  go_wp2
  go_ret
  exact ⟨rfl, rfl⟩
theorem fld3 (a b : B64) (W : World) : (Instr.field 26 (.agg #[.int .u64 (ub a), .int .u64 (ub b)]) 1).run Tryz.prog W = .ok (.int .u64 (ub b)) W := by
  kernel_rfl
theorem fld2 (x : Sc) (W : World) : (Instr.field 28 (.agg #[.int .u64 (ub x.1.1), .int .u64 (ub x.1.2), .int .u64 (ub x.2.1), .int .u64 (ub x.2.2)]) 1).run Tryz.prog W = .ok (.agg #[.int .u64 (ub x.2.1), .int .u64 (ub x.2.2)]) W := by
  kernel_rfl
def mostX (op : Int) (c : Bool) : B64 := if unsI op = op then topW c else topW c / 2#64
set_option maxHeartbeats 4000000 in
theorem cMost_true (op : Int) (w : World) : Calls Tryz.prog 61 #[.int .i64 op, .bool true] w fun e w' => e = .returned (.int .u64 (ub (mostX op true))) ∧ Below w.heap.size w w' := by
  have X1 := fun W => cBelow_any (szI true) W
  rw [show belowI (szI true) = belowX true from below64, show szI true = 64 from rfl] at X1
  have X2 := fun W => cUns_any op W
  have ht : (belowX true).2.2 = topW true := rfl
  obtain ⟨R, HR⟩ : ∃ R, R = mostX op true := ⟨_, rfl⟩
  rw [← HR]
  unfold mostX at HR
  rw [← ht] at HR
  clear ht
  generalize belowX true = y at *
  generalize unsI op = u at *
  have HF := fun W => fld2 y W
  have HF3 := fun W => fld3 y.2.1 y.2.2 W
  unfold sv at X1
  replace X1 := hid X1
  replace X2 := hid X2
  by_cases hu : u = op
  · subst hu
    rw [if_pos rfl] at HR
    subst HR
    have hn : (u != u) = false := by simp
    go_enter Tryz.func61, Tryz.ntmps61
    go_wp2_with fail
    refine (X1.out _).mono ?_
    rintro e w1 ⟨rfl, z⟩
    go_wp2_with fail
    refine (X2.out _).mono ?_
    rintro e w_ ⟨rfl, rfl⟩
    go_wp2
    go_ret
    exact ⟨rfl, z⟩
  · rw [if_neg hu] at HR
    subst HR
    have hn : (u != op) = true := by simpa using hu
    clear hu
    go_enter Tryz.func61, Tryz.ntmps61
    go_wp2_with fail
    refine (X1.out _).mono ?_
    rintro e w1 ⟨rfl, z⟩
    go_wp2_with fail
    refine (X2.out _).mono ?_
    rintro e w_ ⟨rfl, rfl⟩
    go_wp2
    go_ret
    exact ⟨rfl, z⟩
set_option maxHeartbeats 4000000 in
theorem cMost_false (op : Int) (w : World) : Calls Tryz.prog 61 #[.int .i64 op, .bool false] w fun e w' => e = .returned (.int .u64 (ub (mostX op false))) ∧ Below w.heap.size w w' := by
  have X1 := fun W => cBelow_any (szI false) W
  rw [show belowI (szI false) = belowX false from below32, show szI false = 32 from rfl] at X1
  have X2 := fun W => cUns_any op W
  have ht : (belowX false).2.2 = topW false := rfl
  obtain ⟨R, HR⟩ : ∃ R, R = mostX op false := ⟨_, rfl⟩
  rw [← HR]
  unfold mostX at HR
  rw [← ht] at HR
  clear ht
  generalize belowX false = y at *
  generalize unsI op = u at *
  have HF := fun W => fld2 y W
  have HF3 := fun W => fld3 y.2.1 y.2.2 W
  unfold sv at X1
  replace X1 := hid X1
  replace X2 := hid X2
  by_cases hu : u = op
  · subst hu
    rw [if_pos rfl] at HR
    subst HR
    have hn : (u != u) = false := by simp
    go_enter Tryz.func61, Tryz.ntmps61
    go_wp2_with fail
    refine (X1.out _).mono ?_
    rintro e w1 ⟨rfl, z⟩
    go_wp2_with fail
    refine (X2.out _).mono ?_
    rintro e w_ ⟨rfl, rfl⟩
    go_wp2
    go_ret
    exact ⟨rfl, z⟩
  · rw [if_neg hu] at HR
    subst HR
    have hn : (u != op) = true := by simpa using hu
    clear hu
    go_enter Tryz.func61, Tryz.ntmps61
    go_wp2_with fail
    refine (X1.out _).mono ?_
    rintro e w1 ⟨rfl, z⟩
    go_wp2_with fail
    refine (X2.out _).mono ?_
    rintro e w_ ⟨rfl, rfl⟩
    go_wp2
    go_ret
    exact ⟨rfl, z⟩
theorem cMost_any (op : Int) (c : Bool) (w : World) : Calls Tryz.prog 61 #[.int .i64 op, .bool c] w fun e w' => e = .returned (.int .u64 (ub (mostX op c))) ∧ Below w.heap.size w w' := by
  cases c
  · exact cMost_false op w
  · exact cMost_true op w
end Go.Proofs.YtodmikjpmcabiaaGreat
