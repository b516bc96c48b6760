/-
  Contracts of the document's own Of, and of the laws' small functions 'is' and 'wakes'.
-/
import Derived.Test.YtodmikjpmcabiabDoorDRefF
import Derived.BigRegion
import Derived.ChangeAlike
namespace Go.Proofs.YtodmikjpmcabiabDoor
set_option linter.unusedSimpArgs false
set_option linter.unusedVariables false
set_option maxRecDepth 100000
open Go.ChangeShapes Go.WideShapes Go.ChangeAt Go.RowKit

def rwB (u n : Int) : Bool := (u == 1 && decide (10 < n)) || (u == 2 && decide (9 < n))
theorem wrong_is (u n : Int) (b : Bool) (hb : rwB u n = b) (w : World) : Calls Tryd.prog 53 #[.int .i64 u, .int .u8 n] w fun e w' => e = .returned (.bool b) ∧ w = w' := by
  subst hb
  unfold rwB
  by_cases h1 : u = 1
  · subst h1
    cases h : decide ((10 : Int) < n)
    all_goals
      go_enter Tryd.func53, Tryd.ntmps53
      go_wp2
      go_ret
      exact ⟨rfl, rfl⟩
  by_cases h2 : u = 2
  · subst h2
    cases h : decide ((9 : Int) < n)
    all_goals
      go_enter Tryd.func53, Tryd.ntmps53
      go_wp2
      go_ret
      exact ⟨rfl, rfl⟩
  have e1 : (u == 1) = false := by simpa using h1
  have e2 : (u == 2) = false := by simpa using h2
  rw [e1, e2]
  clear h1 h2
  go_enter Tryd.func53, Tryd.ntmps53
  go_wp2
  go_ret
  exact ⟨rfl, rfl⟩

def rz (u n : Int) : Bool := u == 0 && n != 0
def roE (r : RR) (dst src off imm : Int) : Int :=
  if rwB r.dst dst || rwB r.src src then 21 else if rz r.dst dst || rz r.src src || rz r.off off || rz r.imm imm then 22 else 0
def roV (r : RR) (k : Int) : Rw := if k = 0 then toRw r else r0
def roR (F : Option RR) (dst src off imm : Int) : Int := match F with | none => 20 | some r => roE r dst src off imm

theorem stand_cv (u n : Int) : standB (cv u) n = !rwB u n := by
  unfold standB cv rwB
  by_cases h0 : u = 0
  · subst h0; rfl
  by_cases h1 : u = 1
  · subst h1
    by_cases hn : n ≤ 10
    · have h : ¬ (10 < n) := by omega
      simp [hn, h]
    · have h : 10 < n := by omega
      simp [hn, h]
  by_cases h2 : u = 2
  · subst h2
    by_cases hn : n ≤ 9
    · have h : ¬ (9 < n) := by omega
      simp [hn, h]
    · have h : 9 < n := by omega
      simp [hn, h]
  simp [h0, h1, h2]
theorem be_cv (u n : Int) : beB (cv u) n = !rz u n := by
  unfold beB cv rz
  by_cases h0 : u = 0
  · subst h0
    cases h : (n == 0) <;> simp [bne, h]
  by_cases h1 : u = 1
  · subst h1; rfl
  by_cases h2 : u = 2
  · subst h2; rfl
  simp [h0, h1, h2]
theorem rows_cls : (rowsI.all fun r => decide (r.cls ≠ 0)) = true := by kernel_rfl
theorem found_cls {op src imm : Int} {r : RR} (h : findI op src imm = some r) : r.cls ≠ 0 := by
  have hm := List.mem_of_find?_eq_some h
  have h := rows_cls
  rw [List.all_eq_true] at h
  simpa using h r hm
theorem both_E (op dst src off imm : Int) (h0 : 0 ≤ op) (h1 : op < 256) : tkE (rowI op src imm) dst src off imm = roR (findI op src imm) dst src off imm := by
  rw [link op src imm h0 h1]
  cases hF : findI op src imm with
  | none => rfl
  | some r =>
    have hc := found_cls hF
    show (if r.cls = 0 then _ else _) = roE r dst src off imm
    rw [if_neg hc]
    unfold roE
    show (if (!(standB (cv r.dst) dst && standB (cv r.src) src)) = true then (21 : Int) else if (!(beB (cv r.dst) dst && beB (cv r.src) src && beB (cv r.off) off && beB (cv r.imm) imm)) = true then 22 else 0) = _
    rw [stand_cv, stand_cv, be_cv, be_cv, be_cv, be_cv]
    simp only [Bool.not_and, Bool.not_not]

theorem rof_none (op dst src off imm : Int) (w : World) (h0 : 0 ≤ op) (h1 : op < 256) (d0 : 0 ≤ dst) (d1 : dst < 256) (s0 : 0 ≤ src) (s1 : src < 256) (o0 : -32768 ≤ off) (o1 : off < 32768) (m0 : -2147483648 ≤ imm) (m1 : imm < 2147483648) (hF : Hid (findI op src imm = none)) :
    Calls Tryd.prog 41 #[.agg #[.int .u8 op, .int .u8 dst, .int .u8 src, .int .i16 off, .int .i32 imm]] w fun e w' => e = .returned (.tuple #[whV r0, .int .i64 20]) ∧ Below w.heap.size w w' := by
  have hr := hid fun W => find_any op dst src off imm W s0 s1 m0 m1
  rw [hF.out] at hr
  clear hF
  go_enter Tryd.func41, Tryd.ntmps41
  go_wp2_with fail
  refine (hr.out _).mono ?_
  rintro e w1 ⟨rfl, b1⟩
  obtain ⟨hc, hf⟩ := bcell b1
  have hb1 : Below w.heap.size w w1 := (((Below.refl _ _).alloc (Nat.le_refl _) _).alloc (by simp) _).trans (b1.mono (by simp; omega))
  have hz : w.heap.size + 1 < w1.heap.size := by have := b1.size; simp at this; omega
  have hz' : w.heap.size < w1.heap.size := by omega
  clear b1 hr
  simp only [fdR, rrV, rrz, Option.isSome]
  go_wp2
  exact bodyPost_ret (v := .tuple #[whV r0, .int .i64 20]) (by simp [results, Tryd.results41, go_sem, hc, hz]; rfl) rfl ⟨rfl, ((((((hb1.setCell (by simp) _).setCell (by simp) _).setCell (by simp) _).setCell (by simp) _).setCell (by simp) _).alloc (by simp; omega) _)⟩

set_option maxHeartbeats 1000000 in
theorem rof_w1 (r : RR) (op dst src off imm : Int) (w : World) (h0 : 0 ≤ op) (h1 : op < 256) (d0 : 0 ≤ dst) (d1 : dst < 256) (s0 : 0 ≤ src) (s1 : src < 256) (o0 : -32768 ≤ off) (o1 : off < 32768) (m0 : -2147483648 ≤ imm) (m1 : imm < 2147483648) (hF : Hid (findI op src imm = some r)) (a1 : Hid (rwB r.dst dst = true)) :
    Calls Tryd.prog 41 #[.agg #[.int .u8 op, .int .u8 dst, .int .u8 src, .int .i16 off, .int .i32 imm]] w fun e w' => e = .returned (.tuple #[whV r0, .int .i64 21]) ∧ Below w.heap.size w w' := by
  have hr := hid fun W => find_any op dst src off imm W s0 s1 m0 m1
  rw [hF.out] at hr
  clear hF
  go_enter Tryd.func41, Tryd.ntmps41
  go_wp2_with fail
  refine (hr.out _).mono ?_
  rintro e w1 ⟨rfl, b1⟩
  obtain ⟨hc, hf⟩ := bcell b1
  have hb1 : Below w.heap.size w w1 := (((Below.refl _ _).alloc (Nat.le_refl _) _).alloc (by simp) _).trans (b1.mono (by simp; omega))
  have hz : w.heap.size + 1 < w1.heap.size := by have := b1.size; simp at this; omega
  have hz' : w.heap.size < w1.heap.size := by omega
  clear b1 hr
  simp only [fdR, rrV, Option.isSome]
  go_wp2_with fail
  refine (wrong_is _ _ _ a1.out _).mono ?_
  rintro e w' ⟨rfl, rfl⟩
  go_wp2
  exact bodyPost_ret (v := .tuple #[whV r0, .int .i64 21]) (by simp [results, Tryd.results41, go_sem, hc, hz]; rfl) rfl ⟨rfl, ((((((hb1.setCell (by simp) _).setCell (by simp) _).setCell (by simp) _).setCell (by simp) _).setCell (by simp) _).alloc (by simp; omega) _)⟩

set_option maxHeartbeats 1000000 in
theorem rof_w2 (r : RR) (op dst src off imm : Int) (w : World) (h0 : 0 ≤ op) (h1 : op < 256) (d0 : 0 ≤ dst) (d1 : dst < 256) (s0 : 0 ≤ src) (s1 : src < 256) (o0 : -32768 ≤ off) (o1 : off < 32768) (m0 : -2147483648 ≤ imm) (m1 : imm < 2147483648) (hF : Hid (findI op src imm = some r)) (a1 : Hid (rwB r.dst dst = false)) (a2 : Hid (rwB r.src src = true)) :
    Calls Tryd.prog 41 #[.agg #[.int .u8 op, .int .u8 dst, .int .u8 src, .int .i16 off, .int .i32 imm]] w fun e w' => e = .returned (.tuple #[whV r0, .int .i64 21]) ∧ Below w.heap.size w w' := by
  have hr := hid fun W => find_any op dst src off imm W s0 s1 m0 m1
  rw [hF.out] at hr
  clear hF
  go_enter Tryd.func41, Tryd.ntmps41
  go_wp2_with fail
  refine (hr.out _).mono ?_
  rintro e w1 ⟨rfl, b1⟩
  obtain ⟨hc, hf⟩ := bcell b1
  have hb1 : Below w.heap.size w w1 := (((Below.refl _ _).alloc (Nat.le_refl _) _).alloc (by simp) _).trans (b1.mono (by simp; omega))
  have hz : w.heap.size + 1 < w1.heap.size := by have := b1.size; simp at this; omega
  have hz' : w.heap.size < w1.heap.size := by omega
  clear b1 hr
  simp only [fdR, rrV, Option.isSome]
  go_wp2_with fail
  refine (wrong_is _ _ _ a1.out _).mono ?_
  rintro e w' ⟨rfl, rfl⟩
  go_wp2_with fail
  refine (wrong_is _ _ _ a2.out _).mono ?_
  rintro e w' ⟨rfl, rfl⟩
  go_wp2
  exact bodyPost_ret (v := .tuple #[whV r0, .int .i64 21]) (by simp [results, Tryd.results41, go_sem, hc, hz]; rfl) rfl ⟨rfl, ((((((hb1.setCell (by simp) _).setCell (by simp) _).setCell (by simp) _).setCell (by simp) _).setCell (by simp) _).alloc (by simp; omega) _)⟩

end Go.Proofs.YtodmikjpmcabiabDoor
