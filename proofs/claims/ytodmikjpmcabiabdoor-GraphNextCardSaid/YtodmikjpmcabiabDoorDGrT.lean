/-
  Contract of the document's Start (layer 5): is a place a start? Contract of the document's Leads (layer 5): does a start lead to another one?
-/
import Derived.Test.YtodmikjpmcabiabDoorDShR
import Derived.Test.YtodmikjpmcabiabDoorDShC
namespace Go.Proofs.YtodmikjpmcabiabDoor
set_option linter.unusedSimpArgs false
set_option linter.unusedVariables false
set_option maxRecDepth 100000
open Go.ChangeShapes Go.WideShapes Go.ChangeAt Go.RowKit

set_option maxRecDepth 100000 in
set_option maxHeartbeats 2000000 in
theorem rstart_I (p : Option Addr) (cap : Nat) (c : List I5) (k : Nat) (hk : k < c.length) (w : World) (hsl : CdSl w.heap.size w p c.length c) : Calls Tryd.prog 32 #[.slice p c.length cap, .int .i64 (k : Int)] w fun e w' => e = .returned (.bool (stB c k)) ∧ Below w.heap.size w w' := by
  have HSL := hid hsl
  have hlen := hsl.2.2.1
  clear hsl
  go_enter Tryd.func32, Tryd.ntmps32
  go_wp2
  go_loopw [5] (fun i wr => ∃ j : Nat, i = .int .i64 j ∧ j ≤ k + 1 ∧ Hid (stB c j = true ∧ (j = k + 1 → stB c k = false)) ∧ Hid (Below w.heap.size w wr)) (fun i _ => k + 1 - (intOf i).toNat)
  case atStart => exact ⟨0, rfl, by omega, hid ⟨rfl, fun h => by omega⟩, hid (Below.refl _ _)⟩
  case round =>
    obtain ⟨j, rfl, hj, HJ, HB⟩ := hrel
    by_cases hlt : j < k
    · obtain ⟨b, off, hp, hb, hins⟩ := (HSL.out.kept HB.out (Nat.le_refl _)).2.2.2.resolve_left (by omega)
      subst hp
      obtain ⟨i0, i1, i2, i3, i4⟩ := hins j (by omega)
      have hok := at5_ok HSL.out.2.1 j
      have hl0 : 0 ≤ (j : Int) := by omega
      have hl1 : (j : Int) < (c.length : Int) := by omega
      have hl2 : (j : Int) < (k : Int) := by omega
      have hn := stB_next HJ.out.1
      have HPL := hid (rplaces_I (at5 c j) hok wr)
      have hpc := p_cases (at5 c j)
      unfold stepN at hn
      clear hins hok
      have HN := hid hn
      clear hn
      go_wp2_with fail
      refine HPL.out.mono ?_
      rintro e w2 ⟨rfl, b2⟩
      have HB2 := hid (below_next HB.out b2)
      clear b2 i0 i1 i2 i3 i4 HPL HB
      rcases hpc with hp | hp | hp
      · have h2 := HN.out
        rw [hp] at h2 ⊢
        have HJ2 := hid (show stB c (j + 1) = true ∧ (j + 1 = k + 1 → stB c k = false) from ⟨by simpa using h2.1, fun h => by omega⟩)
        clear h2 hp HN HJ
        go_wp2
        go_roundw
        case rel => exact ⟨j + 1, by simp, by omega, HJ2, HB2⟩
        case measure => simp [intOf]; omega
      · have h2 := HN.out
        rw [hp] at h2 ⊢
        have HJ2 := hid (show stB c (j + 1) = true ∧ (j + 1 = k + 1 → stB c k = false) from ⟨by simpa using h2.1, fun h => by omega⟩)
        clear h2 hp HN HJ
        go_wp2
        go_roundw
        case rel => exact ⟨j + 1, by simp, by omega, HJ2, HB2⟩
        case measure => simp [intOf]; omega
      · have h2 := HN.out
        rw [hp] at h2 ⊢
        have HJ2 := hid (show stB c (j + 2) = true ∧ (j + 2 = k + 1 → stB c k = false) from ⟨by simpa using h2.1, fun h => by
          have := h2.2 (by simp)
          rwa [show j + 1 = k by omega] at this⟩)
        clear h2 hp HN HJ
        go_wp2
        go_roundw
        case rel => exact ⟨j + 2, by simp, by omega, HJ2, HB2⟩
        case measure => simp [intOf]; omega
    · have hd : decide ((j : Int) < (k : Int)) = false := decide_eq_false (by omega)
      have hk0 : 0 ≤ (k : Int) := by omega
      have hk1 : decide ((k : Int) < (c.length : Int)) = true := decide_eq_true (by omega)
      by_cases e : j = k
      · subst e
        have HS := hid HJ.out.1
        have hjj : ((j : Int) == (j : Int)) = true := by simp
        clear HJ
        go_wp2
        go_ret
        exact ⟨by rw [HS.out]; rfl, HB.out⟩
      · have HS := hid (HJ.out.2 (by omega))
        have hjj : ((j : Int) == (k : Int)) = false := beq_eq_false_iff_ne.2 (by omega)
        clear HJ
        go_wp2
        go_ret
        exact ⟨by rw [HS.out]; rfl, HB.out⟩
end Go.Proofs.YtodmikjpmcabiabDoor

namespace Go.Proofs.YtodmikjpmcabiabDoor
set_option linter.unusedSimpArgs false
set_option linter.unusedVariables false
set_option maxRecDepth 100000
open Go.ChangeShapes Go.WideShapes Go.ChangeAt Go.RowKit

/-- To what an instruction at a leads, told place by place. -/
def ldB (cls : Int) (a b tg : Int) : Bool := if cls = 9 then false else if cls = 7 then b == tg else if cls = 6 then b == tg || b == a + 1 else if cls = 10 ∨ cls = 11 then b == a + 2 else b == a + 1
def leadB (c : List I5) (a b : Nat) : Bool := stB c a && (stB c b && ((at5 c a).e == 0 && ldB (at5 c a).t.cls a b ((a : Int) + 1 + (at5 c a).off)))
set_option maxRecDepth 100000 in
set_option maxHeartbeats 4000000 in
theorem rleads_I (p : Option Addr) (cap : Nat) (c : List I5) (a b : Nat) (ha : a < c.length) (hb : b < c.length) (w : World) (hsl : CdSl w.heap.size w p c.length c) : Calls Tryd.prog 29 #[.slice p c.length cap, .int .i64 (a : Int), .int .i64 (b : Int)] w fun e w' => e = .returned (.bool (leadB c a b)) ∧ Below w.heap.size w w' := by
  have HA := hid fun W (h : Below w.heap.size w W) => rstart_I p cap c a ha W ((hsl.kept h (Nat.le_refl _)).wide h.size)
  have HB := hid fun W (h : Below w.heap.size w W) => rstart_I p cap c b hb W ((hsl.kept h (Nat.le_refl _)).wide h.size)
  have HSL := hid hsl
  have hlen := hsl.2.2.1
  clear hsl
  go_enter Tryd.func29, Tryd.ntmps29
  go_wp2_with fail
  refine (HA.out w (Below.refl _ _)).mono ?_
  rintro e w1 ⟨rfl, b1⟩
  have HB1 := hid b1
  clear b1
  cases hsa : stB c a
  · have HL := hid (show leadB c a b = false by unfold leadB; rw [hsa]; rfl)
    clear hsa
    go_wp2
    go_ret
    exact ⟨by rw [HL.out]; rfl, HB1.out⟩
  have HSA := hid hsa
  clear hsa
  go_wp2_with fail
  refine (HB.out w1 HB1.out).mono ?_
  rintro e w2 ⟨rfl, b2⟩
  have HB2 := hid (below_next HB1.out b2)
  clear b2 HB1
  cases hsb : stB c b
  · have HL := hid (show leadB c a b = false by unfold leadB; rw [HSA.out, hsb]; rfl)
    clear hsb
    go_wp2
    go_ret
    exact ⟨by rw [HL.out]; rfl, HB2.out⟩
  have HL := hid (show leadB c a b = ((at5 c a).e == 0 && ldB (at5 c a).t.cls a b ((a : Int) + 1 + (at5 c a).off)) by unfold leadB; rw [HSA.out, hsb]; rfl)
  clear hsb HSA HA HB
  obtain ⟨bb, off, hp, hbl, hins⟩ := (HSL.out.kept HB2.out (Nat.le_refl _)).2.2.2.resolve_left (by omega)
  subst hp
  obtain ⟨i0, i1, i2, i3, i4⟩ := hins a ha
  have hok := at5_ok HSL.out.2.1 a
  have hl0 : 0 ≤ (a : Int) := by omega
  have hl1 : (a : Int) < (c.length : Int) := by omega
  obtain ⟨_, _, _, _, _, _, o0, o1, _, _⟩ := hok
  have hok := at5_ok HSL.out.2.1 a
  have hbw := World.block_lt_of_cell? w2 _ i0
  have HOF := hid (rof_I (at5 c a) hok w2)
  dsimp only at hbw
  clear hins hok
  go_wp2_with fail
  refine HOF.out.mono ?_
  rintro e w3 ⟨rfl, b3⟩
  have HB3 := hid (below_next HB2.out b3)
  replace i3 := cn b3 i3
  have hbw3 := World.block_lt_of_cell? w3 _ i3
  dsimp only at hbw3
  clear b3 i0 i1 i2 i4 HB2 HOF hbw
  generalize hto : (a : Int) + 1 + (at5 c a).off = to_ at *
  have HTO := hid hto
  clear hto
  generalize (at5 c a).t = T at *
  generalize (at5 c a).e = E at *
  obtain ⟨cls, o2, sz, wd, rg⟩ := T
  unfold whV
  dsimp only at *
  by_cases hE : E = 0
  · have dE : (E != 0) = false := by simpa using hE
    have HL2 := hid (show leadB c a b = ldB cls a b to_ by rw [HL.out, hE]; rfl)
    clear hE HL
    by_cases h9 : cls = 9
    · have d9 : (cls == 9) = true := by simpa using h9
      have HR := hid (show ldB cls a b to_ = false by unfold ldB; rw [if_pos h9])
      clear h9
      go_wp2
      go_ret
      exact ⟨by rw [HL2.out, HR.out]; rfl, HB3.out.alloc HB3.out.size _⟩
    have d9 : (cls == 9) = false := by simpa using h9
    by_cases h7 : cls = 7
    · have d7 : (cls == 7) = true := by simpa using h7
      have HR := hid (show ldB cls a b to_ = ((b : Int) == to_) by unfold ldB; rw [if_neg h9, if_pos h7])
      clear h9 h7
      cases hbt : ((b : Int) == to_)
      all_goals
        rw [← HTO.out] at hbt
        rw [← HTO.out, hbt] at HR
        have HR2 := HR
        go_wp2
        go_ret
        exact ⟨by rw [HL2.out, ← HTO.out, HR.out]; rfl, HB3.out.alloc HB3.out.size _⟩
    have d7 : (cls == 7) = false := by simpa using h7
    by_cases h6 : cls = 6
    · have d6 : (cls == 6) = true := by simpa using h6
      have HR := hid (show ldB cls a b to_ = ((b : Int) == to_ || (b : Int) == (a : Int) + 1) by unfold ldB; rw [if_neg h9, if_neg h7, if_pos h6])
      clear h9 h7 h6
      cases hbt : ((b : Int) == to_)
      all_goals
        rw [← HTO.out] at hbt
        rw [← HTO.out, hbt] at HR
        have HR2 := HR
        go_wp2
        go_ret
        exact ⟨by rw [HL2.out, ← HTO.out, HR.out]; rfl, HB3.out.alloc HB3.out.size _⟩
    have d6 : (cls == 6) = false := by simpa using h6
    by_cases h10 : cls = 10
    · have d10 : (cls == 10) = true := by simpa using h10
      have HR := hid (show ldB cls a b to_ = ((b : Int) == (a : Int) + 2) by unfold ldB; rw [if_neg h9, if_neg h7, if_neg h6, if_pos (.inl h10)])
      clear h9 h7 h6 h10
      go_wp2
      go_ret
      exact ⟨by rw [HL2.out, HR.out]; rfl, HB3.out.alloc HB3.out.size _⟩
    have d10 : (cls == 10) = false := by simpa using h10
    by_cases h11 : cls = 11
    · have d11 : (cls == 11) = true := by simpa using h11
      have HR := hid (show ldB cls a b to_ = ((b : Int) == (a : Int) + 2) by unfold ldB; rw [if_neg h9, if_neg h7, if_neg h6, if_pos (.inr h11)])
      clear h9 h7 h6 h10 h11
      go_wp2
      go_ret
      exact ⟨by rw [HL2.out, HR.out]; rfl, HB3.out.alloc HB3.out.size _⟩
    have d11 : (cls == 11) = false := by simpa using h11
    have HR := hid (show ldB cls a b to_ = ((b : Int) == (a : Int) + 1) by unfold ldB; rw [if_neg h9, if_neg h7, if_neg h6, if_neg (by omega)])
    clear h9 h7 h6 h10 h11
    go_wp2
    go_ret
    exact ⟨by rw [HL2.out, HR.out]; rfl, HB3.out.alloc HB3.out.size _⟩
  · have dE : (E != 0) = true := by simpa using hE
    have HL2 := hid (show leadB c a b = false by rw [HL.out]; simp [hE])
    clear hE HL
    go_wp2
    go_ret
    exact ⟨by rw [HL2.out]; rfl, HB3.out.alloc HB3.out.size _⟩
end Go.Proofs.YtodmikjpmcabiabDoor
