/-
  Contract of standing, with one answer.
-/
import Derived.Test.YtdnkikgfiganaaaDoorShC
namespace Go.Proofs.YtdnkikgfiganaaaDoor
set_option linter.unusedSimpArgs false
set_option linter.unusedVariables false
open Go.ChangeShapes Go.WideShapes Go.ChangeAt Go.RowKit

theorem p_of_e (x : I5) (h : x.e = 0) : x.p = 1 ∨ x.p = 2 := by
  have h' : uE x.op x.dst x.src x.off x.imm = 0 := h
  unfold I5.p uP
  rw [if_neg (by simpa using h')]
  split
  · exact .inr rfl
  split
  · exact .inr rfl
  · exact .inl rfl
theorem standing_I (x : I5) (hx : x.ok) (r : Option I5) (maps : Int) (b off n cap : Nat) (w : World) (hz : SzOk w) (hn : 0 < n) (hcap : n ≤ cap) (hi : InsAt w b off x) (hr : NextAt w b off n r) :
    Calls Tryd.prog 43 #[.slice (some ⟨b, off, none⟩) n cap, .int .i64 maps] w fun e w' => e = .returned (.int .i64 (aloneE maps x r)) ∧ Below w.heap.size w w' := by
  unfold aloneE
  by_cases hE : x.e = 0
  · have hE' : (x.e != 0) = false := by simpa using hE
    rw [if_neg (by simpa using hE)]
    rcases p_of_e x hE with hP | hP
    · rw [if_neg (by rw [hP]; omega)]
      cases k1 : (x.t.cls == 11)
      · have k1' : ¬ x.t.cls = 11 := by simpa using k1
        rw [if_neg (fun h => k1' h.1)]
        cases k4 : (x.t.cls == 8)
        · have k4' : ¬ x.t.cls = 8 := by simpa using k4
          rw [if_neg (fun h => k4' h.1)]
          exact standing_pg x hx r maps b off n cap w hz hn hcap hi hr hE' hP k1 k4
        · have k4' : x.t.cls = 8 := by simpa using k4
          cases k5 : helpB x.imm
          · rw [if_pos ⟨k4', rfl⟩]
            exact standing_pd x hx r maps b off n cap w hz hn hcap hi hr hE' hP k1 k4 k5
          · rw [if_neg (fun h => by cases h.2)]
            exact standing_pf x hx r maps b off n cap w hz hn hcap hi hr hE' hP k1 k4 k5
      · have k1' : x.t.cls = 11 := by simpa using k1
        by_cases k2 : x.imm < 0
        · rw [if_pos ⟨k1', .inl k2⟩]
          exact standing_pa x hx r maps b off n cap w hz hn hcap hi hr hE' hP k1 (by simpa using k2)
        by_cases k3 : maps ≤ x.imm
        · rw [if_pos ⟨k1', .inr k3⟩]
          exact standing_pb x hx r maps b off n cap w hz hn hcap hi hr hE' hP k1 (by simpa using k2) (by simpa using k3)
        rw [if_neg (fun h => h.2.elim k2 k3), if_neg (fun h => by have := h.1; omega)]
        exact standing_pc x hx r maps b off n cap w hz hn hcap hi hr hE' hP k1 (by simpa using k2) (by simpa using k3) (by rw [k1']; rfl)
    · cases hB : wholeB x.t.cls r
      · rw [if_pos ⟨hP, rfl⟩]
        exact standing_h x hx r maps b off n cap w hz hn hcap hi hr hE' hP hB
      rw [if_neg (fun h => by cases h.2)]
      cases k1 : (x.t.cls == 11)
      · have k1' : ¬ x.t.cls = 11 := by simpa using k1
        rw [if_neg (fun h => k1' h.1)]
        cases k4 : (x.t.cls == 8)
        · have k4' : ¬ x.t.cls = 8 := by simpa using k4
          rw [if_neg (fun h => k4' h.1)]
          exact standing_qg x hx r maps b off n cap w hz hn hcap hi hr hE' hP hB k1 k4
        · have k4' : x.t.cls = 8 := by simpa using k4
          cases k5 : helpB x.imm
          · rw [if_pos ⟨k4', rfl⟩]
            exact standing_qd x hx r maps b off n cap w hz hn hcap hi hr hE' hP hB k1 k4 k5
          · rw [if_neg (fun h => by cases h.2)]
            exact standing_qf x hx r maps b off n cap w hz hn hcap hi hr hE' hP hB k1 k4 k5
      · have k1' : x.t.cls = 11 := by simpa using k1
        by_cases k2 : x.imm < 0
        · rw [if_pos ⟨k1', .inl k2⟩]
          exact standing_qa x hx r maps b off n cap w hz hn hcap hi hr hE' hP hB k1 (by simpa using k2)
        by_cases k3 : maps ≤ x.imm
        · rw [if_pos ⟨k1', .inr k3⟩]
          exact standing_qb x hx r maps b off n cap w hz hn hcap hi hr hE' hP hB k1 (by simpa using k2) (by simpa using k3)
        rw [if_neg (fun h => h.2.elim k2 k3), if_neg (fun h => by have := h.1; omega)]
        exact standing_qc x hx r maps b off n cap w hz hn hcap hi hr hE' hP hB k1 (by simpa using k2) (by simpa using k3) (by rw [k1']; rfl)
  · rw [if_pos hE]
    exact standing_e x hx r maps b off n cap w hz hn hcap hi hr (by simpa using hE)
end Go.Proofs.YtdnkikgfiganaaaDoor
