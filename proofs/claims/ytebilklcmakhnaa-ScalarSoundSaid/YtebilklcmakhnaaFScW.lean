/-
  The laws' loop over Each; ScalarKeeps' walk.
-/
import Derived.Test.YtebilklcmakhnaaFScV
import Derived.Test.YtebilklcmakhnaaFScR
namespace Go.Proofs.Ytebilklcmakhnaa
set_option linter.unusedSimpArgs false
set_option linter.unusedVariables false
set_option maxRecDepth 100000
open Go.ChangeShapes Go.WideShapes Go.ChangeAt Go.RowKit

/-- A sum's cells lie where they should. -/
def SmAt (w : World) (g k : Nat) (r : Sm) : Prop := ∀ j u, (smCells r)[j]? = some u → w.cell? ⟨g, k * 10 + j, none⟩ = some u
theorem flat_getM (L : List Sm) (k : Nat) (r : Sm) (hk : L[k]? = some r) (j : Nat) (hj : j < 10) : (L.flatMap smCells)[k * 10 + j]? = (smCells r)[j]? := by
  induction L generalizing k with
  | nil => simp at hk
  | cons a L ih =>
    rw [List.flatMap_cons]
    cases k with
    | zero =>
      simp at hk
      subst hk
      rw [List.getElem?_append_left (by show _ < 10; omega)]
      simp
    | succ k =>
      rw [List.getElem?_append_right (by show 10 ≤ _; omega)]
      have h : (k + 1) * 10 + j - (smCells a).length = k * 10 + j := by show _ - 10 = _; omega
      rw [h]
      exact ih k (by simpa using hk)
theorem own_formM {w0 w : World} {v : Value} {L : List Sm} (h : OwnM w0 w v L) (hL : L.length = 29) : ∃ g cap, v = .slice (some ⟨g, 0, none⟩) 29 cap ∧ g < w.heap.size ∧ ∀ k r, L[k]? = some r → SmAt w g k r := by
  obtain ⟨h1, hb⟩ := h
  rcases h1.2 with ⟨_, hn⟩ | ⟨g, cap, cur, rfl, hg, hh, _⟩
  · rw [hL] at hn; cases hn
  · rw [hL] at h1 ⊢
    refine ⟨g, cap, rfl, (h1.lt g rfl).2, ?_⟩
    intro k r hk j u hu
    have hj : j < 10 := by
      have := (List.getElem?_eq_some_iff.1 hu).1
      exact this
    have hc := h1.cells (g := g) rfl (k * 10 + j) u (by rw [flat_getM _ k r hk j hj]; exact hu)
    have e : ((⟨g, 0, none⟩ : Addr).add (k * 10 + j)) = ⟨g, k * 10 + j, none⟩ := by simp only [Addr.add]; split <;> simp_all
    rwa [e] at hc
theorem SmAt.below {w w' : World} {g k : Nat} {r : Sm} (h : SmAt w g k r) (hb : Below w.heap.size w w') (hg : g < w.heap.size) : SmAt w' g k r := fun j u hu => (hb.cell (p := ⟨g, k * 10 + j, none⟩) hg).trans (h j u hu)
/-- What Each answers, as a law's loop reads it. -/
theorem each_form {w w' : World} {s : Sm} {e : Ending} (h : EachPost w s e w') : ∃ g cap, e = .returned (.slice (some ⟨g, 0, none⟩) 29 cap) ∧ Below w.heap.size w w' ∧ g < w'.heap.size ∧ ∀ k, k < 29 → ∃ op c, SmAt w' g k (op, c, s.2.2.1, s.2.2.2) := by
  obtain ⟨v, w0, rfl, hb, ho⟩ := h
  have hl : (eachL s 14).length = 29 := by rw [eachL_len]
  have hm := eachL_mem s 14
  generalize eachL s 14 = L at *
  obtain ⟨g, cap, rfl, hg, hc⟩ := own_formM ho hl
  refine ⟨g, cap, rfl, below_next hb ho.2, hg, fun k hk => ?_⟩
  have hk' : k < L.length := by omega
  have h1 := hm (L[k]) (List.getElem_mem hk')
  have h2 := hc k _ (List.getElem?_eq_getElem hk')
  generalize L[k] = r at h1 h2
  obtain ⟨o, d, r⟩ := r
  dsimp only at h1
  subst h1
  exact ⟨o, d, h2⟩
set_option maxHeartbeats 8000000 in
theorem keeps_walk (op : Int) (c : Bool) (a b : Sc) (x y : B64) (w : World) : Calls Try.prog 4 #[sumV op c a b, .int .u64 (ub x), .int .u64 (ub y)] w fun e w' => e = .returned (.bool true) ∧ Below w.heap.size w w' := by
  have X1 := hid fun W => each_any op c a b W
  have X2 := hid fun (o : Int) (d : Bool) (k : Bool) (W : World) => keeps_true o d a b x y k W
  have X3 := hid fun W => awake_true W
  unfold sumV at X1 X2 ⊢
  go_enter Try.func4, Try.ntmps4
  go_wp2_with fail
  have JM : SmC (w.alloc (.cells #[.int .i64 op, .bool c, .int .u64 (ub a.1.1), .int .u64 (ub a.1.2), .int .u64 (ub a.2.1), .int .u64 (ub a.2.2), .int .u64 (ub b.1.1), .int .u64 (ub b.1.2), .int .u64 (ub b.2.1), .int .u64 (ub b.2.2)] 30)) (w.heap.size) op c a b := (SmC.new rfl)
  have B : Below w.heap.size w (w.alloc (.cells #[.int .i64 op, .bool c, .int .u64 (ub a.1.1), .int .u64 (ub a.1.2), .int .u64 (ub a.2.1), .int .u64 (ub a.2.2), .int .u64 (ub b.1.1), .int .u64 (ub b.1.2), .int .u64 (ub b.2.1), .int .u64 (ub b.2.2)] 30)) := (bel_alloc (Below.refl _ _))
  generalize (w.alloc (.cells #[.int .i64 op, .bool c, .int .u64 (ub a.1.1), .int .u64 (ub a.1.2), .int .u64 (ub a.2.1), .int .u64 (ub a.2.2), .int .u64 (ub b.1.1), .int .u64 (ub b.1.2), .int .u64 (ub b.2.1), .int .u64 (ub b.2.2)] 30)) = w00 at *
  have JM0 := JM.c0
  have JM1 := JM.c1
  have JM2 := JM.c2
  have JM3 := JM.c3
  have JM4 := JM.c4
  have JM5 := JM.c5
  have JM6 := JM.c6
  have JM7 := JM.c7
  have JM8 := JM.c8
  have JM9 := JM.c9
  have JMl := JM.lt
  have lb := B.size
  go_wp2_with fail
  clear JM0 JM1 JM2 JM3 JM4 JM5 JM6 JM7 JM8 JM9 JMl lb
  refine (X1.out _).mono ?_
  intro e w1 hE
  obtain ⟨g, cap, rfl, z, hg, HS⟩ := each_form hE
  clear hE
  have B1 := below_next B z
  clear JM B
  have HS0 := hid HS
  clear HS z
  go_wp2_with fail
  go_loopw [12] (fun i wr => ∃ k : Nat, k ≤ 29 ∧ i = .int .i64 k ∧ Hid (Below w1.heap.size w1 wr)) (fun i _ => 29 - (intOf i).toNat)
  case atStart => exact ⟨0, by omega, rfl, hid (Below.refl _ _)⟩
  case round =>
    obtain ⟨k, hk, rfl, HB⟩ := hrel
    obtain ⟨wo, rfl⟩ : ∃ wo : World, wo = wr := ⟨_, rfl⟩
    by_cases hlt : k < 29
    · have hk29 : (k : Int) < 29 := by omega
      obtain ⟨o, d, hA⟩ := HS0.out k hlt
      have HA := hid (hA.below HB.out hg)
      clear hA
      have hgo : g < wo.heap.size := Nat.lt_of_lt_of_le hg HB.out.size
      have r0 : wo.cell? ⟨g, k * 10, none⟩ = some (.int .i64 o) := HA.out 0 _ rfl
      have r1 : wo.cell? ⟨g, k * 10 + 1, none⟩ = some (.bool d) := HA.out 1 _ rfl
      have r2 : wo.cell? ⟨g, k * 10 + 2, none⟩ = some (.int .u64 (ub a.1.1)) := HA.out 2 _ rfl
      have r3 : wo.cell? ⟨g, k * 10 + 3, none⟩ = some (.int .u64 (ub a.1.2)) := HA.out 3 _ rfl
      have r4 : wo.cell? ⟨g, k * 10 + 4, none⟩ = some (.int .u64 (ub a.2.1)) := HA.out 4 _ rfl
      have r5 : wo.cell? ⟨g, k * 10 + 5, none⟩ = some (.int .u64 (ub a.2.2)) := HA.out 5 _ rfl
      have r6 : wo.cell? ⟨g, k * 10 + 6, none⟩ = some (.int .u64 (ub b.1.1)) := HA.out 6 _ rfl
      have r7 : wo.cell? ⟨g, k * 10 + 7, none⟩ = some (.int .u64 (ub b.1.2)) := HA.out 7 _ rfl
      have r8 : wo.cell? ⟨g, k * 10 + 8, none⟩ = some (.int .u64 (ub b.2.1)) := HA.out 8 _ rfl
      have r9 : wo.cell? ⟨g, k * 10 + 9, none⟩ = some (.int .u64 (ub b.2.2)) := HA.out 9 _ rfl
      go_wp2_with fail
      refine (X2.out o d true _).mono ?_
      rintro e w2 ⟨rfl, z⟩
      clear r0 r1 r2 r3 r4 r5 r6 r7 r8 r9
      have J : SmC w2 wo.heap.size o d a b := (SmC.new rfl).below z
      have B2 : Below w1.heap.size w1 w2 := below_next (bel_alloc HB.out) z
      clear z HA HB
      have j0 := J.c0
      have j1 := J.c1
      have j2 := J.c2
      have j3 := J.c3
      have j4 := J.c4
      have j5 := J.c5
      have j6 := J.c6
      have j7 := J.c7
      have j8 := J.c8
      have j9 := J.c9
      have jl := J.lt
      clear J
      go_wp2_with fail
      refine (X2.out o d false _).mono ?_
      rintro e w3 ⟨rfl, z⟩
      have B3 := hid (below_next B2 z)
      clear z B2 j0 j1 j2 j3 j4 j5 j6 j7 j8 j9 jl
      go_wp2
      go_roundw
      case rel => exact ⟨k + 1, by omega, by go_num, B3⟩
      case measure => simp [intOf]; omega
    · have hk9 : k = 29 := by omega
      subst hk9
      have hno : ¬ ((29 : Int) < 29) := by decide
      go_wp2_with fail
      refine (X3.out _).mono ?_
      rintro e w4 ⟨rfl, z⟩
      have B4 := hid (below_next B1 (below_next HB.out z))
      clear z HB
      go_wp2
      go_ret
      exact ⟨rfl, B4.out⟩
end Go.Proofs.Ytebilklcmakhnaa
