/-
  Contracts of graph's small functions: broad, target, begins, starts.
-/
import Derived.Test.YtodmikjpmcabiabDoorDShT
import Derived.Test.YtodmikjpmcabiabDoorDShC
namespace Go.Proofs.YtodmikjpmcabiabDoor
set_option linter.unusedSimpArgs false
set_option linter.unusedVariables false
set_option maxRecDepth 100000
open Go.ChangeShapes Go.WideShapes Go.ChangeAt Go.RowKit

theorem gbroad_I (x : I5) (hx : x.ok) (w : World) (hz : SzOk w) : Calls Tryd.prog 34 #[x.V] w fun e w' => e = .returned (.bool (x.p == 2)) ∧ Below w.heap.size w w' := by
  have HP := hid fun W h => places_I x hx W h
  have HZ := hid hz
  clear hz
  generalize x.p = p at *
  obtain ⟨op, dst, src, off, imm⟩ := x
  unfold I5.V at *
  dsimp only at *
  go_enter Tryd.func34, Tryd.ntmps34
  go_wp2_with fail
  have bA := (Below.refl w.heap.size w).alloc (Nat.le_refl _) (.cells #[.int .u8 op, .int .u8 dst, .int .u8 src, .int .i16 off, .int .i32 imm] 45)
  refine (HP.out _ (HZ.out.below bA)).mono ?_
  rintro e w1 ⟨rfl, b1⟩
  have HB := hid (below_next bA b1)
  clear b1 bA
  go_wp2
  go_ret
  exact ⟨rfl, HB.out⟩
theorem gtarget_I (at_ : Int) (x : I5) (hx : x.ok) (w : World) (h0 : 0 ≤ at_) (h1 : at_ < 4611686018427387904) : Calls Tryd.prog 37 #[.int .i64 at_, x.V] w fun e w' => e = .returned (.int .i64 (at_ + 1 + x.off)) ∧ Below w.heap.size w w' := by
  obtain ⟨_, _, _, _, _, _, o0, o1, _⟩ := hx
  obtain ⟨op, dst, src, off, imm⟩ := x
  unfold I5.V at *
  dsimp only at *
  go_enter Tryd.func37, Tryd.ntmps37
  go_wp2
  go_ret
  exact ⟨rfl, (Below.refl _ _).alloc (Nat.le_refl _) _⟩

/-- A run of broad ones that ends ahead of the place k. -/
theorem run_hf {c : List I5} {k a : Nat} (ha : a ≤ k) (hr : ∀ j, j < a → ((at5 c (k - 1 - j)).p == 2) = true) (hl : a = k ∨ ((at5 c (k - 1 - a)).p == 2) = false) : hf c k = (a % 2 == 1) := by
  have h0 : hf c (k - a) = false := by
    rcases hl with h | h
    · rw [h, Nat.sub_self]; rfl
    · by_cases e : k - a = 0
      · rw [e]; rfl
      · obtain ⟨q, hq⟩ : ∃ q, k - a = q + 1 := ⟨k - a - 1, by omega⟩
        rw [hq, hf]
        have : k - 1 - a = q := by omega
        rw [this] at h
        rw [h, Bool.and_false]
  have h1 : ∀ i, i ≤ a → hf c (k - a + i) = (i % 2 == 1) := by
    intro i
    induction i with
    | zero => intro _; rw [Nat.add_zero, h0]; rfl
    | succ i ih =>
      intro hi
      rw [show k - a + (i + 1) = (k - a + i) + 1 by omega, hf, ih (by omega)]
      have := hr (a - 1 - i) (by omega)
      rw [show k - 1 - (a - 1 - i) = k - a + i by omega] at this
      rw [this, Bool.and_true]
      rcases Nat.mod_two_eq_zero_or_one i with h | h <;> simp [h, Nat.add_mod]
  have := h1 a (Nat.le_refl _)
  rwa [Nat.sub_add_cancel ha] at this
set_option maxRecDepth 100000 in
set_option maxHeartbeats 2000000 in
theorem gbegins_I (p : Option Addr) (cap : Nat) (c : List I5) (k : Nat) (hk : k ≤ c.length) (w : World) (hz : SzOk w) (hsl : CdSl w.heap.size w p c.length c) : Calls Tryd.prog 27 #[.slice p c.length cap, .int .i64 k] w fun e w' => e = .returned (.bool (stB c k)) ∧ Below w.heap.size w w' := by
  have HSL := hid hsl
  have HZ := hid hz
  have hlen := hsl.2.2.1
  clear hsl hz
  go_enter Tryd.func27, Tryd.ntmps27
  go_wp2
  go_loopw [5] (fun i wr => ∃ a : Nat, i = .int .i64 a ∧ a ≤ k ∧ Hid (∀ j, j < a → ((at5 c (k - 1 - j)).p == 2) = true) ∧ Hid (Below w.heap.size w wr)) (fun i _ => k - (intOf i).toNat)
  case atStart => exact ⟨0, rfl, by omega, hid (fun j hj => by omega), hid (Below.refl _ _)⟩
  case round =>
    obtain ⟨a, rfl, ha, HR, HB⟩ := hrel
    by_cases hlt : a < k
    · obtain ⟨b, off, hp, hb, hins⟩ := (HSL.out.kept HB.out (Nat.le_refl _)).2.2.2.resolve_left (by omega)
      subst hp
      have hq : (k : Int) - 1 - (a : Int) = ((k - 1 - a : Nat) : Int) := by omega
      have hql : k - 1 - a < c.length := by omega
      have hli : (a : Int) < (k : Int) := by omega
      obtain ⟨i0, i1, i2, i3, i4⟩ := hins (k - 1 - a) hql
      have hok := at5_ok HSL.out.2.1 (k - 1 - a)
      have HBR := hid (gbroad_I (at5 c (k - 1 - a)) hok wr (HZ.out.below HB.out))
      have hR2 : ((at5 c (k - 1 - a)).p == 2) = true → Hid (∀ j, j < a + 1 → ((at5 c (k - 1 - j)).p == 2) = true) := fun h => hid (fun j hj => by
        by_cases e : j = a
        · subst e; exact h
        · exact HR.out j (by omega))
      have hfin : ((at5 c (k - 1 - a)).p == 2) = false → Hid (stB c k = (a % 2 == 0)) := fun h => hid (by
        unfold stB
        rw [run_hf (by omega) HR.out (.inr h)]
        rcases Nat.mod_two_eq_zero_or_one a with h | h <;> simp [h])
      have HR2 := hid hR2
      have HFIN := hid hfin
      have hq0 : 0 ≤ (k : Int) - 1 := by omega
      have hd : decide ((a : Int) < (k : Int)) = true := decide_eq_true hli
      have hqn : ((k - 1 - a : Nat) : Int) < (c.length : Int) := by omega
      clear hins hok hR2 hfin
      generalize k - 1 - a = q at *
      go_wp2_with fail
      refine HBR.out.mono ?_
      rintro e w2 ⟨rfl, b2⟩
      have HB2 := hid (below_next HB.out b2)
      clear b2 i0 i1 i2 i3 i4 HBR
      cases hb2 : ((at5 c q).p == 2)
      · have HF := HFIN.out hb2
        have HM := hid (show ((a : Int) % 2 == 0) = (a % 2 == 0) by
          rw [Bool.eq_iff_iff]; simp only [beq_iff_eq]; omega)
        clear hb2
        go_wp2
        go_ret
        exact ⟨by rw [HF.out, HM.out]; rfl, HB2.out⟩
      · have HR3 := HR2.out hb2
        clear hb2
        go_wp2
        go_roundw
        case rel => exact ⟨a + 1, by simp, by omega, HR3, HB2⟩
        case measure => simp [intOf]; omega
    · obtain rfl : a = k := by omega
      have HF := hid (show stB c a = (a % 2 == 0) by
        unfold stB
        rw [run_hf (Nat.le_refl _) HR.out (.inl rfl)]
        rcases Nat.mod_two_eq_zero_or_one a with h | h <;> simp [h])
      have HM := hid (show ((a : Int) % 2 == 0) = (a % 2 == 0) by
        rw [Bool.eq_iff_iff]; simp only [beq_iff_eq]; omega)
      go_wp2
      go_ret
      exact ⟨by rw [HF.out, HM.out]; rfl, HB.out⟩

/-- The list of starts, as far as it is laid. -/
def GsI (w : World) (c : List I5) (k : Nat) (W : World) : Prop := (∀ j, j < c.length → W.cell? ⟨w.heap.size, j, none⟩ = some (.bool (if j < k then stB c j else false)) ∧ W.frozen? ⟨w.heap.size, j, none⟩ = false) ∧ Below w.heap.size w W ∧ w.heap.size < W.heap.size
theorem GsI.next {w : World} {c : List I5} {k : Nat} {W W' : World} (h : GsI w c k W) (hb : Below W.heap.size W W') : GsI w c k W' :=
  ⟨fun j hj => ⟨cn hb (h.1 j hj).1, (hb.frz (p := ⟨w.heap.size, j, none⟩) h.2.2).trans (h.1 j hj).2⟩, below_next h.2.1 hb, Nat.lt_of_lt_of_le h.2.2 hb.size⟩
theorem GsI.put {w : World} {c : List I5} {k : Nat} {W : World} (h : GsI w c k W) (hk : k < c.length) {b : Bool} (hb : stB c k = b) : GsI w c (k + 1) (W.setCell ⟨w.heap.size, k, none⟩ (.bool b)) := by
  refine ⟨fun j hj => ⟨?_, ?_⟩, h.2.1.setCell (p := ⟨w.heap.size, k, none⟩) (Nat.le_refl _) _, by simp [World.setCell]; exact h.2.2⟩
  · by_cases e : j = k
    · subst e
      rw [World.cell?_setCell_same' _ _ _ (by rw [(h.1 j hj).1]; rfl), if_pos (by omega), hb]
    · rw [set_oth (by intro h; apply e; injection h with _ h2; exact h2.symm), (h.1 j hj).1]
      by_cases e2 : j < k
      · rw [if_pos e2, if_pos (by omega)]
      · rw [if_neg e2, if_neg (by omega)]
  · rw [World.frozen?_setCell]
    exact (h.1 j hj).2
end Go.Proofs.YtodmikjpmcabiabDoor
