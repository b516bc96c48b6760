/-
  Contracts of a slot's right, as the landed code has it.
-/
import Derived.Test.YtjlaenkfjejbkaaMeS
namespace Go.Proofs.Ytjlaenkfjejbkaa
set_option linter.unusedSimpArgs false
set_option linter.unusedVariables false
open Go.ChangeShapes Go.WideShapes Go.ChangeAt Go.RowKit

theorem vB_false {a b : Vl} : vB a b = false ↔ a ≠ b := by
  rw [← Bool.not_eq_true, vB_iff]
theorem bld_full (k m n o : Int) (W : World) : (Instr.build 33 #[(0, .int .u8 255), (2, .agg #[.int .u8 k, .int .i64 m, .int .u64 n, .int .i64 o])]).run Try.prog W = .ok (.agg #[.int .u8 255, .int .u8 0, .int .u8 0, .int .u8 0, .int .u8 0, .int .u8 0, .int .u8 0, .int .u8 0, .int .u8 0, .int .u8 k, .int .i64 m, .int .u64 n, .int .i64 o]) W := by kernel_rfl
theorem u8_and1_t : ((List.range 256).all fun n => decide (bits .and .u8 (n : Int) 1 = (n : Int) % 2)) = true := by kernel_rfl
theorem u8_and1 (x : Int) (h0 : 0 ≤ x) (h1 : x < 256) : bits .and .u8 x 1 = x % 2 := by
  have h := u8_and1_t
  rw [List.all_eq_true] at h
  have hx := h x.toNat (List.mem_range.2 (by omega))
  rwa [decide_eq_true_eq, show ((x.toNat : Nat) : Int) = x by omega] at hx

theorem bcell {W w1 : World} (hb : Below W.heap.size W w1) : (∀ b o, b < W.heap.size → w1.cell? ⟨b, o, none⟩ = W.cell? ⟨b, o, none⟩) ∧ (∀ b o, b < W.heap.size → w1.frozen? ⟨b, o, none⟩ = W.frozen? ⟨b, o, none⟩) :=
  ⟨fun b o h => hb.cell (p := ⟨b, o, none⟩) h, fun b o h => hb.frozen (p := ⟨b, o, none⟩) h⟩
theorem below_next_w {n : Nat} {a b c : World} (h : Below n a b) (k : Below b.heap.size b c) (hn : n ≤ b.heap.size := by omega) : Below n a c := h.trans (k.mono hn)

theorem right_addr (s : Sl) (w : World) (hs : SOk s) (hv : s.v ≠ v0) : Calls Try.prog 36 #[sV s] w fun e w' => e = .returned (.bool (rightS s)) ∧ Below w.heap.size w w' := by
  obtain ⟨h, l, v⟩ := s
  have hv' : v ≠ v0 := hv
  have HH : Hid (∀ W, Calls Try.prog 43 #[sV ⟨h, l, v⟩] W fun e w' => e = .returned (.bool true) ∧ Below W.heap.size W w') := fun W =>
    (holds_any ⟨h, l, v⟩ W hs).mono fun e w' ⟨a, b⟩ => ⟨by rw [a]; simp [vB_false.2 hv'], b⟩
  have HM := hid (may_any v)
  have HA := hid (isAddress_any v)
  have E := eq_s ⟨h, l, v⟩ ⟨255, z8, v⟩ hs ⟨⟨(by decide : (0 : Int) ≤ 255), (by decide : (255 : Int) < 256)⟩, rfl, by intro x hx; simp [z8] at hx; omega, hs.2.2.2⟩
  have hr : rightS ⟨h, l, v⟩ = (mayB v && (adrB v && sB ⟨h, l, v⟩ ⟨255, z8, v⟩)) := by
    simp [rightS, hv', sB]
    congr 2
    rw [Bool.eq_iff_iff]
    simp
  obtain ⟨a, b, c, d, e, f, g, i, rfl⟩ := eight hs.2.1
  rw [hr]
  generalize sB ⟨h, [a, b, c, d, e, f, g, i], v⟩ ⟨255, z8, v⟩ = r at E ⊢
  obtain ⟨k, m, n, o⟩ := v
  have BL := bld_full k m n o
  unfold z8 at E
  rw [sV_eight, sV_eight] at E
  rw [sV_eight] at HH ⊢
  unfold vV at HM HA
  dsimp only at E HH HM HA ⊢
  clear hv hv' hr hs
  cases h1 : mayB ⟨k, m, n, o⟩
  · rw [h1] at HM
    go_enter Try.func36, Try.ntmps36
    go_wp2_with fail
    refine (HH.out _).mono ?_
    rintro e w1 ⟨rfl, b1⟩
    have B1 := hid (((Below.refl w.heap.size w).alloc (Nat.le_refl _) _).trans (b1.mono (by simp)))
    have q1 : w.heap.size < w1.heap.size := by have := b1.size; simp at this; omega
    obtain ⟨hc1, hf1⟩ := bcell b1
    clear b1
    go_wp2_with fail
    refine (HM.out _).mono ?_
    rintro e w2 ⟨rfl, b2⟩
    have B2 := hid (below_next_w B1.out b2)
    have q2 : w.heap.size < w2.heap.size := by have := b2.size; omega
    obtain ⟨hc2, hf2⟩ := bcell b2
    clear b2
    go_wp2
    go_ret
    exact ⟨rfl, B2.out⟩
  · rw [h1] at HM
    cases h2 : adrB ⟨k, m, n, o⟩
    · rw [h2] at HA
      go_enter Try.func36, Try.ntmps36
      go_wp2_with fail
      refine (HH.out _).mono ?_
      rintro e w1 ⟨rfl, b1⟩
      have B1 := hid (((Below.refl w.heap.size w).alloc (Nat.le_refl _) _).trans (b1.mono (by simp)))
      have q1 : w.heap.size < w1.heap.size := by have := b1.size; simp at this; omega
      obtain ⟨hc1, hf1⟩ := bcell b1
      clear b1
      go_wp2_with fail
      refine (HM.out _).mono ?_
      rintro e w2 ⟨rfl, b2⟩
      have B2 := hid (below_next_w B1.out b2)
      have q2 : w.heap.size < w2.heap.size := by have := b2.size; omega
      obtain ⟨hc2, hf2⟩ := bcell b2
      clear b2
      go_wp2_with fail
      refine (HA.out _).mono ?_
      rintro e w3 ⟨rfl, b3⟩
      have B3 := hid (below_next_w B2.out b3)
      have q3 : w.heap.size < w3.heap.size := by have := b3.size; omega
      obtain ⟨hc3, hf3⟩ := bcell b3
      clear b3
      go_wp2
      go_ret
      exact ⟨rfl, B3.out⟩
    · rw [h2] at HA
      go_enter Try.func36, Try.ntmps36
      go_wp2_with fail
      refine (HH.out _).mono ?_
      rintro e w1 ⟨rfl, b1⟩
      have B1 := hid (((Below.refl w.heap.size w).alloc (Nat.le_refl _) _).trans (b1.mono (by simp)))
      have q1 : w.heap.size < w1.heap.size := by have := b1.size; simp at this; omega
      obtain ⟨hc1, hf1⟩ := bcell b1
      clear b1
      go_wp2_with fail
      refine (HM.out _).mono ?_
      rintro e w2 ⟨rfl, b2⟩
      have B2 := hid (below_next_w B1.out b2)
      have q2 : w.heap.size < w2.heap.size := by have := b2.size; omega
      obtain ⟨hc2, hf2⟩ := bcell b2
      clear b2
      go_wp2_with fail
      refine (HA.out _).mono ?_
      rintro e w3 ⟨rfl, b3⟩
      have B3 := hid (below_next_w B2.out b3)
      have q3 : w.heap.size < w3.heap.size := by have := b3.size; omega
      obtain ⟨hc3, hf3⟩ := bcell b3
      clear b3
      go_wp2
      go_ret
      exact ⟨rfl, B3.out⟩

end Go.Proofs.Ytjlaenkfjejbkaa
