/-
  Plain: a store leaves each other place as it was.
-/
import Derived.Test.YtjlaenkfjejbkaaMbQ
namespace Go.Proofs.Ytjlaenkfjejbkaa
set_option linter.unusedSimpArgs false
set_option linter.unusedVariables false
open Go.ChangeShapes Go.WideShapes Go.ChangeAt Go.RowKit

theorem place1 {off : Int} (h0 : 0 ≤ off) (h1 : off < 512) : placeE off 1 = 0 := by
  unfold placeE withinB
  rw [decide_eq_true h0, decide_eq_true (show off ≤ 512 - 1 by omega)]
  simp
theorem take1 (l : List Int) (i : Nat) : partL l i 1 = l[i]?.toList := by
  unfold partL
  rw [List.take_one, List.head?_drop]
theorem all1 (h : Int) (i : Nat) : allB h i 1 = hasB h i := by
  unfold allB
  simp [List.range_succ]
theorem has0 (i : Nat) : hasB 0 i = false := by simp [hasB]
theorem slot_apart {s : Sl} {I n i : Nat} {v : Vl} (hs : SOk s) (hp : SzP I n) (hi : i < 8) (ho : i < I ∨ I + n ≤ i) (he : (storeS s I n v).2 = 0) :
    ((loadS s i 1).2 = 41 ∧ (loadS (storeS s I n v).1 i 1).2 = 40) ∨ (loadS (storeS s I n v).1 i 1 = loadS s i 1 ∧ (loadS s i 1).2 ≠ 41) := by
  unfold storeS at he ⊢
  cases ha : adrB v
  · simp only [Bool.false_eq_true, if_false]
    have hb := baseS_ok hs
    have hor := has_or (baseS s).h I n i hb.1.1 hb.1.2 hp hi
    have hnot : (decide (I ≤ i) && decide (i < I + n)) = false := by
      rw [Bool.and_eq_false_iff, decide_eq_false_iff_not, decide_eq_false_iff_not]; omega
    rw [hnot, Bool.or_false] at hor
    have hput := putL_out (l := (baseS s).b) (i := I) (xs := layL v.n n) (by rw [layL_len, hb.2.1]; exact hp.2) i (by rw [layL_len]; exact ho)
    unfold numS loadS
    simp only [if_true, all1, take1, hput, hor]
    by_cases hv : s.v = v0
    · right
      have hbs : baseS s = s := by unfold baseS; rw [if_pos hv]
      rw [hbs, if_pos hv]
      refine ⟨rfl, ?_⟩
      cases hasB s.h i <;> simp
    · left
      have hbs : baseS s = s0 := by unfold baseS; rw [if_neg hv]
      rw [hbs, if_neg hv]
      have h0 : hasB s0.h i = false := has0 i
      rw [h0]
      exact ⟨rfl, rfl⟩
  · exfalso
    simp only [ha, if_true] at he
    by_cases h8 : n = 8
    · have := hp.2
      omega
    · rw [if_neg h8] at he
      exact absurd he (by decide)
theorem apart_other (F : Nat → Sl) (off n xo xs : Int) (v : Vl) (hF : FOk F) (he : (storeF F xo xs v).2 = 0) (h0 : 0 ≤ off) (hne : off / 8 ≠ xo / 8) : loadF (storeF F xo xs v).1 off n = loadF F off n := by
  have hR := right_store hF he
  rcases store_cases F xo xs v with ⟨h, _⟩ | ⟨hr, hm, hs, hk, hp, hE, e⟩
  · exact absurd he h
  · obtain ⟨_, _, hz, h2, e1, _, _⟩ := place_ok hs hp
    rw [e] at hR ⊢
    dsimp only at hR ⊢
    have h1 : (setF F (xo / 8).toNat (storeS (F (xo / 8).toNat) (xo % 8).toNat xs.toNat v).1) (off / 8).toNat = F (off / 8).toNat := by
      have : (off / 8).toNat ≠ (xo / 8).toNat := by omega
      simp [setF, this]
    unfold loadF
    rw [h1, hr, hR]
theorem apart_in (F : Nat → Sl) (off xo xs : Int) (v : Vl) (hF : FOk F) (he : (storeF F xo xs v).2 = 0) (h0 : 0 ≤ off) (h5 : off < 512) (heq : off / 8 = xo / 8) (hout : off < xo ∨ xo + xs ≤ off) :
    ((loadF F off 1).2 = 41 ∧ (loadF (storeF F xo xs v).1 off 1).2 = 40) ∨ (loadF (storeF F xo xs v).1 off 1 = loadF F off 1 ∧ (loadF F off 1).2 ≠ 41) := by
  have hR := right_store hF he
  rcases store_cases F xo xs v with ⟨h, _⟩ | ⟨hr, hm, hs, hk, hp, hE, e⟩
  · exact absurd he h
  · obtain ⟨_, _, hz, h2, e1, e2, e3⟩ := place_ok hs hp
    rw [e] at hR ⊢
    dsimp only at hR ⊢
    have h1 : (setF F (xo / 8).toNat (storeS (F (xo / 8).toNat) (xo % 8).toNat xs.toNat v).1) (xo / 8).toNat = (storeS (F (xo / 8).toNat) (xo % 8).toNat xs.toNat v).1 := by simp [setF]
    have hs1 : sizeB 1 = true := rfl
    have k := slot_apart (i := (off % 8).toNat) (hF _ h2) hz (by omega) (by omega) hE
    unfold loadF
    rw [hr, hR, hs1, place1 h0 h5, heq, h1]
    simpa using k

end Go.Proofs.Ytjlaenkfjejbkaa
