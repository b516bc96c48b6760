/-
  Plain: what was stored is loaded; a frame that may be may be behind a store.
-/
import Derived.Test.YtjlaenkfjejbkaaMeQ
namespace Go.Proofs.Ytjlaenkfjejbkaa
set_option linter.unusedSimpArgs false
set_option linter.unusedVariables false
open Go.ChangeShapes Go.WideShapes Go.ChangeAt Go.RowKit

theorem or_t : ([1, 2, 4, 8].all fun n => (List.range 9).all fun i => (List.range 256).all fun h => (decide (8 < i + n)) || ((List.range 8).all fun j => hasB (orB (h : Int) i n) j == (hasB (h : Int) j || (decide (i ≤ j) && decide (j < i + n))))) = true := by kernel_rfl
theorem has_or (h : Int) (i n j : Nat) (h0 : 0 ≤ h) (h1 : h < 256) (hp : SzP i n) (hj : j < 8) : hasB (orB h i n) j = (hasB h j || (decide (i ≤ j) && decide (j < i + n))) := by
  have t := or_t
  rw [List.all_eq_true] at t
  have t1 := t n (by obtain ⟨h | h | h | h, _⟩ := hp <;> simp [h])
  rw [List.all_eq_true] at t1
  have t2 := t1 i (List.mem_range.2 (by have := hp.2; omega))
  rw [List.all_eq_true] at t2
  have t3 := t2 h.toNat (List.mem_range.2 (by omega))
  rw [show ((h.toNat : Nat) : Int) = h by omega, Bool.or_eq_true, decide_eq_true_eq] at t3
  rcases t3 with t3 | t3
  · exact absurd t3 (by have := hp.2; omega)
  · rw [List.all_eq_true] at t3
    have := t3 j (List.mem_range.2 hj)
    simpa using this
theorem base_right {s : Sl} (h : rightS s = true) : rightS (baseS s) = true := by
  unfold baseS
  split
  · exact h
  · decide
theorem base_v (s : Sl) : (baseS s).v = v0 := by
  unfold baseS
  split
  · assumption
  · rfl
theorem vne {v : Vl} (h : v.k ≠ 0) : v ≠ v0 := by
  intro e
  rw [e] at h
  exact h rfl
theorem store_right {s : Sl} {i n : Nat} {v : Vl} (hs : SOk s) (hp : SzP i n) (hr : rightS s = true) (hm : mayB v = true) (hk : v.k ≠ 0) (he : (storeS s i n v).2 = 0) : rightS (storeS s i n v).1 = true := by
  unfold storeS at he ⊢
  cases ha : adrB v
  · simp only [ha, Bool.false_eq_true, if_false]
    have hb := baseS_ok hs
    have hbr := base_right hr
    have hbv := base_v s
    unfold numS rightS
    unfold rightS at hbr
    simp only [hbv, if_true] at hbr ⊢
    rw [List.all_eq_true] at hbr ⊢
    intro j hj
    have hj8 := List.mem_range.1 hj
    have h1 := hbr j hj
    unfold byteB at h1 ⊢
    have ho := has_or (baseS s).h i n j hb.1.1 hb.1.2 hp hj8
    show ((putL (baseS s).b i (layL v.n n)).getD j 0 == 0 || hasB (orB (baseS s).h i n) j) = true
    rw [ho]
    by_cases hin : i ≤ j ∧ j < i + n
    · simp [hin]
    · have hout := putL_out (l := (baseS s).b) (i := i) (xs := layL v.n n) (by rw [layL_len, hb.2.1]; exact hp.2) j (by rw [layL_len]; omega)
      rw [List.getD_eq_getElem?_getD, hout, ← List.getD_eq_getElem?_getD]
      rw [Bool.or_eq_true] at h1 ⊢
      rcases h1 with h1 | h1
      · exact .inl h1
      · exact .inr (by rw [h1]; rfl)
  · simp only [ha, if_true] at he ⊢
    by_cases h8 : n = 8
    · simp only [h8, if_true]
      unfold rightS
      rw [if_neg (vne hk), hm, ha]
      rfl
    · simp [h8] at he
def wantV (v : Vl) (size : Int) : Vl := if v.k = 1 then ⟨v.k, v.m, v.n % 256 ^ size.toNat, v.o⟩ else v
theorem load_store {s : Sl} {i n : Nat} {v : Vl} (hs : SOk s) (hp : SzP i n) (hv : VOk v) (hm : mayB v = true) (hk : v.k ≠ 0) (he : (storeS s i n v).2 = 0) :
    loadS (storeS s i n v).1 i n = (wantV v n, 0) := by
  unfold storeS at he ⊢
  cases ha : adrB v
  · simp only [ha, Bool.false_eq_true, if_false]
    have hk1 : v.k = 1 := by
      unfold adrB at ha
      simp at ha
      exact ha hk
    have hb := baseS_ok hs
    unfold numS loadS
    have hall : allB (orB (baseS s).h i n) i n = true := by
      unfold allB
      rw [List.all_eq_true]
      intro j hj
      have hjn := List.mem_range.1 hj
      rw [has_or (baseS s).h i n (i + j) hb.1.1 hb.1.2 hp (by have := hp.2; omega)]
      simp [hjn]
    have hpart := part_put (l := (baseS s).b) (i := i) (xs := layL v.n n) (by rw [layL_len, hb.2.1]; exact hp.2)
    rw [layL_len] at hpart
    simp only [if_true, hall, hpart, num_lay v.n n hv.2.2.1.1]
    have hmo : v.m = 0 ∧ v.o = 0 := by
      unfold mayB at hm
      simpa [hk1] using hm
    unfold wantV
    rw [if_pos hk1, hk1, hmo.1, hmo.2]
    simp
  · simp only [ha, if_true] at he ⊢
    by_cases h8 : n = 8
    · simp only [h8, if_true]
      have hk1 : v.k ≠ 1 := by
        unfold adrB at ha
        simp at ha
        exact ha.2
      unfold loadS wantV
      rw [if_neg (vne hk), if_pos rfl, if_neg hk1]
    · simp [h8] at he

theorem store_cases (F : Nat → Sl) (off size : Int) (v : Vl) : ((storeF F off size v).2 ≠ 0 ∧ (storeF F off size v).1 = f0) ∨
    (rightF F = true ∧ mayB v = true ∧ sizeB size = true ∧ v.k ≠ 0 ∧ placeE off size = 0 ∧ (storeS (F (off / 8).toNat) (off % 8).toNat size.toNat v).2 = 0 ∧
      storeF F off size v = (setF F (off / 8).toNat (storeS (F (off / 8).toNat) (off % 8).toNat size.toNat v).1, 0)) := by
  unfold storeF
  cases hr : rightF F
  · left; simp
  cases hm : mayB v
  · left; simp
  cases hs : sizeB size
  · left; simp
  by_cases hk : v.k = 0
  · left; simp [hk]
  by_cases hp : placeE off size = 0
  · by_cases hE : (storeS (F (off / 8).toNat) (off % 8).toNat size.toNat v).2 = 0
    · right; simp [hk, hp, hE]
    · left; simp [hk, hp, hE]
  · left; simp [hk, hp]
theorem right_set {F : Nat → Sl} {K : Nat} {s : Sl} (h : rightF F = true) (hs : rightS s = true) : rightF (setF F K s) = true := by
  unfold rightF at h ⊢
  rw [List.all_eq_true] at h ⊢
  intro k hk
  unfold setF
  split
  · exact hs
  · exact h k hk
theorem right_store {F : Nat → Sl} {off size : Int} {v : Vl} (hF : FOk F) (he : (storeF F off size v).2 = 0) : rightF (storeF F off size v).1 = true := by
  rcases store_cases F off size v with ⟨h, _⟩ | ⟨hr, hm, hs, hk, hp, hE, e⟩
  · exact absurd he h
  · obtain ⟨_, _, hz, h2, _⟩ := place_ok hs hp
    rw [e]
    exact right_set hr (store_right (hF _ h2) hz (by have := List.all_eq_true.1 hr _ (List.mem_range.2 h2); exact this) hm hk hE)
theorem back (F : Nat → Sl) (off size : Int) (v : Vl) (hF : FOk F) (hv : VOk v) (he : (storeF F off size v).2 = 0) : loadF (storeF F off size v).1 off size = (wantV v size, 0) := by
  have hR := right_store hF he
  rcases store_cases F off size v with ⟨h, _⟩ | ⟨hr, hm, hs, hk, hp, hE, e⟩
  · exact absurd he h
  · obtain ⟨_, _, hz, h2, _, _, e3⟩ := place_ok hs hp
    rw [e] at hR ⊢
    have h1 : (setF F (off / 8).toNat (storeS (F (off / 8).toNat) (off % 8).toNat size.toNat v).1) (off / 8).toNat = (storeS (F (off / 8).toNat) (off % 8).toNat size.toNat v).1 := by simp [setF]
    unfold loadF
    simp only [hR, hs, hp, Bool.and_self, Bool.true_eq_false, if_false, ne_eq, not_true_eq_false, h1]
    rw [load_store (hF _ h2) hz hv hm hk hE]
    unfold wantV
    rw [Int.toNat_natCast]

end Go.Proofs.Ytjlaenkfjejbkaa
