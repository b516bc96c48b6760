/-
  Contracts of package tnum's calls on two tnums, as the landed code has them.
-/
import Derived.Test.YtodmikjpmcabiaaTTnA
namespace Go.Proofs.Ytodmikjpmcabiaa
set_option linter.unusedSimpArgs false
set_option linter.unusedVariables false
set_option maxRecDepth 100000
open Go.ChangeShapes Go.WideShapes Go.ChangeAt Go.RowKit

theorem both_any (a b t : Tn) (f : Nat) (cs : Array Value) (w : World) (he : ∀ (args : Array Value) (w : World), (callFunc f args).run Try.prog w = .ok (.enter f args) w) (hcl : ∀ W, Below w.heap.size w W → tmay a = true → tmay b = true → Calls Try.prog f cs W fun e w' => e = .returned (tv t) ∧ Below W.heap.size W w') :
    Calls Try.prog 54 #[tv a, tv b, .func (.func f) #[] cs] w fun e w' => e = .returned (.tuple #[tv (bothT a b t), .int .i64 (bothE a b)]) ∧ Below w.heap.size w w' := by
  have HC := hid hcl
  have HE := hid he
  clear hcl he
  obtain ⟨R, HR⟩ : ∃ R, R = tv (bothT a b t) := ⟨_, rfl⟩
  rw [← HR]
  have hR := hid HR
  clear HR
  have hE := hid (rfl : bothE a b = bothE a b)
  unfold bothE at hE ⊢
  unfold tv bothT at hR
  unfold tv
  cases ha : tmay a
  · have hR' : R = .agg #[.int .u64 0, .int .u64 0] := by rw [hR.out, ha]; rfl
    subst hR'
    clear hR hE
    have HA := hid (ha ▸ tMay_any a)
    clear ha
    unfold tv at HA
    go_enter Try.func54, Try.ntmps54
    go_wp2_with fail
    refine (HA.out _).mono ?_
    rintro e w1 ⟨rfl, b1⟩
    have hb : Below w.heap.size w w1 := (((((Below.refl _ _).alloc (Nat.le_refl _) _).alloc (by simp) _).alloc (by simp; omega) _).trans (b1.mono (by simp; omega)))
    obtain ⟨hc, hf⟩ := bcell b1
    have hz : w.heap.size + 1 + 1 < w1.heap.size := by have := b1.size; simp at this; omega
    have HB := hid hb
    clear b1 hb
    go_wp2
    refine bodyPost_ret (v := .tuple #[.agg #[.int .u64 0, .int .u64 0], .int .i64 1]) (by simp [results, Try.results54, go_sem, hc, hz]; try rfl) rfl ⟨rfl, ?_⟩
    exact (HB.out.setCell (by simp; omega) _).setCell (by simp; omega) _
  cases hb' : tmay b
  · have hR' : R = .agg #[.int .u64 0, .int .u64 0] := by rw [hR.out, ha, hb']; rfl
    subst hR'
    clear hR hE
    have HA := hid (ha ▸ tMay_any a)
    have HA2 := hid (hb' ▸ tMay_any b)
    clear ha hb'
    unfold tv at HA HA2
    go_enter Try.func54, Try.ntmps54
    go_wp2_with fail
    refine (HA.out _).mono ?_
    rintro e w1 ⟨rfl, b1⟩
    have hb : Below w.heap.size w w1 := (((((Below.refl _ _).alloc (Nat.le_refl _) _).alloc (by simp) _).alloc (by simp; omega) _).trans (b1.mono (by simp; omega)))
    obtain ⟨hc, hf⟩ := bcell b1
    have hz : w.heap.size + 1 + 1 < w1.heap.size := by have := b1.size; simp at this; omega
    have HB := hid hb
    clear b1 hb
    go_wp2_with fail
    refine (HA2.out _).mono ?_
    rintro e w2 ⟨rfl, b2⟩
    have hb : Below w.heap.size w w2 := HB.out.trans (b2.mono (by omega))
    obtain ⟨hc2, hf2⟩ := bcell b2
    have hz2 : w.heap.size + 1 + 1 < w2.heap.size := by have := b2.size; omega
    have HB2 := hid hb
    clear b2 hb
    go_wp2
    refine bodyPost_ret (v := .tuple #[.agg #[.int .u64 0, .int .u64 0], .int .i64 1]) (by simp [results, Try.results54, go_sem, hc, hz, hc2, hz2]; try rfl) rfl ⟨rfl, ?_⟩
    exact (HB2.out.setCell (by simp; omega) _).setCell (by simp; omega) _
  have hR' : R = .agg #[.int .u64 (ub t.1), .int .u64 (ub t.2)] := by rw [hR.out, ha, hb']; rfl
  subst hR'
  clear hR hE
  have HA := hid (ha ▸ tMay_any a)
  have HA2 := hid (hb' ▸ tMay_any b)
  have HC' := hid fun W hW => HC.out W hW ha hb'
  clear ha hb' HC
  unfold tv at HA HA2 HC'
  go_enter Try.func54, Try.ntmps54
  go_wp2_with fail
  refine (HA.out _).mono ?_
  rintro e w1 ⟨rfl, b1⟩
  have hb : Below w.heap.size w w1 := (((((Below.refl _ _).alloc (Nat.le_refl _) _).alloc (by simp) _).alloc (by simp; omega) _).trans (b1.mono (by simp; omega)))
  obtain ⟨hc, hf⟩ := bcell b1
  have hz : w.heap.size + 1 + 1 < w1.heap.size := by have := b1.size; simp at this; omega
  have HB := hid hb
  clear b1 hb
  go_wp2_with fail
  refine (HA2.out _).mono ?_
  rintro e w2 ⟨rfl, b2⟩
  have hb : Below w.heap.size w w2 := HB.out.trans (b2.mono (by omega))
  obtain ⟨hc2, hf2⟩ := bcell b2
  have hz2 : w.heap.size + 1 + 1 < w2.heap.size := by have := b2.size; omega
  have HB2 := hid hb
  clear b2 hb
  go_wp2_with fail
  rw [HE.out, Oper.upon_enter]
  refine (HC'.out _ HB2.out).mono ?_
  rintro e w3 ⟨rfl, b3⟩
  have hb : Below w.heap.size w w3 := HB2.out.trans (b3.mono (by omega))
  obtain ⟨hc3, hf3⟩ := bcell b3
  have hz3 : w.heap.size + 1 + 1 < w3.heap.size := by have := b3.size; omega
  have HB3 := hid hb
  clear b3 hb
  go_wp2
  refine bodyPost_ret (v := .tuple #[.agg #[.int .u64 (ub t.1), .int .u64 (ub t.2)], .int .i64 0]) (by simp [results, Try.results54, go_sem, hc, hz, hc2, hz2, hc3, hz3]; try rfl) rfl ⟨rfl, ?_⟩
  exact (HB3.out.setCell (by simp; omega) _).setCell (by simp; omega) _
theorem tJoin_any (a b : Tn) (w : World) : Calls Try.prog 70 #[tv a, tv b] w fun e w' => e = .returned (.tuple #[tv (bothT a b (joinT a b)), .int .i64 (bothE a b)]) ∧ Below w.heap.size w w' := by
  obtain ⟨R, HR⟩ : ∃ R, R = bothT a b (joinT a b) := ⟨_, rfl⟩
  rw [← HR]
  have HH := fun (p q : Nat) (w : World) (ha : TC w p a) (hb : TC w q b) => both_any a b (joinT a b) 106 #[.pointer (some ⟨p, 0, none⟩), .pointer (some ⟨q, 0, none⟩)] w (fun _ _ => by kernel_rfl) (fun W hW _ _ => cJoin p q a b W (ha.below hW) (hb.below hW))
  rw [← HR] at HH
  have HX := hid HH
  clear HH HR
  generalize bothE a b = E at *
  unfold tv at HX ⊢
  go_enter Try.func70, Try.ntmps70
  go_wp2_with fail
  refine Calls.mono (HX.out w.heap.size (w.heap.size + 1) _ ?_ ?_) ?_
  · exact ((TC.new rfl).alloc _).alloc _
  · exact (TC.new (by simp)).alloc _
  rintro e w1 ⟨rfl, b1⟩
  have hb : Below w.heap.size w w1 := (((((Below.refl _ _).alloc (Nat.le_refl _) _).alloc (by simp) _).alloc (by simp; omega) _).trans (b1.mono (by simp; omega)))
  obtain ⟨hc, hf⟩ := bcell b1
  have hz : w.heap.size + 1 + 1 < w1.heap.size := by have := b1.size; simp at this; omega
  have HB := hid hb
  clear b1 hb
  go_wp2
  refine bodyPost_ret (v := .tuple #[.agg #[.int .u64 (ub R.1), .int .u64 (ub R.2)], .int .i64 E]) (by simp [results, Try.results70, go_sem, hc, hz]; try rfl) rfl ⟨rfl, ?_⟩
  exact (HB.out.setCell (by simp; omega) _).setCell (by simp; omega) _
theorem tAdd_any (a b : Tn) (w : World) : Calls Try.prog 13 #[tv a, tv b] w fun e w' => e = .returned (.tuple #[tv (bothT a b (sumT a b)), .int .i64 (bothE a b)]) ∧ Below w.heap.size w w' := by
  obtain ⟨R, HR⟩ : ∃ R, R = bothT a b (sumT a b) := ⟨_, rfl⟩
  rw [← HR]
  have HH := fun (p q : Nat) (w : World) (ha : TC w p a) (hb : TC w q b) => both_any a b (sumT a b) 55 #[.pointer (some ⟨p, 0, none⟩), .pointer (some ⟨q, 0, none⟩)] w (fun _ _ => by kernel_rfl) (fun W hW _ _ => cAdd p q a b W (ha.below hW) (hb.below hW))
  rw [← HR] at HH
  have HX := hid HH
  clear HH HR
  generalize bothE a b = E at *
  unfold tv at HX ⊢
  go_enter Try.func13, Try.ntmps13
  go_wp2_with fail
  refine Calls.mono (HX.out w.heap.size (w.heap.size + 1) _ ?_ ?_) ?_
  · exact ((TC.new rfl).alloc _).alloc _
  · exact (TC.new (by simp)).alloc _
  rintro e w1 ⟨rfl, b1⟩
  have hb : Below w.heap.size w w1 := (((((Below.refl _ _).alloc (Nat.le_refl _) _).alloc (by simp) _).alloc (by simp; omega) _).trans (b1.mono (by simp; omega)))
  obtain ⟨hc, hf⟩ := bcell b1
  have hz : w.heap.size + 1 + 1 < w1.heap.size := by have := b1.size; simp at this; omega
  have HB := hid hb
  clear b1 hb
  go_wp2
  refine bodyPost_ret (v := .tuple #[.agg #[.int .u64 (ub R.1), .int .u64 (ub R.2)], .int .i64 E]) (by simp [results, Try.results13, go_sem, hc, hz]; try rfl) rfl ⟨rfl, ?_⟩
  exact (HB.out.setCell (by simp; omega) _).setCell (by simp; omega) _
theorem tSub_any (a b : Tn) (w : World) : Calls Try.prog 15 #[tv a, tv b] w fun e w' => e = .returned (.tuple #[tv (bothT a b (subT a b)), .int .i64 (bothE a b)]) ∧ Below w.heap.size w w' := by
  obtain ⟨R, HR⟩ : ∃ R, R = bothT a b (subT a b) := ⟨_, rfl⟩
  rw [← HR]
  have HH := fun (p q : Nat) (w : World) (ha : TC w p a) (hb : TC w q b) => both_any a b (subT a b) 59 #[.pointer (some ⟨p, 0, none⟩), .pointer (some ⟨q, 0, none⟩)] w (fun _ _ => by kernel_rfl) (fun W hW _ _ => cSub p q a b W (ha.below hW) (hb.below hW))
  rw [← HR] at HH
  have HX := hid HH
  clear HH HR
  generalize bothE a b = E at *
  unfold tv at HX ⊢
  go_enter Try.func15, Try.ntmps15
  go_wp2_with fail
  refine Calls.mono (HX.out w.heap.size (w.heap.size + 1) _ ?_ ?_) ?_
  · exact ((TC.new rfl).alloc _).alloc _
  · exact (TC.new (by simp)).alloc _
  rintro e w1 ⟨rfl, b1⟩
  have hb : Below w.heap.size w w1 := (((((Below.refl _ _).alloc (Nat.le_refl _) _).alloc (by simp) _).alloc (by simp; omega) _).trans (b1.mono (by simp; omega)))
  obtain ⟨hc, hf⟩ := bcell b1
  have hz : w.heap.size + 1 + 1 < w1.heap.size := by have := b1.size; simp at this; omega
  have HB := hid hb
  clear b1 hb
  go_wp2
  refine bodyPost_ret (v := .tuple #[.agg #[.int .u64 (ub R.1), .int .u64 (ub R.2)], .int .i64 E]) (by simp [results, Try.results15, go_sem, hc, hz]; try rfl) rfl ⟨rfl, ?_⟩
  exact (HB.out.setCell (by simp; omega) _).setCell (by simp; omega) _
theorem tAnd_any (a b : Tn) (w : World) : Calls Try.prog 19 #[tv a, tv b] w fun e w' => e = .returned (.tuple #[tv (bothT a b (andT a b)), .int .i64 (bothE a b)]) ∧ Below w.heap.size w w' := by
  obtain ⟨R, HR⟩ : ∃ R, R = bothT a b (andT a b) := ⟨_, rfl⟩
  rw [← HR]
  have HH := fun (p q : Nat) (w : World) (ha : TC w p a) (hb : TC w q b) => both_any a b (andT a b) 65 #[.pointer (some ⟨p, 0, none⟩), .pointer (some ⟨q, 0, none⟩)] w (fun _ _ => by kernel_rfl) (fun W hW _ _ => cAnd p q a b W (ha.below hW) (hb.below hW))
  rw [← HR] at HH
  have HX := hid HH
  clear HH HR
  generalize bothE a b = E at *
  unfold tv at HX ⊢
  go_enter Try.func19, Try.ntmps19
  go_wp2_with fail
  refine Calls.mono (HX.out w.heap.size (w.heap.size + 1) _ ?_ ?_) ?_
  · exact ((TC.new rfl).alloc _).alloc _
  · exact (TC.new (by simp)).alloc _
  rintro e w1 ⟨rfl, b1⟩
  have hb : Below w.heap.size w w1 := (((((Below.refl _ _).alloc (Nat.le_refl _) _).alloc (by simp) _).alloc (by simp; omega) _).trans (b1.mono (by simp; omega)))
  obtain ⟨hc, hf⟩ := bcell b1
  have hz : w.heap.size + 1 + 1 < w1.heap.size := by have := b1.size; simp at this; omega
  have HB := hid hb
  clear b1 hb
  go_wp2
  refine bodyPost_ret (v := .tuple #[.agg #[.int .u64 (ub R.1), .int .u64 (ub R.2)], .int .i64 E]) (by simp [results, Try.results19, go_sem, hc, hz]; try rfl) rfl ⟨rfl, ?_⟩
  exact (HB.out.setCell (by simp; omega) _).setCell (by simp; omega) _
theorem tOr_any (a b : Tn) (w : World) : Calls Try.prog 21 #[tv a, tv b] w fun e w' => e = .returned (.tuple #[tv (bothT a b (orT a b)), .int .i64 (bothE a b)]) ∧ Below w.heap.size w w' := by
  obtain ⟨R, HR⟩ : ∃ R, R = bothT a b (orT a b) := ⟨_, rfl⟩
  rw [← HR]
  have HH := fun (p q : Nat) (w : World) (ha : TC w p a) (hb : TC w q b) => both_any a b (orT a b) 68 #[.pointer (some ⟨p, 0, none⟩), .pointer (some ⟨q, 0, none⟩)] w (fun _ _ => by kernel_rfl) (fun W hW _ _ => cOr p q a b W (ha.below hW) (hb.below hW))
  rw [← HR] at HH
  have HX := hid HH
  clear HH HR
  generalize bothE a b = E at *
  unfold tv at HX ⊢
  go_enter Try.func21, Try.ntmps21
  go_wp2_with fail
  refine Calls.mono (HX.out w.heap.size (w.heap.size + 1) _ ?_ ?_) ?_
  · exact ((TC.new rfl).alloc _).alloc _
  · exact (TC.new (by simp)).alloc _
  rintro e w1 ⟨rfl, b1⟩
  have hb : Below w.heap.size w w1 := (((((Below.refl _ _).alloc (Nat.le_refl _) _).alloc (by simp) _).alloc (by simp; omega) _).trans (b1.mono (by simp; omega)))
  obtain ⟨hc, hf⟩ := bcell b1
  have hz : w.heap.size + 1 + 1 < w1.heap.size := by have := b1.size; simp at this; omega
  have HB := hid hb
  clear b1 hb
  go_wp2
  refine bodyPost_ret (v := .tuple #[.agg #[.int .u64 (ub R.1), .int .u64 (ub R.2)], .int .i64 E]) (by simp [results, Try.results21, go_sem, hc, hz]; try rfl) rfl ⟨rfl, ?_⟩
  exact (HB.out.setCell (by simp; omega) _).setCell (by simp; omega) _
theorem tXor_any (a b : Tn) (w : World) : Calls Try.prog 22 #[tv a, tv b] w fun e w' => e = .returned (.tuple #[tv (bothT a b (xorT a b)), .int .i64 (bothE a b)]) ∧ Below w.heap.size w w' := by
  obtain ⟨R, HR⟩ : ∃ R, R = bothT a b (xorT a b) := ⟨_, rfl⟩
  rw [← HR]
  have HH := fun (p q : Nat) (w : World) (ha : TC w p a) (hb : TC w q b) => both_any a b (xorT a b) 69 #[.pointer (some ⟨p, 0, none⟩), .pointer (some ⟨q, 0, none⟩)] w (fun _ _ => by kernel_rfl) (fun W hW _ _ => cXor p q a b W (ha.below hW) (hb.below hW))
  rw [← HR] at HH
  have HX := hid HH
  clear HH HR
  generalize bothE a b = E at *
  unfold tv at HX ⊢
  go_enter Try.func22, Try.ntmps22
  go_wp2_with fail
  refine Calls.mono (HX.out w.heap.size (w.heap.size + 1) _ ?_ ?_) ?_
  · exact ((TC.new rfl).alloc _).alloc _
  · exact (TC.new (by simp)).alloc _
  rintro e w1 ⟨rfl, b1⟩
  have hb : Below w.heap.size w w1 := (((((Below.refl _ _).alloc (Nat.le_refl _) _).alloc (by simp) _).alloc (by simp; omega) _).trans (b1.mono (by simp; omega)))
  obtain ⟨hc, hf⟩ := bcell b1
  have hz : w.heap.size + 1 + 1 < w1.heap.size := by have := b1.size; simp at this; omega
  have HB := hid hb
  clear b1 hb
  go_wp2
  refine bodyPost_ret (v := .tuple #[.agg #[.int .u64 (ub R.1), .int .u64 (ub R.2)], .int .i64 E]) (by simp [results, Try.results22, go_sem, hc, hz]; try rfl) rfl ⟨rfl, ?_⟩
  exact (HB.out.setCell (by simp; omega) _).setCell (by simp; omega) _
end Go.Proofs.Ytodmikjpmcabiaa
