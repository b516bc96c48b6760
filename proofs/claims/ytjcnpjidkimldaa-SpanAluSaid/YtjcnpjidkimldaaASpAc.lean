/-
  Contract of the document's Counts.
-/
import Derived.Test.YtjcnpjidkimldaaASpAb
namespace Go.Proofs.Ytjcnpjidkimldaa
set_option linter.unusedSimpArgs false
set_option linter.unusedVariables false
set_option maxRecDepth 100000
open Go.ChangeShapes Go.WideShapes Go.ChangeAt Go.RowKit

theorem count_doc (c : Bool) (b : Tn) (hb : b.1.toNat ≤ b.2.toNat) : countS c b =
    if sizeW c - 1 < (b.2 - b.1).toNat ∨ (b.2 % sizeB c).toNat < (b.1 % sizeB c).toNat then (0#64, sizeB c - 1#64) else (b.1 % sizeB c, b.2 % sizeB c) := by
  have m : ∀ x : B64, (x % sizeB c).toNat = x.toNat % sizeW c := fun x => by rw [BitVec.toNat_umod]; cases c <;> rfl
  have h3 : (sizeB c - 1#64).toNat = sizeW c - 1 := by cases c <;> rfl
  have hz : sizeW c = 64 ∨ sizeW c = 32 := by cases c <;> simp [sizeW]
  have hwd := width b hb
  unfold countS
  rw [h3, m, m]
  by_cases h : sizeW c - 1 < (b.2 - b.1).toNat ∨ b.2.toNat % sizeW c < b.1.toNat % sizeW c
  · rw [if_pos h, if_pos (by omega)]
  · rw [if_neg h]
    by_cases k : sizeW c - 1 ≤ (b.2 - b.1).toNat ∨ b.2.toNat % sizeW c < b.1.toNat % sizeW c
    · rw [if_pos k]
      refine Prod.ext ?_ ?_
      · apply BitVec.eq_of_toNat_eq
        dsimp only
        rw [m, show (0#64 : B64).toNat = 0 from rfl]
        rcases hz with e | e <;> rw [e] at h k ⊢ <;> omega
      · apply BitVec.eq_of_toNat_eq
        dsimp only
        rw [m, h3]
        rcases hz with e | e <;> rw [e] at h k ⊢ <;> omega
    · rw [if_neg k]
theorem ib_small2 (x : B64) (h : x.toNat < 9223372036854775808) : ib x = ub x := by rw [ib_small x h]; rfl
theorem qCounts_any (c : Bool) (b : Tn) (w : World) (hb : b.1.toNat ≤ b.2.toNat) : Calls Try.prog 26 #[tv b, .int .i64 (szI c)] w fun e w' => e = .returned (.tuple #[.int .i64 (ub (countS c b).1), .int .i64 (ub (countS c b).2)]) ∧ Below w.heap.size w w' := by
  rw [count_doc c b hb]
  clear hb
  cases c
  · have m : ∀ x : B64, wrap64 ((ub x).tmod 32) = ub (x % 32#64) := fun x => (congrArg wrap64 (tmod_is x 32#64)).trans ((ib_of _).trans (ib_small2 _ (by rw [BitVec.toNat_umod]; have := Nat.mod_lt x.toNat (show 0 < (32#64 : B64).toNat by decide); have e : (32#64 : B64).toNat = 32 := rfl; omega)))
    have m1 := m b.1
    have m2 := m b.2
    clear m
    rw [show szI false = 32 from rfl, show sizeB false = 32#64 from rfl, show sizeW false = 32 from rfl]
    by_cases h1 : 32 - 1 < (b.2 - b.1).toNat
    case pos =>
      rw [if_pos (Or.inl h1)]
      have x1 : 31 < ub (b.2 - b.1) := by unfold ub; omega
      clear h1
      obtain ⟨v, m⟩ := b
      unfold tv
      dsimp only at x1 m1 m2 ⊢
      go_enter Try.func26, Try.ntmps26
      go_wp2
      exact bodyPost_ret (v := .tuple #[.int .i64 0, .int .i64 31]) (by simp [results, Try.results26, go_sem]; try rfl) rfl ⟨rfl, (Below.refl _ _).alloc (Nat.le_refl _) _⟩
    have x1 : ¬ 31 < ub (b.2 - b.1) := by unfold ub; omega
    by_cases h2 : (b.2 % 32#64).toNat < (b.1 % 32#64).toNat
    case pos =>
      rw [if_pos (Or.inr h2)]
      have x2 := of_ltn h2
      clear h1 h2
      obtain ⟨v, m⟩ := b
      unfold tv
      dsimp only at x1 x2 m1 m2 ⊢
      go_enter Try.func26, Try.ntmps26
      go_wp2
      exact bodyPost_ret (v := .tuple #[.int .i64 0, .int .i64 31]) (by simp [results, Try.results26, go_sem]; try rfl) rfl ⟨rfl, (Below.refl _ _).alloc (Nat.le_refl _) _⟩
    case neg =>
      rw [if_neg (fun h => h.elim h1 h2)]
      have x2 := of_nltn h2
      clear h1 h2
      obtain ⟨v, m⟩ := b
      unfold tv
      dsimp only at x1 x2 m1 m2 ⊢
      go_enter Try.func26, Try.ntmps26
      go_wp2
      exact bodyPost_ret (v := .tuple #[.int .i64 (ub (v % 32#64)), .int .i64 (ub (m % 32#64))]) (by simp [results, Try.results26, go_sem, m1, m2]; try rfl) rfl ⟨rfl, (Below.refl _ _).alloc (Nat.le_refl _) _⟩
  · have m : ∀ x : B64, wrap64 ((ub x).tmod 64) = ub (x % 64#64) := fun x => (congrArg wrap64 (tmod_is x 64#64)).trans ((ib_of _).trans (ib_small2 _ (by rw [BitVec.toNat_umod]; have := Nat.mod_lt x.toNat (show 0 < (64#64 : B64).toNat by decide); have e : (64#64 : B64).toNat = 64 := rfl; omega)))
    have m1 := m b.1
    have m2 := m b.2
    clear m
    rw [show szI true = 64 from rfl, show sizeB true = 64#64 from rfl, show sizeW true = 64 from rfl]
    by_cases h1 : 64 - 1 < (b.2 - b.1).toNat
    case pos =>
      rw [if_pos (Or.inl h1)]
      have x1 : 63 < ub (b.2 - b.1) := by unfold ub; omega
      clear h1
      obtain ⟨v, m⟩ := b
      unfold tv
      dsimp only at x1 m1 m2 ⊢
      go_enter Try.func26, Try.ntmps26
      go_wp2
      exact bodyPost_ret (v := .tuple #[.int .i64 0, .int .i64 63]) (by simp [results, Try.results26, go_sem]; try rfl) rfl ⟨rfl, (Below.refl _ _).alloc (Nat.le_refl _) _⟩
    have x1 : ¬ 63 < ub (b.2 - b.1) := by unfold ub; omega
    by_cases h2 : (b.2 % 64#64).toNat < (b.1 % 64#64).toNat
    case pos =>
      rw [if_pos (Or.inr h2)]
      have x2 := of_ltn h2
      clear h1 h2
      obtain ⟨v, m⟩ := b
      unfold tv
      dsimp only at x1 x2 m1 m2 ⊢
      go_enter Try.func26, Try.ntmps26
      go_wp2
      exact bodyPost_ret (v := .tuple #[.int .i64 0, .int .i64 63]) (by simp [results, Try.results26, go_sem]; try rfl) rfl ⟨rfl, (Below.refl _ _).alloc (Nat.le_refl _) _⟩
    case neg =>
      rw [if_neg (fun h => h.elim h1 h2)]
      have x2 := of_nltn h2
      clear h1 h2
      obtain ⟨v, m⟩ := b
      unfold tv
      dsimp only at x1 x2 m1 m2 ⊢
      go_enter Try.func26, Try.ntmps26
      go_wp2
      exact bodyPost_ret (v := .tuple #[.int .i64 (ub (v % 64#64)), .int .i64 (ub (m % 64#64))]) (by simp [results, Try.results26, go_sem, m1, m2]; try rfl) rfl ⟨rfl, (Below.refl _ _).alloc (Nat.le_refl _) _⟩
end Go.Proofs.Ytjcnpjidkimldaa
