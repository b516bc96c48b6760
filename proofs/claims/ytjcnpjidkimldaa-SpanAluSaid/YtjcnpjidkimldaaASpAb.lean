/-
  Contracts of the document's rest and Counts.
-/
import Derived.Test.YtjcnpjidkimldaaASpAa
import Derived.Test.YtjcnpjidkimldaaASpZ
namespace Go.Proofs.Ytjcnpjidkimldaa
set_option linter.unusedSimpArgs false
set_option linter.unusedVariables false
set_option maxRecDepth 100000
open Go.ChangeShapes Go.WideShapes Go.ChangeAt Go.RowKit

theorem eqz_span (b : Tn) (W : World) : (binOp .eql 24 (.agg #[.int .u64 (ub b.1), .int .u64 (ub b.2)]) (.agg #[.int .u64 0, .int .u64 0])).run Try.prog W = .ok (.bool (b.1 == 0#64 && b.2 == 0#64)) W := by
  cases h1 : (b.1 == 0#64)
  · go_simp
  · cases h2 : (b.2 == 0#64)
    · have h2' : ¬ b.2 = 0#64 := by simpa using h2
      go_simp
    · have h2' : b.2 = 0#64 := by simpa using h2
      go_simp
set_option maxHeartbeats 8000000 in
theorem qRest_any (a b : Tn) (w : World) (hb : b.1.toNat ≤ b.2.toNat) : Calls Try.prog 25 #[tv a, tv b] w fun e w' => e = .returned (tv (restS a b)) ∧ Below w.heap.size w w' := by
  have EZ := eqz_span b
  unfold restS
  by_cases h1 : b.2 = 0#64
  · rw [if_pos (Or.inl h1)]
    have e0 : (b.1 == 0#64 && b.2 == 0#64) = true := by
      have : b.1 = 0#64 := by rw [toNat_zero_iff] at *; omega
      rw [this, h1]; rfl
    rw [e0] at EZ
    clear h1 e0 hb
    obtain ⟨v, m⟩ := a
    obtain ⟨v', m'⟩ := b
    unfold tv
    dsimp only at *
    go_enter Try.func25, Try.ntmps25
    go_wp2
    exact bodyPost_ret (v := tv (v, m)) (by simp [results, Try.results25, go_sem]; try rfl) rfl ⟨rfl, ((((Below.refl _ _).alloc (Nat.le_refl _) _).alloc (by simp) _).alloc (by simp <;> omega) _)⟩
  · have x1 : (b.2 == 0#64) = false := by simp [h1]
    have e0 : (b.1 == 0#64 && b.2 == 0#64) = false := by rw [x1, Bool.and_false]
    rw [e0] at EZ
    clear e0
    by_cases h2 : a.2.toNat < b.1.toNat
    · rw [if_pos (Or.inr h2)]
      replace h2 := of_ltn h2
      clear h1 hb
      obtain ⟨v, m⟩ := a
      obtain ⟨v', m'⟩ := b
      unfold tv
      dsimp only at *
      go_enter Try.func25, Try.ntmps25
      go_wp2
      exact bodyPost_ret (v := tv (v, m)) (by simp [results, Try.results25, go_sem]; try rfl) rfl ⟨rfl, ((((Below.refl _ _).alloc (Nat.le_refl _) _).alloc (by simp) _).alloc (by simp <;> omega) _)⟩
    · rw [if_neg (fun h => h.elim h1 h2)]
      replace h2 := of_nltn h2
      by_cases h3 : b.1 = b.2
      · have x3 : (b.1 == b.2) = true := by simp [h3]
        have y1 : ¬ ub b.1 = 0 := by rw [h3]; exact ub_ne0 h1
        have x5 : (b.1 == 0#64) = false := by rw [h3]; exact x1
        by_cases h4 : a.1 / b.2 = a.2 / b.2
        · rw [if_pos ⟨h3, h4⟩]
          have x4 : (a.1 / b.1 == a.2 / b.1) = true := by rw [h3]; simp [h4]
          rw [show (tv (a.1 % b.2, a.2 % b.2)) = tv (a.1 % b.1, a.2 % b.1) by rw [h3]]
          clear h3 h4 h1 hb
          obtain ⟨v, m⟩ := a
          obtain ⟨v', m'⟩ := b
          unfold tv
          dsimp only at *
          go_enter Try.func25, Try.ntmps25
          go_wp2_with fail
          go_region
          go_wp2_with fail
          go_region
          go_wp2
          exact bodyPost_ret (v := tv (v % v', m % v')) (by simp [results, Try.results25, go_sem]; try rfl) rfl ⟨rfl, ((((Below.refl _ _).alloc (Nat.le_refl _) _).alloc (by simp) _).alloc (by simp <;> omega) _).drew.drew⟩
        · rw [if_neg (fun h => h4 h.2), if_neg (by rw [h3]; exact h1)]
          have x4 : (a.1 / b.1 == a.2 / b.1) = false := by rw [h3]; simp [h4]
          clear h3 h4
          have h6 : ub a.2 < ub (b.2 - 1#64) ∨ ¬ ub a.2 < ub (b.2 - 1#64) := by omega
          rcases h6 with h6 | h6
          · rw [show bmin a.2 (b.2 - 1#64) = a.2 from if_pos (by rw [← ub_ltN]; exact h6)]
            clear h1 hb
            obtain ⟨v, m⟩ := a
            obtain ⟨v', m'⟩ := b
            unfold tv
            dsimp only at *
            go_enter Try.func25, Try.ntmps25
            go_wp2_with fail
            go_region
            go_wp2
            exact bodyPost_ret (v := tv (0#64, m)) (by simp [results, Try.results25, go_sem]; try rfl) rfl ⟨rfl, ((((Below.refl _ _).alloc (Nat.le_refl _) _).alloc (by simp) _).alloc (by simp <;> omega) _).drew⟩
          · have h7 : bmin a.2 (b.2 - 1#64) = b.2 - 1#64 := if_neg (by rw [← ub_ltN]; exact h6)
            rw [h7]
            clear h1 hb h7
            obtain ⟨v, m⟩ := a
            obtain ⟨v', m'⟩ := b
            unfold tv
            dsimp only at *
            go_enter Try.func25, Try.ntmps25
            go_wp2_with fail
            go_region
            go_wp2
            exact bodyPost_ret (v := tv (0#64, m' - 1#64)) (by simp [results, Try.results25, go_sem]; try rfl) rfl ⟨rfl, ((((Below.refl _ _).alloc (Nat.le_refl _) _).alloc (by simp) _).alloc (by simp <;> omega) _).drew⟩
      · have x3 : (b.1 == b.2) = false := by simp [h3]
        rw [if_neg (fun h => h3 h.1)]
        by_cases h5 : b.1 = 0#64
        · rw [if_pos h5]
          have x5 : (b.1 == 0#64) = true := by simp [h5]
          clear h3 h5 h1 hb
          obtain ⟨v, m⟩ := a
          obtain ⟨v', m'⟩ := b
          unfold tv
          dsimp only at *
          go_enter Try.func25, Try.ntmps25
          go_wp2_with fail
          go_region
          go_wp2
          exact bodyPost_ret (v := tv (0#64, m)) (by simp [results, Try.results25, go_sem]; try rfl) rfl ⟨rfl, ((((Below.refl _ _).alloc (Nat.le_refl _) _).alloc (by simp) _).alloc (by simp <;> omega) _).drew⟩
        · rw [if_neg h5]
          have x5 : (b.1 == 0#64) = false := by simp [h5]
          clear h3 h5
          have h6 : ub a.2 < ub (b.2 - 1#64) ∨ ¬ ub a.2 < ub (b.2 - 1#64) := by omega
          rcases h6 with h6 | h6
          · rw [show bmin a.2 (b.2 - 1#64) = a.2 from if_pos (by rw [← ub_ltN]; exact h6)]
            clear h1 hb
            obtain ⟨v, m⟩ := a
            obtain ⟨v', m'⟩ := b
            unfold tv
            dsimp only at *
            go_enter Try.func25, Try.ntmps25
            go_wp2_with fail
            go_region
            go_wp2
            exact bodyPost_ret (v := tv (0#64, m)) (by simp [results, Try.results25, go_sem]; try rfl) rfl ⟨rfl, ((((Below.refl _ _).alloc (Nat.le_refl _) _).alloc (by simp) _).alloc (by simp <;> omega) _).drew⟩
          · have h7 : bmin a.2 (b.2 - 1#64) = b.2 - 1#64 := if_neg (by rw [← ub_ltN]; exact h6)
            rw [h7]
            clear h1 hb h7
            obtain ⟨v, m⟩ := a
            obtain ⟨v', m'⟩ := b
            unfold tv
            dsimp only at *
            go_enter Try.func25, Try.ntmps25
            go_wp2_with fail
            go_region
            go_wp2
            exact bodyPost_ret (v := tv (0#64, m' - 1#64)) (by simp [results, Try.results25, go_sem]; try rfl) rfl ⟨rfl, ((((Below.refl _ _).alloc (Nat.le_refl _) _).alloc (by simp) _).alloc (by simp <;> omega) _).drew⟩
end Go.Proofs.Ytjcnpjidkimldaa
