/-
  Contracts of number, lay, part, as the landed code has them.
-/
import Derived.Test.YtjlaenkfjejbkaaMeC
namespace Go.Proofs.Ytjlaenkfjejbkaa
set_option linter.unusedSimpArgs false
set_option linter.unusedVariables false
open Go.ChangeShapes Go.WideShapes Go.ChangeAt Go.RowKit

theorem or_byte (a x : Int) (k : Nat) (hk : k ≤ 7) (ha : 0 ≤ a) (ha' : a < 256 ^ k) (hx : 0 ≤ x) (hx' : x < 256) : bits .or .u64 a (IntKind.u64.wrap (x * 2 ^ (8 * k))) = a + x * 256 ^ k := by
  have h8 : k = 0 ∨ k = 1 ∨ k = 2 ∨ k = 3 ∨ k = 4 ∨ k = 5 ∨ k = 6 ∨ k = 7 := by omega
  have key : ∀ i : Nat, i ≤ 56 → a < 2 ^ i → x * 2 ^ i < 18446744073709551616 → bits .or .u64 a (x * 2 ^ i) = a + x * 2 ^ i := by
    intro i hi h1 h2
    have hp : (0 : Int) < 2 ^ i := Int.pow_pos (by decide)
    have hp' : (2 : Int) ^ i ≤ 2 ^ 56 := by
      have := Nat.pow_le_pow_right (n := 2) (by decide) hi
      exact_mod_cast this
    have hm : 0 ≤ x * 2 ^ i := Int.mul_nonneg hx (by omega)
    rw [u64_or a (x * 2 ^ i) ha (by omega) hm h2]
    have e : (x * 2 ^ i).toNat = 2 ^ i * x.toNat := by
      have : x * 2 ^ i = ((2 ^ i * x.toNat : Nat) : Int) := by
        rw [Int.natCast_mul, Int.natCast_pow, Int.toNat_of_nonneg hx, Int.mul_comm]
        rfl
      rw [this, Int.toNat_natCast]
    have hl : a.toNat < 2 ^ i := by
      have : (a.toNat : Int) < ((2 ^ i : Nat) : Int) := by rw [Int.toNat_of_nonneg ha, Int.natCast_pow]; exact h1
      exact_mod_cast this
    rw [e, Nat.or_comm, ← Nat.two_pow_add_eq_or_of_lt hl, Int.natCast_add, Int.natCast_mul, Int.natCast_pow, Int.toNat_of_nonneg hx, Int.toNat_of_nonneg ha, Int.add_comm, Int.mul_comm]
    rfl
  have hw : ∀ y : Int, 0 ≤ y → y < 18446744073709551616 → IntKind.u64.wrap y = y := by
    intro y h0 h1
    rw [IntKind.wrap_u64]
    omega
  rcases h8 with rfl | rfl | rfl | rfl | rfl | rfl | rfl | rfl <;> (rw [hw _ (by omega) (by omega), key _ (by omega) (by simpa using ha') (by omega)]; simp)

theorem number_some (g o cap : Nat) (l : List Int) (hl : l.length ≤ 8) (hb : ∀ x ∈ l, 0 ≤ x ∧ x < 256) (w : World) (hc : w.rangeAt g o (bC l)) :
    Calls Try.prog 39 #[.slice (some ⟨g, o, none⟩) l.length cap] w fun e w' => e = .returned (.int .u64 (numL l)) ∧ w = w' := by
  have HC := hid hc
  have HB := hid hb
  clear hc hb
  go_enter Try.func39, Try.ntmps39
  go_wp2
  go_loop [3, 8] (fun n i => ∃ k : Nat, k ≤ l.length ∧ i = .int .i64 k ∧ n = .int .u64 (numL (l.take k))) (fun _ i => l.length - (intOf i).toNat)
  case atStart => exact ⟨0, Nat.zero_le _, rfl, rfl⟩
  case round =>
    obtain ⟨k, hk, rfl, rfl⟩ := hrel
    by_cases hlt : k < l.length
    · have hx := HB.out l[k] (List.getElem_mem hlt)
      obtain ⟨hx0, hx1⟩ := hx
      have hcell : w.cell? ⟨g, o + k, none⟩ = some (.int .u8 l[k]) := HC.out k _ (by simp [bC, hlt])
      have hn := numL_bd (l.take k) (fun x hx => HB.out x (List.mem_of_mem_take hx))
      have hs : numL (l.take (k + 1)) = numL (l.take k) + l[k] * 256 ^ k := by
        rw [List.take_succ_eq_append_getElem hlt, numL_snoc, List.length_take, Nat.min_eq_left hk]
      rw [List.length_take, Nat.min_eq_left hk] at hn
      have HS : Hid (bits .or .u64 (numL (l.take k)) (IntKind.u64.wrap (l[k] * 2 ^ (8 * k))) = numL (l.take (k + 1))) := by rw [hs]; exact or_byte _ _ _ (by omega) hn.1 hn.2 hx0 hx1
      clear hs hn
      go_wp2
      go_round
      case rel => exact ⟨k + 1, by omega, by go_num, by rw [HS.out]⟩
      case measure => simp [intOf]; omega
    · go_wp2
      go_ret
      have : k = l.length := by omega
      subst this
      exact ⟨ret_val (by rw [List.take_length]; rfl), rfl⟩
theorem number_nil (w : World) : Calls Try.prog 39 #[.slice none 0 0] w fun e w' => e = .returned (.int .u64 0) ∧ w = w' := by
  go_enter Try.func39, Try.ntmps39
  go_wp2
  go_loop [3, 8] (fun n i => i = .int .i64 0 ∧ n = .int .u64 0) (fun _ i => 0)
  case atStart => exact ⟨rfl, rfl⟩
  case round =>
    obtain ⟨rfl, rfl⟩ := hrel
    go_wp2
    go_ret
    exact ⟨rfl, rfl⟩

theorem setCells_snoc (v : Value) (g : Nat) : ∀ (vs : List Value) (o : Nat) (w : World), w.setCells g o (vs ++ [v]) = (w.setCells g o vs).setCell ⟨g, o + vs.length, none⟩ v
  | [], o, w => by simp [World.setCells]
  | x :: r, o, w => by
    rw [List.cons_append, World.setCells, setCells_snoc v g r, World.setCells, List.length_cons]
    congr 2
    omega

theorem lay_some (g o cap len : Nat) (hl : len ≤ 8) (n : Int) (h0 : 0 ≤ n) (h1 : n < 18446744073709551616) (w : World) (ht : w.there g o len) :
    Calls Try.prog 40 #[.slice (some ⟨g, o, none⟩) len cap, .int .u64 n] w fun e w' => e = .returned (.tuple #[]) ∧ w' = w.setCells g o (bC (layL n len)) := by
  have HT := hid ht
  clear ht
  go_enter Try.func40, Try.ntmps40
  go_wp2
  go_loopw [7] (fun i w' => ∃ k : Nat, k ≤ len ∧ i = .int .i64 k ∧ w' = w.setCells g o (bC (layL n k))) (fun i _ => len - (intOf i).toNat)
  case atStart => exact ⟨0, Nat.zero_le _, rfl, rfl⟩
  case round =>
    obtain ⟨k, hk, rfl, rfl⟩ := hrel
    by_cases hlt : k < len
    · have hcell := World.there_setCells HT.out g o (bC (layL n k)) k hlt
      obtain ⟨hc1, hc2⟩ := hcell
      obtain ⟨v, hv⟩ := Option.isSome_iff_exists.1 hc1
      go_wp2
      go_roundw
      case rel =>
        refine ⟨k + 1, by omega, by go_num, ?_⟩
        rw [layL_snoc, show bC (layL n k ++ [n / 256 ^ k % 256]) = bC (layL n k) ++ [Value.int .u8 (n / 256 ^ k % 256)] by simp [bC], setCells_snoc, show (bC (layL n k)).length = k by simp [bC, layL_len]]
        have e : (256 : Int) ^ k = 2 ^ (8 * k) := by rw [Int.pow_mul]; rfl
        rw [e]
      case measure => simp [intOf]; omega
    · go_wp2
      go_end0
      have : k = len := by omega
      subst this
      exact ⟨rfl, rfl⟩
theorem lay_nil (n : Int) (w : World) : Calls Try.prog 40 #[.slice none 0 0, .int .u64 n] w fun e w' => e = .returned (.tuple #[]) ∧ w' = w := by
  go_enter Try.func40, Try.ntmps40
  go_wp2
  go_loop [7] (fun i => i = .int .i64 0) (fun _ => 0)
  case atStart => exact rfl
  case round =>
    obtain rfl := hrel
    go_wp2
    go_end0
    exact ⟨rfl, rfl⟩

/-- Some bytes in memory: a slice that holds them, or nil. -/
def BSl (pv : Value) (l : List Int) (w : World) : Prop :=
  (∃ g o cap, pv = .slice (some ⟨g, o, none⟩) l.length cap ∧ l.length ≤ cap ∧ w.rangeAt g o (bC l)) ∨ ((∃ p cap, pv = .slice p 0 cap) ∧ l = [])

theorem part_bad (p : Option Addr) (len cap : Nat) (off n : Int) (w : World) (hl : (len : Int) < 9223372036854775808) (ho : -9223372036854775808 ≤ off ∧ off < 9223372036854775808) (hE : getE len off n ≠ 0) :
    Calls Try.prog 38 #[.slice p len cap, .int .i64 off, .int .i64 n] w fun e w' => e = .returned (.tuple #[.slice none 0 0, .int .i64 (getE len off n)]) ∧ w = w' := by
  unfold getE at hE ⊢
  cases hs : sizeB n
  · have HI := hid (isSize_any n w)
    rw [hs] at HI
    simp only [if_true]
    clear hs hE
    go_enter Try.func38, Try.ntmps38
    go_wp2_with (go_at_call 29; refine HI.out.mono ?_; rintro e w1 ⟨rfl, rfl⟩)
    go_ret2
    exact ⟨rfl, rfl⟩
  · have hn : 1 ≤ n ∧ n ≤ 8 := by rcases size_cases hs with h | h | h | h <;> omega
    have HI := hid (isSize_any n w)
    have HW := hid (within_any len off n w ⟨by omega, hl⟩ hn ho)
    rw [hs] at HI
    cases hw : withinB len off n
    · rw [hw] at HW
      simp only [Bool.true_eq_false, if_false, if_true]
      clear hs hE hw hn
      go_enter Try.func38, Try.ntmps38
      go_wp2_with (first | (go_at_call 29; refine HI.out.mono ?_; rintro e w1 ⟨rfl, rfl⟩) | (go_at_call 41; refine HW.out.mono ?_; rintro e w1 ⟨rfl, rfl⟩))
      go_ret2
      exact ⟨rfl, rfl⟩
    · exact absurd (by simp [hs, hw]) hE

theorem part_ok (g o len cap : Nat) (off n : Int) (w : World) (hc : len ≤ cap) (hl : (len : Int) < 4611686018427387904) (hE : getE len off n = 0) :
    Calls Try.prog 38 #[.slice (some ⟨g, o, none⟩) len cap, .int .i64 off, .int .i64 n] w fun e w' => e = .returned (.tuple #[.slice (some ⟨g, o + off.toNat, none⟩) n.toNat n.toNat, .int .i64 0]) ∧ w = w' := by
  unfold getE at hE
  cases hs : sizeB n
  · simp [hs] at hE
  · cases hw : withinB len off n
    · simp [hs, hw] at hE
    · have hn : 1 ≤ n ∧ n ≤ 8 := by rcases size_cases hs with h | h | h | h <;> omega
      have ho : 0 ≤ off ∧ off ≤ len - n := by simpa [withinB] using hw
      have HI := hid (isSize_any n w)
      have HW := hid (within_any len off n w ⟨by omega, by omega⟩ hn ⟨by omega, by omega⟩)
      rw [hs] at HI
      rw [hw] at HW
      clear hs hE hw
      obtain ⟨hn0, hn1⟩ := hn
      obtain ⟨ho0, ho1⟩ := ho
      obtain ⟨N, rfl⟩ : ∃ N : Nat, n = N := ⟨n.toNat, by omega⟩
      obtain ⟨O, rfl⟩ : ∃ O : Nat, off = O := ⟨off.toNat, by omega⟩
      simp only [Int.toNat_natCast]
      go_enter Try.func38, Try.ntmps38
      go_wp2_with (first | (go_at_call 29; refine HI.out.mono ?_; rintro e w1 ⟨rfl, rfl⟩) | (go_at_call 41; refine HW.out.mono ?_; rintro e w1 ⟨rfl, rfl⟩))
      go_ret2
      exact ⟨ret_val (by simp [Nat.add_sub_cancel_left]), rfl⟩

theorem Get_any (pv : Value) (l : List Int) (off n : Int) (w : World) (hp : BSl pv l w) (hb : ∀ x ∈ l, 0 ≤ x ∧ x < 256) (hl : (l.length : Int) < 4611686018427387904) (ho : -9223372036854775808 ≤ off ∧ off < 9223372036854775808) :
    Calls Try.prog 22 #[pv, .int .i64 off, .int .i64 n] w fun e w' => e = .returned (.tuple #[.int .u64 (getN l off n), .int .i64 (getE l.length off n)]) ∧ w = w' := by
  by_cases hE : getE l.length off n = 0
  · have hlt : withinB l.length off n = true := by
      unfold getE at hE
      cases hs : sizeB n
      · simp [hs] at hE
      · cases hw : withinB l.length off n
        · simp [hs, hw] at hE
        · rfl
    have hs : sizeB n = true := by
      unfold getE at hE
      cases hs : sizeB n
      · simp [hs] at hE
      · rfl
    have hn : 1 ≤ n ∧ n ≤ 8 := by rcases size_cases hs with h | h | h | h <;> omega
    have ho' : 0 ≤ off ∧ off ≤ l.length - n := by simpa [withinB] using hlt
    rcases hp with ⟨g, o, cap, rfl, hcap, hc⟩ | ⟨_, rfl⟩
    · have HP := hid (part_ok g o l.length cap off n w hcap hl hE)
      have hpl : (partL l off.toNat n.toNat).length = n.toNat := by simp [partL]; omega
      have hN := number_some g (o + off.toNat) n.toNat (partL l off.toNat n.toNat) (by omega) (fun x hx => hb x (List.mem_of_mem_drop (List.mem_of_mem_take hx))) w
        (by
          intro j v hv
          have hj : j < n.toNat := by have := (List.getElem?_eq_some_iff.1 hv).1; simpa [bC, hpl] using this
          have := hc (off.toNat + j) v (by
            rw [← hv]
            simp only [bC, partL, List.getElem?_map, List.getElem?_take_of_lt hj, List.getElem?_drop])
          rw [Nat.add_assoc]
          exact this)
      rw [hpl] at hN
      have HN := hid hN
      have hg : getN l off n = numL (partL l off.toNat n.toNat) := by unfold getN; rw [if_pos hE]
      rw [hE, hg]
      clear hN hE hlt hs hn ho' hc hcap hpl hg hb hl
      go_enter Try.func22, Try.ntmps22
      go_wp2_with (first | (go_at_call 38; refine HP.out.mono ?_; rintro e w1 ⟨rfl, rfl⟩) | (go_at_call 39; refine HN.out.mono ?_; rintro e w1 ⟨rfl, rfl⟩))
      go_ret2
      exact ⟨rfl, rfl⟩
    · exfalso
      simp at ho'
      omega
  · have hg : getN l off n = 0 := by unfold getN; rw [if_neg hE]
    rw [hg]
    clear hg
    have hp' : ∃ p cap, pv = .slice p l.length cap := by
      rcases hp with ⟨g, o, cap, rfl, _, _⟩ | ⟨⟨p, cap, rfl⟩, rfl⟩
      · exact ⟨_, _, rfl⟩
      · exact ⟨p, cap, rfl⟩
    obtain ⟨p, cap, rfl⟩ := hp'
    have HP := hid (part_bad p l.length cap off n w (by omega) ho hE)
    have HN := hid (number_nil w)
    generalize getE l.length off n = E at HP hE ⊢
    clear hE hp hb hl ho
    go_enter Try.func22, Try.ntmps22
    go_wp2_with (first | (go_at_call 38; refine HP.out.mono ?_; rintro e w1 ⟨rfl, rfl⟩) | (go_at_call 39; refine HN.out.mono ?_; rintro e w1 ⟨rfl, rfl⟩))
    go_ret2
    exact ⟨rfl, rfl⟩

end Go.Proofs.Ytjlaenkfjejbkaa
