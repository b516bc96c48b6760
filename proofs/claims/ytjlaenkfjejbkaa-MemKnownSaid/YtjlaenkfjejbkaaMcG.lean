/-
  The document's Sized, Get.
-/
import Derived.Test.YtjlaenkfjejbkaaMbT
namespace Go.Proofs.Ytjlaenkfjejbkaa
set_option linter.unusedSimpArgs false
set_option linter.unusedVariables false
open Go.ChangeShapes Go.WideShapes Go.ChangeAt Go.RowKit

theorem rsized_any (n : Int) (w : World) : Calls Try.prog 32 #[.int .i64 n] w fun e w' => e = .returned (.bool (sizeB n)) ∧ w = w' := by
  unfold sizeB
  cases h1 : (n == 1) <;> cases h2 : (n == 2) <;> cases h3 : (n == 4) <;> cases h4 : (n == 8) <;>
  (go_enter Try.func32, Try.ntmps32
   go_wp2
   go_ret
   exact ⟨rfl, rfl⟩)
theorem mul_byte (a x : Int) (k : Nat) (hk : k ≤ 7) (ha : 0 ≤ a) (ha' : a < 256 ^ k) (hx : 0 ≤ x) (hx' : x < 256) : IntKind.u64.wrap (a + IntKind.u64.wrap (256 ^ k % 18446744073709551616 * x)) = a + x * 256 ^ k := by
  have h8 : k = 0 ∨ k = 1 ∨ k = 2 ∨ k = 3 ∨ k = 4 ∨ k = 5 ∨ k = 6 ∨ k = 7 := by omega
  rw [IntKind.wrap_u64, IntKind.wrap_u64]
  rcases h8 with rfl | rfl | rfl | rfl | rfl | rfl | rfl | rfl <;> simp only [Int.reducePow, Int.reduceMod] at * <;> omega
theorem pow_byte (k : Nat) (hk : k ≤ 7) : IntKind.u64.wrap (256 ^ k % 18446744073709551616 * 256) = 256 ^ (k + 1) % 18446744073709551616 := by
  have h8 : k = 0 ∨ k = 1 ∨ k = 2 ∨ k = 3 ∨ k = 4 ∨ k = 5 ∨ k = 6 ∨ k = 7 := by omega
  rw [IntKind.wrap_u64]
  rcases h8 with rfl | rfl | rfl | rfl | rfl | rfl | rfl | rfl <;> rfl

set_option maxHeartbeats 1600000 in
theorem rGet_any (pv : Value) (l : List Int) (off n : Int) (w : World) (hp : BSl pv l w) (hb : ∀ x ∈ l, 0 ≤ x ∧ x < 256) (hl : (l.length : Int) < 4611686018427387904) (ho : -9223372036854775808 ≤ off ∧ off < 9223372036854775808) :
    Calls Try.prog 23 #[pv, .int .i64 off, .int .i64 n] w fun e w' => e = .returned (.tuple #[.int .u64 (getN l off n), .int .i64 (getE l.length off n)]) ∧ w = w' := by
  have HS := hid (fun W => rsized_any n W)
  have hpv : ∃ p cap, pv = .slice p l.length cap := by
    rcases hp with ⟨g, o, cap, rfl, _, _⟩ | ⟨⟨p, cap, rfl⟩, rfl⟩
    · exact ⟨_, _, rfl⟩
    · exact ⟨p, cap, rfl⟩
  obtain ⟨ho1, ho2⟩ := ho
  cases hs : sizeB n
  · have hE : getE l.length off n = 1 := by unfold getE; rw [if_pos hs]
    rw [getN_bad (by rw [hE]; decide), hE]
    rw [hs] at HS
    clear hs hE hp hb
    obtain ⟨p, cap, rfl⟩ := hpv
    go_enter Try.func23, Try.ntmps23
    go_wp2_with (go_at_call 32; refine (HS.out _).mono ?_; rintro e w1 ⟨rfl, rfl⟩)
    go_ret2
    exact ⟨rfl, rfl⟩
  · have hn : 1 ≤ n ∧ n ≤ 8 := by rcases size_cases hs with h | h | h | h <;> omega
    obtain ⟨hn1, hn8⟩ := hn
    rw [hs] at HS
    by_cases h0 : off < 0
    · have hE : getE l.length off n = 42 := by
        unfold getE withinB
        rw [hs, decide_eq_false (show ¬ 0 ≤ off by omega)]
        rfl
      rw [getN_bad (by rw [hE]; decide), hE]
      have d0 : decide (off < 0) = true := decide_eq_true h0
      clear hs hE hp hb
      obtain ⟨p, cap, rfl⟩ := hpv
      go_enter Try.func23, Try.ntmps23
      go_wp2_with (go_at_call 32; refine (HS.out _).mono ?_; rintro e w1 ⟨rfl, rfl⟩)
      go_ret2
      exact ⟨rfl, rfl⟩
    · have d0 : decide (off < 0) = false := decide_eq_false h0
      by_cases h1 : (l.length : Int) - n < off
      · have hE : getE l.length off n = 42 := by
          unfold getE withinB
          rw [hs, decide_eq_false (show ¬ off ≤ (l.length : Int) - n by omega)]
          simp
        rw [getN_bad (by rw [hE]; decide), hE]
        have d1 : decide ((l.length : Int) - n < off) = true := decide_eq_true h1
        clear hs hE hp hb
        obtain ⟨p, cap, rfl⟩ := hpv
        go_enter Try.func23, Try.ntmps23
        go_wp2_with (go_at_call 32; refine (HS.out _).mono ?_; rintro e w1 ⟨rfl, rfl⟩)
        go_ret2
        exact ⟨rfl, rfl⟩
      · have d1 : decide ((l.length : Int) - n < off) = false := decide_eq_false h1
        have hE : getE l.length off n = 0 := getE_mk hs (by omega) (by omega)
        have hg : getN l off n = numL (partL l off.toNat n.toNat) := by unfold getN; rw [if_pos hE]
        rw [hg, hE]
        rcases hp with ⟨g, o, cap, rfl, hcap, hc⟩ | ⟨_, rfl⟩
        · obtain ⟨N, rfl⟩ : ∃ N : Nat, n = N := ⟨n.toNat, by omega⟩
          obtain ⟨O, rfl⟩ : ∃ O : Nat, off = O := ⟨off.toNat, by omega⟩
          simp only [Int.toNat_natCast] at hg ⊢
          have hON : O + N ≤ l.length := by omega
          have hPl := part_len hON
          have hPb := part_bd (i := O) (s := N) hb
          have hcell : ∀ k (h : k < (partL l O N).length), w.cell? ⟨g, o + (O + k), none⟩ = some (.int .u8 (partL l O N)[k]) := fun k h => by
            have := hc (O + k) (.int .u8 (partL l O N)[k]) (by
              simp only [bC, List.getElem?_map, partL, List.getElem_take, List.getElem_drop]
              rw [List.getElem?_eq_getElem (by omega)]
              rfl)
            exact this
          generalize partL l O N = P at hPl hPb hcell ⊢
          have HC := hid hcell
          have HB := hid hPb
          clear hcell hPb hc hg hE hs hb hpv
          go_enter Try.func23, Try.ntmps23
          go_wp2_with (go_at_call 32; refine (HS.out _).mono ?_; rintro e w1 ⟨rfl, rfl⟩)
          go_loop [8, 9, 10] (fun nn pw i => ∃ k : Nat, k ≤ N ∧ i = .int .i64 k ∧ nn = .int .u64 (numL (P.take k)) ∧ pw = .int .u64 (256 ^ k % 18446744073709551616)) (fun _ _ i => N - (intOf i).toNat)
          case atStart => exact ⟨0, Nat.zero_le _, rfl, rfl, rfl⟩
          case round =>
            obtain ⟨k, hk, rfl, rfl, rfl⟩ := hrel
            by_cases hlt : k < N
            · have hkP : k < P.length := by omega
              have hx := HB.out P[k] (List.getElem_mem hkP)
              obtain ⟨hx0, hx1⟩ := hx
              have hcell := HC.out k hkP
              have hn := numL_bd (P.take k) (fun x hx => HB.out x (List.mem_of_mem_take hx))
              have hs : numL (P.take (k + 1)) = numL (P.take k) + P[k] * 256 ^ k := by
                rw [List.take_succ_eq_append_getElem hkP, numL_snoc, List.length_take, Nat.min_eq_left (by omega)]
              rw [List.length_take, Nat.min_eq_left (by omega)] at hn
              have HM := hid ((mul_byte _ _ k (by omega) hn.1 hn.2 hx0 hx1).trans hs.symm)
              have HW := hid (pow_byte k (by omega))
              clear hs hn
              generalize P[k] = z at hcell HM hx0 hx1
              go_wp2
              go_round
              case rel => exact ⟨k + 1, by omega, by go_num, by rw [← HM.out], by rw [← HW.out]⟩
              case measure => simp [intOf]; omega
            · go_wp2
              go_ret2
              have : k = N := by omega
              subst this
              rw [← hPl, List.take_length]
              exact ⟨rfl, rfl⟩
        · exfalso
          simp at h1
          omega

end Go.Proofs.Ytjlaenkfjejbkaa
