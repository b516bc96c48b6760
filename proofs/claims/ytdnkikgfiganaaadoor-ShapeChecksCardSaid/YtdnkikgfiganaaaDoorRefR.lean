/-
  The contract of the document's own Rows.
-/
import Derived.Test.YtdnkikgfiganaaaDoorRefH
namespace Go.Proofs.YtdnkikgfiganaaaDoor
set_option linter.unusedSimpArgs false
set_option linter.unusedVariables false
open Go.ChangeShapes Go.WideShapes Go.ChangeAt Go.RowKit

theorem rowsAlu_ne {k : Nat} (h : k ≠ 8) : rowsAlu k = [⟨16 * (k : Int) + 4, 1, k, 0, false, false, 2, 0, 0, 3, 0⟩, ⟨16 * (k : Int) + 7, 1, k, 0, true, false, 2, 0, 0, 3, 0⟩, ⟨16 * (k : Int) + 12, 1, k, 0, false, true, 2, 1, 0, 0, 0⟩, ⟨16 * (k : Int) + 15, 1, k, 0, true, true, 2, 1, 0, 0, 0⟩] := by
  unfold rowsAlu
  simp [h]
theorem rowsAlu_8 : rowsAlu 8 = [⟨132, 1, 8, 0, false, false, 2, 0, 0, 0, 0⟩, ⟨135, 1, 8, 0, true, false, 2, 0, 0, 0, 0⟩] := rfl
theorem rowsSwap_0 : rowsSwap 0 = [⟨215, 2, 0, 2, false, false, 2, 0, 0, 4, 16⟩] := rfl
theorem rowsSwap_1 : rowsSwap 1 = [⟨215, 2, 0, 4, false, false, 2, 0, 0, 4, 32⟩] := rfl
theorem rowsSwap_2 : rowsSwap 2 = [⟨215, 2, 0, 8, false, false, 2, 0, 0, 4, 64⟩] := rfl
theorem rowsMem_0 : rowsMem 0 = [⟨97, 3, 0, 4, false, false, 2, 1, 3, 0, 0⟩, ⟨98, 5, 0, 4, false, false, 1, 0, 3, 3, 0⟩, ⟨99, 4, 0, 4, false, false, 1, 1, 3, 0, 0⟩] := rfl
theorem rowsMem_1 : rowsMem 1 = [⟨105, 3, 0, 2, false, false, 2, 1, 3, 0, 0⟩, ⟨106, 5, 0, 2, false, false, 1, 0, 3, 3, 0⟩, ⟨107, 4, 0, 2, false, false, 1, 1, 3, 0, 0⟩] := rfl
theorem rowsMem_2 : rowsMem 2 = [⟨113, 3, 0, 1, false, false, 2, 1, 3, 0, 0⟩, ⟨114, 5, 0, 1, false, false, 1, 0, 3, 3, 0⟩, ⟨115, 4, 0, 1, false, false, 1, 1, 3, 0, 0⟩] := rfl
theorem rowsMem_3 : rowsMem 3 = [⟨121, 3, 0, 8, false, false, 2, 1, 3, 0, 0⟩, ⟨122, 5, 0, 8, false, false, 1, 0, 3, 3, 0⟩, ⟨123, 4, 0, 8, false, false, 1, 1, 3, 0, 0⟩] := rfl
theorem part2_0 : part2 0 = part1 13 := by unfold part2; simp
theorem part3_0 : part3 0 = part2 3 := by unfold part3; simp
theorem part4_0 : part4 0 = part3 4 := by unfold part4; simp
theorem part4_at {k : Nat} (h : 1 ≤ k) : part4 k = part4 (k - 1) ++ rowsJmp k := by
  obtain ⟨j, rfl⟩ : ∃ j, k = j + 1 := ⟨k - 1, by omega⟩
  rw [Nat.add_sub_cancel]
  exact part4_succ j
theorem rowsJmp_8 : rowsJmp 8 = [] := rfl
theorem rowsJmp_9 : rowsJmp 9 = [] := rfl
def szv (j : Nat) : Int := if j = 0 then 2 else if j = 1 then 4 else if j = 2 then 8 else 16
/-- The list so far, and the world behind. -/
def Done (w : World) (L : List RR) (e : Ending) (w' : World) : Prop := ∃ v, e = .returned v ∧ OwnR w w' v L
theorem rowsJmp_ne {k : Nat} (h : k ≠ 8) (h' : k ≠ 9) : rowsJmp k = [⟨16 * (k : Int) + 5, 6, k, 0, true, false, 1, 0, 3, 3, 0⟩, ⟨16 * (k : Int) + 6, 6, k, 0, false, false, 1, 0, 3, 3, 0⟩, ⟨16 * (k : Int) + 13, 6, k, 0, true, true, 1, 1, 3, 0, 0⟩, ⟨16 * (k : Int) + 14, 6, k, 0, false, true, 1, 1, 3, 0, 0⟩] := by
  unfold rowsJmp
  rw [if_neg (by omega)]

set_option maxRecDepth 100000 in
set_option maxHeartbeats 4000000 in
theorem rows_any (w : World) : Calls Tryd.prog 83 #[] w (Done w rowsI) := by
  have hn := OwnR.nil w
  go_enter Tryd.func83, Tryd.ntmps83
  go_wp2
  go_loopw [1, 2] (fun l o wr => ∃ k : Nat, k ≤ 13 ∧ o = .int .i64 k ∧ OwnR w wr l (part1 k)) (fun _ o _ => 13 - (intOf o).toNat)
  case atStart => exact ⟨0, by omega, rfl, hn⟩
  case round =>
    obtain ⟨k, hk, rfl, hown⟩ := hrel
    clear hn
    by_cases h8 : k = 8
    · subst h8
      have hl := len_of lens_1 (k := 8) (by omega)
      generalize hL : part1 8 = L at hown hl
      have HL := hid hL
      clear hL
      go_wp2_with (first
        | (at_builtin; refine append_row rfl (.tmp 14) (.tmp 23) rfl w wr _ L ⟨132, 1, 8, 0, false, false, 2, 0, 0, 0, 0⟩ (by exact rfl) hown _ (by exact rfl) (by exact rfl) (by omega) ?_; intro v1 w1 own1)
        | (at_builtin; refine append_row rfl (.tmp 25) (.tmp 34) rfl w w1 _ (L ++ [⟨132, 1, 8, 0, false, false, 2, 0, 0, 0, 0⟩]) ⟨135, 1, 8, 0, true, false, 2, 0, 0, 0, 0⟩ (by exact rfl) own1 _ (by exact rfl) (by exact rfl) (by simp only [List.length_append, List.length_cons, List.length_nil]; omega) ?_; intro v2 w2 own2))
      go_roundw
      case rel => exact ⟨9, by omega, rfl, by rw [show (9 : Nat) = 8 + 1 from rfl, part1_succ, HL.out, rowsAlu_8]; simpa [List.append_assoc] using own2⟩
      case measure => simp [intOf]
    by_cases hlt : k < 13
    · have hl := len_of lens_1 (k := k) (by omega)
      have HL := hid (part1_succ k)
      generalize part1 k = L at hown hl HL
      have HR := hid (rowsAlu_ne h8)
      have e8 : ((k : Int) == 8) = false := by simp; omega
      have n8 : ((k : Int) != 8) = true := by simp; omega
      have hle : decide ((k : Int) ≤ 12) = true := by simp; omega
      clear h8
      go_wp2_with (first
        | (at_builtin; refine append_row rfl (.tmp 14) (.tmp 23) rfl w wr _ L ⟨16 * (k : Int) + 4, 1, k, 0, false, false, 2, 0, 0, 3, 0⟩ (by exact rfl) hown _ (by exact rfl) (by exact rfl) (by omega) ?_; intro v1 w1 own1)
        | (at_builtin; refine append_row rfl (.tmp 25) (.tmp 34) rfl w w1 _ (L ++ [⟨16 * (k : Int) + 4, 1, k, 0, false, false, 2, 0, 0, 3, 0⟩]) ⟨16 * (k : Int) + 7, 1, k, 0, true, false, 2, 0, 0, 3, 0⟩ (by exact rfl) own1 _ (by exact rfl) (by exact rfl) (by simp only [List.length_append, List.length_cons, List.length_nil]; omega) ?_; intro v2 w2 own2)
        | (at_builtin; refine append_row rfl (.tmp 38) (.tmp 46) rfl w w2 _ ((L ++ [⟨16 * (k : Int) + 4, 1, k, 0, false, false, 2, 0, 0, 3, 0⟩]) ++ [⟨16 * (k : Int) + 7, 1, k, 0, true, false, 2, 0, 0, 3, 0⟩]) ⟨16 * (k : Int) + 12, 1, k, 0, false, true, 2, 1, 0, 0, 0⟩ (by exact rfl) own2 _ (by exact rfl) (by exact rfl) (by simp only [List.length_append, List.length_cons, List.length_nil]; omega) ?_; intro v3 w3 own3)
        | (at_builtin; refine append_row rfl (.tmp 48) (.tmp 56) rfl w w3 _ (((L ++ [⟨16 * (k : Int) + 4, 1, k, 0, false, false, 2, 0, 0, 3, 0⟩]) ++ [⟨16 * (k : Int) + 7, 1, k, 0, true, false, 2, 0, 0, 3, 0⟩]) ++ [⟨16 * (k : Int) + 12, 1, k, 0, false, true, 2, 1, 0, 0, 0⟩]) ⟨16 * (k : Int) + 15, 1, k, 0, true, true, 2, 1, 0, 0, 0⟩ (by exact rfl) own3 _ (by exact rfl) (by exact rfl) (by simp only [List.length_append, List.length_cons, List.length_nil]; omega) ?_; intro v4 w4 own4))
      go_roundw
      case rel => exact ⟨k + 1, by omega, by go_num, by rw [HL.out, HR.out]; simpa [List.append_assoc] using own4⟩
      case measure => simp [intOf]; omega
    · obtain rfl : k = 13 := by omega
      clear h8 hlt
      rw [← part2_0] at hown
      go_wp2
      obtain ⟨wo, rfl⟩ : ∃ wo : World, wo = wr := ⟨_, rfl⟩
      go_loopw [1, 4] (fun l o wr => ∃ k : Nat, k ≤ 3 ∧ o = .int .i64 (szv k) ∧ OwnR w wr l (part2 k)) (fun _ o _ => (16 - intOf o).toNat)
      case atStart => exact ⟨0, by omega, rfl, hown⟩
      case round =>
        clear hown
        obtain ⟨k, hk, rfl, hown⟩ := hrel
        have hl := len_of lens_2 (k := k) (by omega)
        have HL := hid (part2_succ k)
        have hk4 : k = 0 ∨ k = 1 ∨ k = 2 ∨ k = 3 := by omega
        rcases hk4 with rfl | rfl | rfl | rfl
        · generalize part2 0 = L at hown hl HL
          rw [show szv 0 = 2 from rfl]
          go_wp2_with (first
        | (at_builtin; refine append_row rfl (.tmp 62) (.tmp 68) rfl w wr _ L ⟨215, 2, 0, 2, false, false, 2, 0, 0, 4, 16⟩ (by exact rfl) hown _ (by exact rfl) (by exact rfl) (by omega) ?_; intro v1 w1 own1))
          have hfin : OwnR w w1 v1 (part2 1) := by rw [HL.out, rowsSwap_0]; exact own1
          go_roundw
          case rel => first | exact ⟨1, by omega, rfl, hfin⟩ | ((repeat apply Exists.intro); exact ⟨⟨1, by omega, rfl, hfin⟩, rfl⟩)
          case measure => simp [intOf]
        · generalize part2 1 = L at hown hl HL
          rw [show szv 1 = 4 from rfl]
          go_wp2_with (first
        | (at_builtin; refine append_row rfl (.tmp 62) (.tmp 68) rfl w wr _ L ⟨215, 2, 0, 4, false, false, 2, 0, 0, 4, 32⟩ (by exact rfl) hown _ (by exact rfl) (by exact rfl) (by omega) ?_; intro v1 w1 own1))
          have hfin : OwnR w w1 v1 (part2 2) := by rw [HL.out, rowsSwap_1]; exact own1
          go_roundw
          case rel => first | exact ⟨2, by omega, rfl, hfin⟩ | ((repeat apply Exists.intro); exact ⟨⟨2, by omega, rfl, hfin⟩, rfl⟩)
          case measure => simp [intOf]
        · generalize part2 2 = L at hown hl HL
          rw [show szv 2 = 8 from rfl]
          go_wp2_with (first
        | (at_builtin; refine append_row rfl (.tmp 62) (.tmp 68) rfl w wr _ L ⟨215, 2, 0, 8, false, false, 2, 0, 0, 4, 64⟩ (by exact rfl) hown _ (by exact rfl) (by exact rfl) (by omega) ?_; intro v1 w1 own1))
          have hfin : OwnR w w1 v1 (part2 3) := by rw [HL.out, rowsSwap_2]; exact own1
          go_roundw
          case rel => first | exact ⟨3, by omega, rfl, hfin⟩ | ((repeat apply Exists.intro); exact ⟨⟨3, by omega, rfl, hfin⟩, rfl⟩)
          case measure => simp [intOf]
        rw [show szv 3 = 16 from rfl]
        clear HL hl hk
        rw [← part3_0] at hown
        go_wp2
        obtain ⟨wo2, rfl⟩ : ∃ wo : World, wo = wr := ⟨_, rfl⟩
        go_loopw [1, 5] (fun l o wr => ∃ k : Nat, k ≤ 4 ∧ o = .int .i64 k ∧ OwnR w wr l (part3 k)) (fun _ o _ => 4 - (intOf o).toNat)
        case atStart => exact ⟨0, by omega, rfl, hown⟩
        case round =>
          clear hown
          obtain ⟨k, hk, rfl, hown⟩ := hrel
          have hl := len_of lens_3 (k := k) (by omega)
          have HL := hid (part3_succ k)
          have hk4 : k = 0 ∨ k = 1 ∨ k = 2 ∨ k = 3 ∨ k = 4 := by omega
          rcases hk4 with rfl | rfl | rfl | rfl | rfl
          · generalize part3 0 = L at hown hl HL
            go_wp2_with (first
        | (at_builtin; refine append_row rfl (.tmp 81) (.tmp 89) rfl w wr _ L ⟨97, 3, 0, 4, false, false, 2, 1, 3, 0, 0⟩ (by exact rfl) hown _ (by exact rfl) (by exact rfl) (by omega) ?_; intro v1 w1 own1)
        | (at_builtin; refine append_row rfl (.tmp 91) (.tmp 99) rfl w w1 _ (L ++ [⟨97, 3, 0, 4, false, false, 2, 1, 3, 0, 0⟩]) ⟨98, 5, 0, 4, false, false, 1, 0, 3, 3, 0⟩ (by exact rfl) own1 _ (by exact rfl) (by exact rfl) (by simp only [List.length_append, List.length_cons, List.length_nil]; omega) ?_; intro v2 w2 own2)
        | (at_builtin; refine append_row rfl (.tmp 101) (.tmp 109) rfl w w2 _ ((L ++ [⟨97, 3, 0, 4, false, false, 2, 1, 3, 0, 0⟩]) ++ [⟨98, 5, 0, 4, false, false, 1, 0, 3, 3, 0⟩]) ⟨99, 4, 0, 4, false, false, 1, 1, 3, 0, 0⟩ (by exact rfl) own2 _ (by exact rfl) (by exact rfl) (by simp only [List.length_append, List.length_cons, List.length_nil]; omega) ?_; intro v3 w3 own3))
            have hfin : OwnR w w3 v3 (part3 1) := by rw [HL.out, rowsMem_0]; simpa [List.append_assoc] using own3
            go_roundw
            case rel => first | exact ⟨1, by omega, rfl, hfin⟩ | ((repeat apply Exists.intro); exact ⟨⟨1, by omega, rfl, hfin⟩, rfl⟩)
            case measure => simp [intOf]
          · generalize part3 1 = L at hown hl HL
            go_wp2_with (first
        | (at_builtin; refine append_row rfl (.tmp 81) (.tmp 89) rfl w wr _ L ⟨105, 3, 0, 2, false, false, 2, 1, 3, 0, 0⟩ (by exact rfl) hown _ (by exact rfl) (by exact rfl) (by omega) ?_; intro v1 w1 own1)
        | (at_builtin; refine append_row rfl (.tmp 91) (.tmp 99) rfl w w1 _ (L ++ [⟨105, 3, 0, 2, false, false, 2, 1, 3, 0, 0⟩]) ⟨106, 5, 0, 2, false, false, 1, 0, 3, 3, 0⟩ (by exact rfl) own1 _ (by exact rfl) (by exact rfl) (by simp only [List.length_append, List.length_cons, List.length_nil]; omega) ?_; intro v2 w2 own2)
        | (at_builtin; refine append_row rfl (.tmp 101) (.tmp 109) rfl w w2 _ ((L ++ [⟨105, 3, 0, 2, false, false, 2, 1, 3, 0, 0⟩]) ++ [⟨106, 5, 0, 2, false, false, 1, 0, 3, 3, 0⟩]) ⟨107, 4, 0, 2, false, false, 1, 1, 3, 0, 0⟩ (by exact rfl) own2 _ (by exact rfl) (by exact rfl) (by simp only [List.length_append, List.length_cons, List.length_nil]; omega) ?_; intro v3 w3 own3))
            have hfin : OwnR w w3 v3 (part3 2) := by rw [HL.out, rowsMem_1]; simpa [List.append_assoc] using own3
            go_roundw
            case rel => first | exact ⟨2, by omega, rfl, hfin⟩ | ((repeat apply Exists.intro); exact ⟨⟨2, by omega, rfl, hfin⟩, rfl⟩)
            case measure => simp [intOf]
          · generalize part3 2 = L at hown hl HL
            go_wp2_with (first
        | (at_builtin; refine append_row rfl (.tmp 81) (.tmp 89) rfl w wr _ L ⟨113, 3, 0, 1, false, false, 2, 1, 3, 0, 0⟩ (by exact rfl) hown _ (by exact rfl) (by exact rfl) (by omega) ?_; intro v1 w1 own1)
        | (at_builtin; refine append_row rfl (.tmp 91) (.tmp 99) rfl w w1 _ (L ++ [⟨113, 3, 0, 1, false, false, 2, 1, 3, 0, 0⟩]) ⟨114, 5, 0, 1, false, false, 1, 0, 3, 3, 0⟩ (by exact rfl) own1 _ (by exact rfl) (by exact rfl) (by simp only [List.length_append, List.length_cons, List.length_nil]; omega) ?_; intro v2 w2 own2)
        | (at_builtin; refine append_row rfl (.tmp 101) (.tmp 109) rfl w w2 _ ((L ++ [⟨113, 3, 0, 1, false, false, 2, 1, 3, 0, 0⟩]) ++ [⟨114, 5, 0, 1, false, false, 1, 0, 3, 3, 0⟩]) ⟨115, 4, 0, 1, false, false, 1, 1, 3, 0, 0⟩ (by exact rfl) own2 _ (by exact rfl) (by exact rfl) (by simp only [List.length_append, List.length_cons, List.length_nil]; omega) ?_; intro v3 w3 own3))
            have hfin : OwnR w w3 v3 (part3 3) := by rw [HL.out, rowsMem_2]; simpa [List.append_assoc] using own3
            go_roundw
            case rel => first | exact ⟨3, by omega, rfl, hfin⟩ | ((repeat apply Exists.intro); exact ⟨⟨3, by omega, rfl, hfin⟩, rfl⟩)
            case measure => simp [intOf]
          · generalize part3 3 = L at hown hl HL
            go_wp2_with (first
        | (at_builtin; refine append_row rfl (.tmp 81) (.tmp 89) rfl w wr _ L ⟨121, 3, 0, 8, false, false, 2, 1, 3, 0, 0⟩ (by exact rfl) hown _ (by exact rfl) (by exact rfl) (by omega) ?_; intro v1 w1 own1)
        | (at_builtin; refine append_row rfl (.tmp 91) (.tmp 99) rfl w w1 _ (L ++ [⟨121, 3, 0, 8, false, false, 2, 1, 3, 0, 0⟩]) ⟨122, 5, 0, 8, false, false, 1, 0, 3, 3, 0⟩ (by exact rfl) own1 _ (by exact rfl) (by exact rfl) (by simp only [List.length_append, List.length_cons, List.length_nil]; omega) ?_; intro v2 w2 own2)
        | (at_builtin; refine append_row rfl (.tmp 101) (.tmp 109) rfl w w2 _ ((L ++ [⟨121, 3, 0, 8, false, false, 2, 1, 3, 0, 0⟩]) ++ [⟨122, 5, 0, 8, false, false, 1, 0, 3, 3, 0⟩]) ⟨123, 4, 0, 8, false, false, 1, 1, 3, 0, 0⟩ (by exact rfl) own2 _ (by exact rfl) (by exact rfl) (by simp only [List.length_append, List.length_cons, List.length_nil]; omega) ?_; intro v3 w3 own3))
            have hfin : OwnR w w3 v3 (part3 4) := by rw [HL.out, rowsMem_3]; simpa [List.append_assoc] using own3
            go_roundw
            case rel => first | exact ⟨4, by omega, rfl, hfin⟩ | ((repeat apply Exists.intro); exact ⟨⟨4, by omega, rfl, hfin⟩, rfl⟩)
            case measure => simp [intOf]
          clear HL hl hk
          rw [← part4_0] at hown
          go_wp2
          obtain ⟨wo3, rfl⟩ : ∃ wo : World, wo = wr := ⟨_, rfl⟩
          go_loopw [1, 7] (fun l o wr => ∃ k : Nat, 1 ≤ k ∧ k ≤ 14 ∧ o = .int .i64 k ∧ OwnR w wr l (part4 (k - 1))) (fun _ o _ => 14 - (intOf o).toNat)
          case atStart => exact ⟨1, by omega, by omega, rfl, hown⟩
          case round =>
            clear hown
            obtain ⟨k, hk0, hk, rfl, hown⟩ := hrel
            have hl := len_of lens_4 (k := k - 1) (by omega)
            have HL := hid (part4_at hk0)
            by_cases h8 : k = 8
            · subst h8
              rw [show 8 - 1 = 7 from rfl] at hown hl
              go_wp2
              go_roundw
              case rel => exact ⟨9, by omega, by omega, rfl, by rw [show 9 - 1 = 8 from rfl, HL.out, rowsJmp_8, List.append_nil]; exact hown⟩
              case measure => simp [intOf]
            by_cases h9 : k = 9
            · subst h9
              rw [show 9 - 1 = 8 from rfl] at hown hl
              go_wp2
              go_roundw
              case rel => exact ⟨10, by omega, by omega, rfl, by rw [show 10 - 1 = 9 from rfl, HL.out, rowsJmp_9, List.append_nil]; exact hown⟩
              case measure => simp [intOf]
            by_cases hlt : k < 14
            · generalize part4 (k - 1) = L at hown hl HL
              have HR := hid (rowsJmp_ne h8 h9)
              have e8 : ((k : Int) == 8) = false := by simp; omega
              have e9 : ((k : Int) == 9) = false := by simp; omega
              have hle : decide ((k : Int) ≤ 13) = true := by simp; omega
              clear h8 h9
              go_wp2_with (first
        | (at_builtin; refine append_row rfl (.tmp 121) (.tmp 129) rfl w wr _ L ⟨16 * (k : Int) + 5, 6, k, 0, true, false, 1, 0, 3, 3, 0⟩ (by exact rfl) hown _ (by exact rfl) (by exact rfl) (by omega) ?_; intro v1 w1 own1)
        | (at_builtin; refine append_row rfl (.tmp 131) (.tmp 139) rfl w w1 _ (L ++ [⟨16 * (k : Int) + 5, 6, k, 0, true, false, 1, 0, 3, 3, 0⟩]) ⟨16 * (k : Int) + 6, 6, k, 0, false, false, 1, 0, 3, 3, 0⟩ (by exact rfl) own1 _ (by exact rfl) (by exact rfl) (by simp only [List.length_append, List.length_cons, List.length_nil]; omega) ?_; intro v2 w2 own2)
        | (at_builtin; refine append_row rfl (.tmp 141) (.tmp 149) rfl w w2 _ ((L ++ [⟨16 * (k : Int) + 5, 6, k, 0, true, false, 1, 0, 3, 3, 0⟩]) ++ [⟨16 * (k : Int) + 6, 6, k, 0, false, false, 1, 0, 3, 3, 0⟩]) ⟨16 * (k : Int) + 13, 6, k, 0, true, true, 1, 1, 3, 0, 0⟩ (by exact rfl) own2 _ (by exact rfl) (by exact rfl) (by simp only [List.length_append, List.length_cons, List.length_nil]; omega) ?_; intro v3 w3 own3)
        | (at_builtin; refine append_row rfl (.tmp 151) (.tmp 159) rfl w w3 _ (((L ++ [⟨16 * (k : Int) + 5, 6, k, 0, true, false, 1, 0, 3, 3, 0⟩]) ++ [⟨16 * (k : Int) + 6, 6, k, 0, false, false, 1, 0, 3, 3, 0⟩]) ++ [⟨16 * (k : Int) + 13, 6, k, 0, true, true, 1, 1, 3, 0, 0⟩]) ⟨16 * (k : Int) + 14, 6, k, 0, false, true, 1, 1, 3, 0, 0⟩ (by exact rfl) own3 _ (by exact rfl) (by exact rfl) (by simp only [List.length_append, List.length_cons, List.length_nil]; omega) ?_; intro v4 w4 own4))
              have hfin : OwnR w w4 v4 (part4 (k + 1 - 1)) := by rw [Nat.add_sub_cancel, HL.out, HR.out]; simpa [List.append_assoc] using own4
              go_roundw
              case rel => first | exact ⟨k + 1, by omega, by omega, by go_num, hfin⟩ | ((repeat apply Exists.intro); exact ⟨⟨k + 1, by omega, by omega, by go_num, hfin⟩, rfl⟩)
              case measure => simp [intOf]; omega
            obtain rfl : k = 14 := by omega
            clear h8 h9 hlt HL hk hk0
            rw [show 14 - 1 = 13 from rfl] at hown hl
            generalize hL : part4 13 = L at hown hl
            have HL := hid hL
            clear hL
            go_wp2_with (first
        | (at_builtin; refine append_row rfl (.tmp 161) (.tmp 164) rfl w wr _ L ⟨5, 7, 0, 0, false, false, 0, 0, 3, 0, 0⟩ (by exact rfl) hown _ (by exact rfl) (by exact rfl) (by omega) ?_; intro v1 w1 own1)
        | (at_builtin; refine append_row rfl (.tmp 166) (.tmp 169) rfl w w1 _ (L ++ [⟨5, 7, 0, 0, false, false, 0, 0, 3, 0, 0⟩]) ⟨133, 8, 0, 0, false, false, 0, 0, 0, 3, 0⟩ (by exact rfl) own1 _ (by exact rfl) (by exact rfl) (by simp only [List.length_append, List.length_cons, List.length_nil]; omega) ?_; intro v2 w2 own2)
        | (at_builtin; refine append_row rfl (.tmp 171) (.tmp 174) rfl w w2 _ ((L ++ [⟨5, 7, 0, 0, false, false, 0, 0, 3, 0, 0⟩]) ++ [⟨133, 8, 0, 0, false, false, 0, 0, 0, 3, 0⟩]) ⟨149, 9, 0, 0, false, false, 0, 0, 0, 0, 0⟩ (by exact rfl) own2 _ (by exact rfl) (by exact rfl) (by simp only [List.length_append, List.length_cons, List.length_nil]; omega) ?_; intro v3 w3 own3)
        | (at_builtin; refine append_row rfl (.tmp 176) (.tmp 179) rfl w w3 _ (((L ++ [⟨5, 7, 0, 0, false, false, 0, 0, 3, 0, 0⟩]) ++ [⟨133, 8, 0, 0, false, false, 0, 0, 0, 3, 0⟩]) ++ [⟨149, 9, 0, 0, false, false, 0, 0, 0, 0, 0⟩]) ⟨24, 10, 0, 0, false, false, 2, 4, 0, 3, 0⟩ (by exact rfl) own3 _ (by exact rfl) (by exact rfl) (by simp only [List.length_append, List.length_cons, List.length_nil]; omega) ?_; intro v4 w4 own4)
        | (at_builtin; refine append_row rfl (.tmp 181) (.tmp 184) rfl w w4 _ ((((L ++ [⟨5, 7, 0, 0, false, false, 0, 0, 3, 0, 0⟩]) ++ [⟨133, 8, 0, 0, false, false, 0, 0, 0, 3, 0⟩]) ++ [⟨149, 9, 0, 0, false, false, 0, 0, 0, 0, 0⟩]) ++ [⟨24, 10, 0, 0, false, false, 2, 4, 0, 3, 0⟩]) ⟨24, 11, 0, 0, false, false, 2, 4, 0, 3, 1⟩ (by exact rfl) own4 _ (by exact rfl) (by exact rfl) (by simp only [List.length_append, List.length_cons, List.length_nil]; omega) ?_; intro v5 w5 own5))
            go_ret
            exact ⟨_, rfl, by unfold rowsI; rw [HL.out]; simpa [rowsEnd, List.append_assoc] using own5⟩
end Go.Proofs.YtdnkikgfiganaaaDoor

