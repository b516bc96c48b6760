/-
  A row appended to a list of rows of the call's own. The contract of the document's own Rows. The contract of the document's own Find.
-/
import Derived.Test.YtodmikjpmcabiabDoorDInsnB
import Derived.Test.YtodmikjpmcabiabDoorDPlc
import Derived.Laws.AppendOwn
import Derived.OwnWalk
namespace Go.Proofs.YtodmikjpmcabiabDoor
set_option linter.unusedSimpArgs false
set_option linter.unusedVariables false
set_option maxRecDepth 100000
open Go.ChangeShapes Go.WideShapes Go.ChangeAt Go.RowKit

/-- The slice 'v' is a list of the call's own that holds just these rows. -/
def OwnR (w0 w : World) (v : Value) (L : List RR) : Prop := w.ownsRow w0.heap.size 89 11 v L.length (L.flatMap rrCells) ∧ Below w0.heap.size w0 w
theorem OwnR.nil (w0 : World) : OwnR w0 w0 (.slice none 0 0) [] := ⟨World.ownsRow_nil _ _ _ _, Below.refl _ _⟩
theorem rowInfo : (Tryd.prog.info? 89).map (fun i => ((i.zero.map fun z => z.cells.size), i.size, i.bytes)) = some (some 11, 11, 80) := by kernel_rfl
theorem rr_one (r : RR) : ∀ u ∈ rrCells r, u.oneCell' = true := by
  intro u hu
  simp only [rrCells, List.mem_cons, List.not_mem_nil, or_false] at hu
  rcases hu with rfl | rfl | rfl | rfl | rfl | rfl | rfl | rfl | rfl | rfl | rfl <;> rfl
theorem append_row {ops : Array Oper} {rest : List Oper} {o : Oper} {a : Act} {Q : Exit → Act → World → Prop} (hgd : o.guard = none) (s x : Operand)
    (ho : o.op = .call { callee := .builtin .append, args := #[s, x], argTypes := #[114, 114] })
    (w0 w : World) (v : Value) (L : List RR) (r : RR) (hs : a.eval s = v) (hown : OwnR w0 w v L) (wm : World) (hx : a.eval x = .slice (some ⟨w.heap.size, 0, none⟩) 1 1)
    (hw : wm = w.alloc (.cells (rrCells r).toArray 89)) (hlen : L.length < 1000)
    (h : ∀ v' w', OwnR w0 w' v' (L ++ [r]) → wpList Tryd.prog ops Q rest (a.put o.dst v') w') : wpList Tryd.prog ops Q (o :: rest) a wm := by
  subst hw
  obtain ⟨i, hi, hp⟩ := Option.map_eq_some_iff.1 rowInfo
  injection hp with hp1 hp
  injection hp with hp2 hp3
  obtain ⟨z, hz, hzc⟩ := Option.map_eq_some_iff.1 hp1
  obtain ⟨ho1, hb⟩ := hown
  refine wpList_append_own _ hgd s x 114 ho w0.heap.size 89 i z 11 80 Tryd.underlying114 hi hz hp2 hp3 hzc (by decide) v L.length (L.flatMap rrCells) hs (ho1.alloc _)
    ⟨w.heap.size, 0, none⟩ 1 1 (rrCells r) hx rfl ?_ (rr_one r) (by simp only [maxLen]; omega) (by omega) ?_ ?_
  · intro j u hu
    have hj : (((w.alloc (.cells (rrCells r).toArray 89)).cell? ⟨w.heap.size, j, none⟩) = (rrCells r).toArray[j]?) := by
      rw [World.cell?_alloc_at _ _ _ _ rfl]
    have : ((⟨w.heap.size, 0, none⟩ : Addr).add j) = ⟨w.heap.size, j, none⟩ := by simp [Addr.add]; omega
    rw [this, hj]
    simpa using hu
  · have := hb.size
    simp
    omega
  · intro v' w' h1 h2 _
    refine h v' w' ⟨?_, ?_⟩
    · rw [List.length_append, List.flatMap_append]
      simpa using h1
    · refine (hb.alloc hb.size _).grown h2 (by have := hb.size; simp; omega) ?_
      intro k hk
      exact (ho1.lt k hk).1
theorem part1_succ (k : Nat) : part1 (k + 1) = part1 k ++ rowsAlu k := by unfold part1; simp [List.range_succ]
theorem part2_succ (k : Nat) : part2 (k + 1) = part2 k ++ rowsSwap k := by unfold part2; simp [List.range_succ, List.append_assoc]
theorem part3_succ (k : Nat) : part3 (k + 1) = part3 k ++ rowsMem k := by unfold part3; simp [List.range_succ, List.append_assoc]
theorem part4_succ (k : Nat) : part4 (k + 1) = part4 k ++ rowsJmp (k + 1) := by unfold part4; simp [List.range_succ, List.append_assoc]
theorem lens_1 : ((List.range 14).all fun k => decide ((part1 k).length < 900)) = true := by kernel_rfl
theorem lens_2 : ((List.range 4).all fun k => decide ((part2 k).length < 900)) = true := by kernel_rfl
theorem lens_3 : ((List.range 5).all fun k => decide ((part3 k).length < 900)) = true := by kernel_rfl
theorem lens_4 : ((List.range 14).all fun k => decide ((part4 k).length < 900)) = true := by kernel_rfl
theorem len_of {n k : Nat} {f : Nat → List RR} (h : ((List.range n).all fun k => decide ((f k).length < 900)) = true) (hk : k < n) : (f k).length < 900 := by
  rw [List.all_eq_true] at h
  simpa using h k (List.mem_range.2 hk)
end Go.Proofs.YtodmikjpmcabiabDoor

namespace Go.Proofs.YtodmikjpmcabiabDoor
set_option linter.unusedSimpArgs false
set_option linter.unusedVariables false
set_option maxRecDepth 100000
open Go.ChangeShapes Go.WideShapes Go.ChangeAt Go.RowKit

theorem rowsAlu_ne {k : Nat} (h : k ≠ 8) : rowsAlu k = [⟨16 * (k : Int) + 4, 1, k, 0, false, false, 2, 0, 0, 3, 0⟩, ⟨16 * (k : Int) + 7, 1, k, 0, true, false, 2, 0, 0, 3, 0⟩, ⟨16 * (k : Int) + 12, 1, k, 0, false, true, 2, 1, 0, 0, 0⟩, ⟨16 * (k : Int) + 15, 1, k, 0, true, true, 2, 1, 0, 0, 0⟩] := by
  unfold rowsAlu
  simp [h]
theorem rowsAlu_8 : rowsAlu 8 = [⟨132, 1, 8, 0, false, false, 2, 0, 0, 0, 0⟩, ⟨135, 1, 8, 0, true, false, 2, 0, 0, 0, 0⟩] := rfl
theorem rowsSwap_0 : rowsSwap 0 = [⟨215, 2, 0, 2, false, false, 2, 0, 0, 4, 16⟩] := rfl
theorem rowsSwap_1 : rowsSwap 1 = [⟨215, 2, 0, 4, false, false, 2, 0, 0, 4, 32⟩] := rfl
theorem rowsSwap_2 : rowsSwap 2 = [⟨215, 2, 0, 8, false, false, 2, 0, 0, 4, 64⟩] := rfl
theorem rowsMem_0 : rowsMem 0 = [⟨97, 3, 0, 4, false, false, 2, 1, 3, 0, 0⟩, ⟨98, 5, 0, 4, false, false, 1, 0, 3, 3, 0⟩, ⟨99, 4, 0, 4, false, false, 1, 1, 3, 0, 0⟩] := rfl
theorem rowsMem_1 : rowsMem 1 = [⟨105, 3, 0, 2, false, false, 2, 1, 3, 0, 0⟩, ⟨106, 5, 0, 2, false, false, 1, 0, 3, 3, 0⟩, ⟨107, 4, 0, 2, false, false, 1, 1, 3, 0, 0⟩] := rfl
theorem rowsMem_2 : rowsMem 2 = [⟨113, 3, 0, 1, false, false, 2, 1, 3, 0, 0⟩, ⟨114, 5, 0, 1, false, false, 1, 0, 3, 3, 0⟩, ⟨115, 4, 0, 1, false, false, 1, 1, 3, 0, 0⟩] := rfl
theorem rowsMem_3 : rowsMem 3 = [⟨121, 3, 0, 8, false, false, 2, 1, 3, 0, 0⟩, ⟨122, 5, 0, 8, false, false, 1, 0, 3, 3, 0⟩, ⟨123, 4, 0, 8, false, false, 1, 1, 3, 0, 0⟩] := rfl
theorem part2_0 : part2 0 = part1 13 := by unfold part2; simp
theorem part3_0 : part3 0 = part2 3 := by unfold part3; simp
theorem part4_0 : part4 0 = part3 4 := by unfold part4; simp
theorem part4_at {k : Nat} (h : 1 ≤ k) : part4 k = part4 (k - 1) ++ rowsJmp k := by
  obtain ⟨j, rfl⟩ : ∃ j, k = j + 1 := ⟨k - 1, by omega⟩
  rw [Nat.add_sub_cancel]
  exact part4_succ j
theorem rowsJmp_8 : rowsJmp 8 = [] := rfl
theorem rowsJmp_9 : rowsJmp 9 = [] := rfl
def szv (j : Nat) : Int := if j = 0 then 2 else if j = 1 then 4 else if j = 2 then 8 else 16
/-- The list so far, and the world behind. -/
def Done (w : World) (L : List RR) (e : Ending) (w' : World) : Prop := ∃ v, e = .returned v ∧ OwnR w w' v L
theorem rowsJmp_ne {k : Nat} (h : k ≠ 8) (h' : k ≠ 9) : rowsJmp k = [⟨16 * (k : Int) + 5, 6, k, 0, true, false, 1, 0, 3, 3, 0⟩, ⟨16 * (k : Int) + 6, 6, k, 0, false, false, 1, 0, 3, 3, 0⟩, ⟨16 * (k : Int) + 13, 6, k, 0, true, true, 1, 1, 3, 0, 0⟩, ⟨16 * (k : Int) + 14, 6, k, 0, false, true, 1, 1, 3, 0, 0⟩] := by
  unfold rowsJmp
  rw [if_neg (by omega)]

set_option maxRecDepth 100000 in
set_option maxHeartbeats 4000000 in
theorem rows_any (w : World) : Calls Tryd.prog 70 #[] w (Done w rowsI) := by
  have hn := OwnR.nil w
  go_enter Tryd.func70, Tryd.ntmps70
  go_wp2
  go_loopw [1, 2] (fun l o wr => ∃ k : Nat, k ≤ 13 ∧ o = .int .i64 k ∧ OwnR w wr l (part1 k)) (fun _ o _ => 13 - (intOf o).toNat)
  case atStart => exact ⟨0, by omega, rfl, hn⟩
  case round =>
    obtain ⟨k, hk, rfl, hown⟩ := hrel
    clear hn
    by_cases h8 : k = 8
    · subst h8
      have hl := len_of lens_1 (k := 8) (by omega)
      generalize hL : part1 8 = L at hown hl
      have HL := hid hL
      clear hL
      go_wp2_with (first
        | (at_builtin; refine append_row rfl (.tmp 14) (.tmp 23) rfl w wr _ L ⟨132, 1, 8, 0, false, false, 2, 0, 0, 0, 0⟩ (by exact rfl) hown _ (by exact rfl) (by exact rfl) (by omega) ?_; intro v1 w1 own1)
        | (at_builtin; refine append_row rfl (.tmp 25) (.tmp 34) rfl w w1 _ (L ++ [⟨132, 1, 8, 0, false, false, 2, 0, 0, 0, 0⟩]) ⟨135, 1, 8, 0, true, false, 2, 0, 0, 0, 0⟩ (by exact rfl) own1 _ (by exact rfl) (by exact rfl) (by simp only [List.length_append, List.length_cons, List.length_nil]; omega) ?_; intro v2 w2 own2))
      go_roundw
      case rel => exact ⟨9, by omega, rfl, by rw [show (9 : Nat) = 8 + 1 from rfl, part1_succ, HL.out, rowsAlu_8]; simpa [List.append_assoc] using own2⟩
      case measure => simp [intOf]
    by_cases hlt : k < 13
    · have hl := len_of lens_1 (k := k) (by omega)
      have HL := hid (part1_succ k)
      generalize part1 k = L at hown hl HL
      have HR := hid (rowsAlu_ne h8)
      have e8 : ((k : Int) == 8) = false := by simp; omega
      have n8 : ((k : Int) != 8) = true := by simp; omega
      have hle : decide ((k : Int) ≤ 12) = true := by simp; omega
      clear h8
      go_wp2_with (first
        | (at_builtin; refine append_row rfl (.tmp 14) (.tmp 23) rfl w wr _ L ⟨16 * (k : Int) + 4, 1, k, 0, false, false, 2, 0, 0, 3, 0⟩ (by exact rfl) hown _ (by exact rfl) (by exact rfl) (by omega) ?_; intro v1 w1 own1)
        | (at_builtin; refine append_row rfl (.tmp 25) (.tmp 34) rfl w w1 _ (L ++ [⟨16 * (k : Int) + 4, 1, k, 0, false, false, 2, 0, 0, 3, 0⟩]) ⟨16 * (k : Int) + 7, 1, k, 0, true, false, 2, 0, 0, 3, 0⟩ (by exact rfl) own1 _ (by exact rfl) (by exact rfl) (by simp only [List.length_append, List.length_cons, List.length_nil]; omega) ?_; intro v2 w2 own2)
        | (at_builtin; refine append_row rfl (.tmp 38) (.tmp 46) rfl w w2 _ ((L ++ [⟨16 * (k : Int) + 4, 1, k, 0, false, false, 2, 0, 0, 3, 0⟩]) ++ [⟨16 * (k : Int) + 7, 1, k, 0, true, false, 2, 0, 0, 3, 0⟩]) ⟨16 * (k : Int) + 12, 1, k, 0, false, true, 2, 1, 0, 0, 0⟩ (by exact rfl) own2 _ (by exact rfl) (by exact rfl) (by simp only [List.length_append, List.length_cons, List.length_nil]; omega) ?_; intro v3 w3 own3)
        | (at_builtin; refine append_row rfl (.tmp 48) (.tmp 56) rfl w w3 _ (((L ++ [⟨16 * (k : Int) + 4, 1, k, 0, false, false, 2, 0, 0, 3, 0⟩]) ++ [⟨16 * (k : Int) + 7, 1, k, 0, true, false, 2, 0, 0, 3, 0⟩]) ++ [⟨16 * (k : Int) + 12, 1, k, 0, false, true, 2, 1, 0, 0, 0⟩]) ⟨16 * (k : Int) + 15, 1, k, 0, true, true, 2, 1, 0, 0, 0⟩ (by exact rfl) own3 _ (by exact rfl) (by exact rfl) (by simp only [List.length_append, List.length_cons, List.length_nil]; omega) ?_; intro v4 w4 own4))
      go_roundw
      case rel => exact ⟨k + 1, by omega, by go_num, by rw [HL.out, HR.out]; simpa [List.append_assoc] using own4⟩
      case measure => simp [intOf]; omega
    · obtain rfl : k = 13 := by omega
      clear h8 hlt
      rw [← part2_0] at hown
      go_wp2
      obtain ⟨wo, rfl⟩ : ∃ wo : World, wo = wr := ⟨_, rfl⟩
      go_loopw [1, 4] (fun l o wr => ∃ k : Nat, k ≤ 3 ∧ o = .int .i64 (szv k) ∧ OwnR w wr l (part2 k)) (fun _ o _ => (16 - intOf o).toNat)
      case atStart => exact ⟨0, by omega, rfl, hown⟩
      case round =>
        clear hown
        obtain ⟨k, hk, rfl, hown⟩ := hrel
        have hl := len_of lens_2 (k := k) (by omega)
        have HL := hid (part2_succ k)
        have hk4 : k = 0 ∨ k = 1 ∨ k = 2 ∨ k = 3 := by omega
        rcases hk4 with rfl | rfl | rfl | rfl
        · generalize part2 0 = L at hown hl HL
          rw [show szv 0 = 2 from rfl]
          go_wp2_with (first
        | (at_builtin; refine append_row rfl (.tmp 62) (.tmp 68) rfl w wr _ L ⟨215, 2, 0, 2, false, false, 2, 0, 0, 4, 16⟩ (by exact rfl) hown _ (by exact rfl) (by exact rfl) (by omega) ?_; intro v1 w1 own1))
          have hfin : OwnR w w1 v1 (part2 1) := by rw [HL.out, rowsSwap_0]; exact own1
          go_roundw
          case rel => first | exact ⟨1, by omega, rfl, hfin⟩ | ((repeat apply Exists.intro); exact ⟨⟨1, by omega, rfl, hfin⟩, rfl⟩)
          case measure => simp [intOf]
        · generalize part2 1 = L at hown hl HL
          rw [show szv 1 = 4 from rfl]
          go_wp2_with (first
        | (at_builtin; refine append_row rfl (.tmp 62) (.tmp 68) rfl w wr _ L ⟨215, 2, 0, 4, false, false, 2, 0, 0, 4, 32⟩ (by exact rfl) hown _ (by exact rfl) (by exact rfl) (by omega) ?_; intro v1 w1 own1))
          have hfin : OwnR w w1 v1 (part2 2) := by rw [HL.out, rowsSwap_1]; exact own1
          go_roundw
          case rel => first | exact ⟨2, by omega, rfl, hfin⟩ | ((repeat apply Exists.intro); exact ⟨⟨2, by omega, rfl, hfin⟩, rfl⟩)
          case measure => simp [intOf]
        · generalize part2 2 = L at hown hl HL
          rw [show szv 2 = 8 from rfl]
          go_wp2_with (first
        | (at_builtin; refine append_row rfl (.tmp 62) (.tmp 68) rfl w wr _ L ⟨215, 2, 0, 8, false, false, 2, 0, 0, 4, 64⟩ (by exact rfl) hown _ (by exact rfl) (by exact rfl) (by omega) ?_; intro v1 w1 own1))
          have hfin : OwnR w w1 v1 (part2 3) := by rw [HL.out, rowsSwap_2]; exact own1
          go_roundw
          case rel => first | exact ⟨3, by omega, rfl, hfin⟩ | ((repeat apply Exists.intro); exact ⟨⟨3, by omega, rfl, hfin⟩, rfl⟩)
          case measure => simp [intOf]
        rw [show szv 3 = 16 from rfl]
        clear HL hl hk
        rw [← part3_0] at hown
        go_wp2
        obtain ⟨wo2, rfl⟩ : ∃ wo : World, wo = wr := ⟨_, rfl⟩
        go_loopw [1, 5] (fun l o wr => ∃ k : Nat, k ≤ 4 ∧ o = .int .i64 k ∧ OwnR w wr l (part3 k)) (fun _ o _ => 4 - (intOf o).toNat)
        case atStart => exact ⟨0, by omega, rfl, hown⟩
        case round =>
          clear hown
          obtain ⟨k, hk, rfl, hown⟩ := hrel
          have hl := len_of lens_3 (k := k) (by omega)
          have HL := hid (part3_succ k)
          have hk4 : k = 0 ∨ k = 1 ∨ k = 2 ∨ k = 3 ∨ k = 4 := by omega
          rcases hk4 with rfl | rfl | rfl | rfl | rfl
          · generalize part3 0 = L at hown hl HL
            go_wp2_with (first
        | (at_builtin; refine append_row rfl (.tmp 81) (.tmp 89) rfl w wr _ L ⟨97, 3, 0, 4, false, false, 2, 1, 3, 0, 0⟩ (by exact rfl) hown _ (by exact rfl) (by exact rfl) (by omega) ?_; intro v1 w1 own1)
        | (at_builtin; refine append_row rfl (.tmp 91) (.tmp 99) rfl w w1 _ (L ++ [⟨97, 3, 0, 4, false, false, 2, 1, 3, 0, 0⟩]) ⟨98, 5, 0, 4, false, false, 1, 0, 3, 3, 0⟩ (by exact rfl) own1 _ (by exact rfl) (by exact rfl) (by simp only [List.length_append, List.length_cons, List.length_nil]; omega) ?_; intro v2 w2 own2)
        | (at_builtin; refine append_row rfl (.tmp 101) (.tmp 109) rfl w w2 _ ((L ++ [⟨97, 3, 0, 4, false, false, 2, 1, 3, 0, 0⟩]) ++ [⟨98, 5, 0, 4, false, false, 1, 0, 3, 3, 0⟩]) ⟨99, 4, 0, 4, false, false, 1, 1, 3, 0, 0⟩ (by exact rfl) own2 _ (by exact rfl) (by exact rfl) (by simp only [List.length_append, List.length_cons, List.length_nil]; omega) ?_; intro v3 w3 own3))
            have hfin : OwnR w w3 v3 (part3 1) := by rw [HL.out, rowsMem_0]; simpa [List.append_assoc] using own3
            go_roundw
            case rel => first | exact ⟨1, by omega, rfl, hfin⟩ | ((repeat apply Exists.intro); exact ⟨⟨1, by omega, rfl, hfin⟩, rfl⟩)
            case measure => simp [intOf]
          · generalize part3 1 = L at hown hl HL
            go_wp2_with (first
        | (at_builtin; refine append_row rfl (.tmp 81) (.tmp 89) rfl w wr _ L ⟨105, 3, 0, 2, false, false, 2, 1, 3, 0, 0⟩ (by exact rfl) hown _ (by exact rfl) (by exact rfl) (by omega) ?_; intro v1 w1 own1)
        | (at_builtin; refine append_row rfl (.tmp 91) (.tmp 99) rfl w w1 _ (L ++ [⟨105, 3, 0, 2, false, false, 2, 1, 3, 0, 0⟩]) ⟨106, 5, 0, 2, false, false, 1, 0, 3, 3, 0⟩ (by exact rfl) own1 _ (by exact rfl) (by exact rfl) (by simp only [List.length_append, List.length_cons, List.length_nil]; omega) ?_; intro v2 w2 own2)
        | (at_builtin; refine append_row rfl (.tmp 101) (.tmp 109) rfl w w2 _ ((L ++ [⟨105, 3, 0, 2, false, false, 2, 1, 3, 0, 0⟩]) ++ [⟨106, 5, 0, 2, false, false, 1, 0, 3, 3, 0⟩]) ⟨107, 4, 0, 2, false, false, 1, 1, 3, 0, 0⟩ (by exact rfl) own2 _ (by exact rfl) (by exact rfl) (by simp only [List.length_append, List.length_cons, List.length_nil]; omega) ?_; intro v3 w3 own3))
            have hfin : OwnR w w3 v3 (part3 2) := by rw [HL.out, rowsMem_1]; simpa [List.append_assoc] using own3
            go_roundw
            case rel => first | exact ⟨2, by omega, rfl, hfin⟩ | ((repeat apply Exists.intro); exact ⟨⟨2, by omega, rfl, hfin⟩, rfl⟩)
            case measure => simp [intOf]
          · generalize part3 2 = L at hown hl HL
            go_wp2_with (first
        | (at_builtin; refine append_row rfl (.tmp 81) (.tmp 89) rfl w wr _ L ⟨113, 3, 0, 1, false, false, 2, 1, 3, 0, 0⟩ (by exact rfl) hown _ (by exact rfl) (by exact rfl) (by omega) ?_; intro v1 w1 own1)
        | (at_builtin; refine append_row rfl (.tmp 91) (.tmp 99) rfl w w1 _ (L ++ [⟨113, 3, 0, 1, false, false, 2, 1, 3, 0, 0⟩]) ⟨114, 5, 0, 1, false, false, 1, 0, 3, 3, 0⟩ (by exact rfl) own1 _ (by exact rfl) (by exact rfl) (by simp only [List.length_append, List.length_cons, List.length_nil]; omega) ?_; intro v2 w2 own2)
        | (at_builtin; refine append_row rfl (.tmp 101) (.tmp 109) rfl w w2 _ ((L ++ [⟨113, 3, 0, 1, false, false, 2, 1, 3, 0, 0⟩]) ++ [⟨114, 5, 0, 1, false, false, 1, 0, 3, 3, 0⟩]) ⟨115, 4, 0, 1, false, false, 1, 1, 3, 0, 0⟩ (by exact rfl) own2 _ (by exact rfl) (by exact rfl) (by simp only [List.length_append, List.length_cons, List.length_nil]; omega) ?_; intro v3 w3 own3))
            have hfin : OwnR w w3 v3 (part3 3) := by rw [HL.out, rowsMem_2]; simpa [List.append_assoc] using own3
            go_roundw
            case rel => first | exact ⟨3, by omega, rfl, hfin⟩ | ((repeat apply Exists.intro); exact ⟨⟨3, by omega, rfl, hfin⟩, rfl⟩)
            case measure => simp [intOf]
          · generalize part3 3 = L at hown hl HL
            go_wp2_with (first
        | (at_builtin; refine append_row rfl (.tmp 81) (.tmp 89) rfl w wr _ L ⟨121, 3, 0, 8, false, false, 2, 1, 3, 0, 0⟩ (by exact rfl) hown _ (by exact rfl) (by exact rfl) (by omega) ?_; intro v1 w1 own1)
        | (at_builtin; refine append_row rfl (.tmp 91) (.tmp 99) rfl w w1 _ (L ++ [⟨121, 3, 0, 8, false, false, 2, 1, 3, 0, 0⟩]) ⟨122, 5, 0, 8, false, false, 1, 0, 3, 3, 0⟩ (by exact rfl) own1 _ (by exact rfl) (by exact rfl) (by simp only [List.length_append, List.length_cons, List.length_nil]; omega) ?_; intro v2 w2 own2)
        | (at_builtin; refine append_row rfl (.tmp 101) (.tmp 109) rfl w w2 _ ((L ++ [⟨121, 3, 0, 8, false, false, 2, 1, 3, 0, 0⟩]) ++ [⟨122, 5, 0, 8, false, false, 1, 0, 3, 3, 0⟩]) ⟨123, 4, 0, 8, false, false, 1, 1, 3, 0, 0⟩ (by exact rfl) own2 _ (by exact rfl) (by exact rfl) (by simp only [List.length_append, List.length_cons, List.length_nil]; omega) ?_; intro v3 w3 own3))
            have hfin : OwnR w w3 v3 (part3 4) := by rw [HL.out, rowsMem_3]; simpa [List.append_assoc] using own3
            go_roundw
            case rel => first | exact ⟨4, by omega, rfl, hfin⟩ | ((repeat apply Exists.intro); exact ⟨⟨4, by omega, rfl, hfin⟩, rfl⟩)
            case measure => simp [intOf]
          clear HL hl hk
          rw [← part4_0] at hown
          go_wp2
          obtain ⟨wo3, rfl⟩ : ∃ wo : World, wo = wr := ⟨_, rfl⟩
          go_loopw [1, 7] (fun l o wr => ∃ k : Nat, 1 ≤ k ∧ k ≤ 14 ∧ o = .int .i64 k ∧ OwnR w wr l (part4 (k - 1))) (fun _ o _ => 14 - (intOf o).toNat)
          case atStart => exact ⟨1, by omega, by omega, rfl, hown⟩
          case round =>
            clear hown
            obtain ⟨k, hk0, hk, rfl, hown⟩ := hrel
            have hl := len_of lens_4 (k := k - 1) (by omega)
            have HL := hid (part4_at hk0)
            by_cases h8 : k = 8
            · subst h8
              rw [show 8 - 1 = 7 from rfl] at hown hl
              go_wp2
              go_roundw
              case rel => exact ⟨9, by omega, by omega, rfl, by rw [show 9 - 1 = 8 from rfl, HL.out, rowsJmp_8, List.append_nil]; exact hown⟩
              case measure => simp [intOf]
            by_cases h9 : k = 9
            · subst h9
              rw [show 9 - 1 = 8 from rfl] at hown hl
              go_wp2
              go_roundw
              case rel => exact ⟨10, by omega, by omega, rfl, by rw [show 10 - 1 = 9 from rfl, HL.out, rowsJmp_9, List.append_nil]; exact hown⟩
              case measure => simp [intOf]
            by_cases hlt : k < 14
            · generalize part4 (k - 1) = L at hown hl HL
              have HR := hid (rowsJmp_ne h8 h9)
              have e8 : ((k : Int) == 8) = false := by simp; omega
              have e9 : ((k : Int) == 9) = false := by simp; omega
              have hle : decide ((k : Int) ≤ 13) = true := by simp; omega
              clear h8 h9
              go_wp2_with (first
        | (at_builtin; refine append_row rfl (.tmp 121) (.tmp 129) rfl w wr _ L ⟨16 * (k : Int) + 5, 6, k, 0, true, false, 1, 0, 3, 3, 0⟩ (by exact rfl) hown _ (by exact rfl) (by exact rfl) (by omega) ?_; intro v1 w1 own1)
        | (at_builtin; refine append_row rfl (.tmp 131) (.tmp 139) rfl w w1 _ (L ++ [⟨16 * (k : Int) + 5, 6, k, 0, true, false, 1, 0, 3, 3, 0⟩]) ⟨16 * (k : Int) + 6, 6, k, 0, false, false, 1, 0, 3, 3, 0⟩ (by exact rfl) own1 _ (by exact rfl) (by exact rfl) (by simp only [List.length_append, List.length_cons, List.length_nil]; omega) ?_; intro v2 w2 own2)
        | (at_builtin; refine append_row rfl (.tmp 141) (.tmp 149) rfl w w2 _ ((L ++ [⟨16 * (k : Int) + 5, 6, k, 0, true, false, 1, 0, 3, 3, 0⟩]) ++ [⟨16 * (k : Int) + 6, 6, k, 0, false, false, 1, 0, 3, 3, 0⟩]) ⟨16 * (k : Int) + 13, 6, k, 0, true, true, 1, 1, 3, 0, 0⟩ (by exact rfl) own2 _ (by exact rfl) (by exact rfl) (by simp only [List.length_append, List.length_cons, List.length_nil]; omega) ?_; intro v3 w3 own3)
        | (at_builtin; refine append_row rfl (.tmp 151) (.tmp 159) rfl w w3 _ (((L ++ [⟨16 * (k : Int) + 5, 6, k, 0, true, false, 1, 0, 3, 3, 0⟩]) ++ [⟨16 * (k : Int) + 6, 6, k, 0, false, false, 1, 0, 3, 3, 0⟩]) ++ [⟨16 * (k : Int) + 13, 6, k, 0, true, true, 1, 1, 3, 0, 0⟩]) ⟨16 * (k : Int) + 14, 6, k, 0, false, true, 1, 1, 3, 0, 0⟩ (by exact rfl) own3 _ (by exact rfl) (by exact rfl) (by simp only [List.length_append, List.length_cons, List.length_nil]; omega) ?_; intro v4 w4 own4))
              have hfin : OwnR w w4 v4 (part4 (k + 1 - 1)) := by rw [Nat.add_sub_cancel, HL.out, HR.out]; simpa [List.append_assoc] using own4
              go_roundw
              case rel => first | exact ⟨k + 1, by omega, by omega, by go_num, hfin⟩ | ((repeat apply Exists.intro); exact ⟨⟨k + 1, by omega, by omega, by go_num, hfin⟩, rfl⟩)
              case measure => simp [intOf]; omega
            obtain rfl : k = 14 := by omega
            clear h8 h9 hlt HL hk hk0
            rw [show 14 - 1 = 13 from rfl] at hown hl
            generalize hL : part4 13 = L at hown hl
            have HL := hid hL
            clear hL
            go_wp2_with (first
        | (at_builtin; refine append_row rfl (.tmp 161) (.tmp 164) rfl w wr _ L ⟨5, 7, 0, 0, false, false, 0, 0, 3, 0, 0⟩ (by exact rfl) hown _ (by exact rfl) (by exact rfl) (by omega) ?_; intro v1 w1 own1)
        | (at_builtin; refine append_row rfl (.tmp 166) (.tmp 169) rfl w w1 _ (L ++ [⟨5, 7, 0, 0, false, false, 0, 0, 3, 0, 0⟩]) ⟨133, 8, 0, 0, false, false, 0, 0, 0, 3, 0⟩ (by exact rfl) own1 _ (by exact rfl) (by exact rfl) (by simp only [List.length_append, List.length_cons, List.length_nil]; omega) ?_; intro v2 w2 own2)
        | (at_builtin; refine append_row rfl (.tmp 171) (.tmp 174) rfl w w2 _ ((L ++ [⟨5, 7, 0, 0, false, false, 0, 0, 3, 0, 0⟩]) ++ [⟨133, 8, 0, 0, false, false, 0, 0, 0, 3, 0⟩]) ⟨149, 9, 0, 0, false, false, 0, 0, 0, 0, 0⟩ (by exact rfl) own2 _ (by exact rfl) (by exact rfl) (by simp only [List.length_append, List.length_cons, List.length_nil]; omega) ?_; intro v3 w3 own3)
        | (at_builtin; refine append_row rfl (.tmp 176) (.tmp 179) rfl w w3 _ (((L ++ [⟨5, 7, 0, 0, false, false, 0, 0, 3, 0, 0⟩]) ++ [⟨133, 8, 0, 0, false, false, 0, 0, 0, 3, 0⟩]) ++ [⟨149, 9, 0, 0, false, false, 0, 0, 0, 0, 0⟩]) ⟨24, 10, 0, 0, false, false, 2, 4, 0, 3, 0⟩ (by exact rfl) own3 _ (by exact rfl) (by exact rfl) (by simp only [List.length_append, List.length_cons, List.length_nil]; omega) ?_; intro v4 w4 own4)
        | (at_builtin; refine append_row rfl (.tmp 181) (.tmp 184) rfl w w4 _ ((((L ++ [⟨5, 7, 0, 0, false, false, 0, 0, 3, 0, 0⟩]) ++ [⟨133, 8, 0, 0, false, false, 0, 0, 0, 3, 0⟩]) ++ [⟨149, 9, 0, 0, false, false, 0, 0, 0, 0, 0⟩]) ++ [⟨24, 10, 0, 0, false, false, 2, 4, 0, 3, 0⟩]) ⟨24, 11, 0, 0, false, false, 2, 4, 0, 3, 1⟩ (by exact rfl) own4 _ (by exact rfl) (by exact rfl) (by simp only [List.length_append, List.length_cons, List.length_nil]; omega) ?_; intro v5 w5 own5))
            go_ret
            exact ⟨_, rfl, by unfold rowsI; rw [HL.out]; simpa [rowsEnd, List.append_assoc] using own5⟩
end Go.Proofs.YtodmikjpmcabiabDoor


namespace Go.Proofs.YtodmikjpmcabiabDoor
set_option linter.unusedSimpArgs false
set_option linter.unusedVariables false
set_option maxRecDepth 100000
open Go.ChangeShapes Go.WideShapes Go.ChangeAt Go.RowKit

def rrV (r : RR) : Value := .agg #[.int .u8 r.op, .int .i64 r.cls, .int .i64 r.o, .int .i64 r.size, .bool r.wide, .bool r.reg, .int .i64 r.dst, .int .i64 r.src, .int .i64 r.off, .int .i64 r.imm, .int .i64 r.at_]
def rrz : RR := ⟨0, 0, 0, 0, false, false, 0, 0, 0, 0, 0⟩
def fdR (o : Option RR) : RR := match o with | some r => r | none => rrz
theorem rowsI_len : rowsI.length = 114 := by kernel_rfl

/-- A row's cells lie where they should. -/
def RowAt (w : World) (g k : Nat) (r : RR) : Prop := ∀ j u, (rrCells r)[j]? = some u → w.cell? ⟨g, k * 11 + j, none⟩ = some u
theorem flat_get (L : List RR) (k : Nat) (r : RR) (hk : L[k]? = some r) (j : Nat) (hj : j < 11) : (L.flatMap rrCells)[k * 11 + j]? = (rrCells r)[j]? := by
  induction L generalizing k with
  | nil => simp at hk
  | cons a L ih =>
    rw [List.flatMap_cons]
    cases k with
    | zero =>
      simp at hk
      subst hk
      rw [List.getElem?_append_left (by show _ < 11; omega)]
      simp
    | succ k =>
      rw [List.getElem?_append_right (by show 11 ≤ _; omega)]
      have h : (k + 1) * 11 + j - (rrCells a).length = k * 11 + j := by show _ - 11 = _; omega
      rw [h]
      exact ih k (by simpa using hk)
theorem own_form {w0 w : World} {v : Value} (h : OwnR w0 w v rowsI) : ∃ g cap, v = .slice (some ⟨g, 0, none⟩) 114 cap ∧ w0.heap.size ≤ g ∧ g < w.heap.size ∧ ∀ k r, rowsI[k]? = some r → RowAt w g k r := by
  obtain ⟨h1, hb⟩ := h
  rcases h1.2 with ⟨_, hn⟩ | ⟨g, cap, cur, rfl, hg, hh, _⟩
  · rw [rowsI_len] at hn; cases hn
  · rw [rowsI_len] at h1 ⊢
    refine ⟨g, cap, rfl, hg, ?_, ?_⟩
    · exact (h1.lt g rfl).2
    · intro k r hk j u hu
      have hj : j < 11 := by
        have := (List.getElem?_eq_some_iff.1 hu).1
        exact this
      have hc := h1.cells (g := g) rfl (k * 11 + j) u (by rw [flat_get _ k r hk j hj]; exact hu)
      have e : ((⟨g, 0, none⟩ : Addr).add (k * 11 + j)) = ⟨g, k * 11 + j, none⟩ := by simp only [Addr.add]; split <;> simp_all
      rwa [e] at hc

theorem below_drewN_at {B : Nat} {a w : World} (h : Below B a w) (n : Nat) : Below B a (w.drewN n) := ⟨h.os, h.tape, h.output, h.size, h.block⟩

theorem find_next {p : RR → Bool} {k : Nat} {r : RR} {F : Option RR} (h : (rowsI.drop k).find? p = F) (hr : rowsI[k]? = some r) (hp : p r = false) : (rowsI.drop (k + 1)).find? p = F := by
  have hk : k < rowsI.length := (List.getElem?_eq_some_iff.1 hr).1
  have he : rowsI[k] = r := (List.getElem?_eq_some_iff.1 hr).2
  rw [List.drop_eq_getElem_cons hk, he, List.find?_cons, hp] at h
  exact h
theorem find_here {p : RR → Bool} {k : Nat} {r : RR} {F : Option RR} (h : (rowsI.drop k).find? p = F) (hr : rowsI[k]? = some r) (hp : p r = true) : F = some r := by
  have hk : k < rowsI.length := (List.getElem?_eq_some_iff.1 hr).1
  have he : rowsI[k] = r := (List.getElem?_eq_some_iff.1 hr).2
  rw [List.drop_eq_getElem_cons hk, he, List.find?_cons, hp] at h
  exact h.symm
theorem find_over {p : RR → Bool} {F : Option RR} (h : (rowsI.drop 114).find? p = F) : F = none := by
  rw [List.drop_of_length_le (by rw [rowsI_len]; omega)] at h
  exact h.symm
theorem RowAt.below {w w' : World} {g k : Nat} {r : RR} (h : RowAt w g k r) (hb : Below w.heap.size w w') (hg : g < w.heap.size) : RowAt w' g k r := fun j u hu => (hb.cell (p := ⟨g, k * 11 + j, none⟩) hg).trans (h j u hu)

set_option maxHeartbeats 4000000 in
theorem find_any (op dst src off imm : Int) (w : World) (s0 : 0 ≤ src) (s1 : src < 256) (m0 : -2147483648 ≤ imm) (m1 : imm < 2147483648) :
    Calls Tryd.prog 52 #[.agg #[.int .u8 op, .int .u8 dst, .int .u8 src, .int .i16 off, .int .i32 imm]] w fun e w' =>
      e = .returned (.tuple #[rrV (fdR (findI op src imm)), .bool (findI op src imm).isSome]) ∧ Below w.heap.size w w' := by
  have hst : (rowsI.drop 0).find? (hit op src imm) = findI op src imm := rfl
  generalize findI op src imm = F at hst ⊢
  have HST := hid hst
  clear hst
  go_enter Tryd.func52, Tryd.ntmps52
  go_wp2_with fail
  refine (rows_any _).mono ?_
  rintro e w1 ⟨v, rfl, hown⟩
  have b1 := hid hown.2
  obtain ⟨g, cap, rfl, hg1, hg2, hrow⟩ := own_form hown
  clear hown hg1
  obtain ⟨hc, hf⟩ := bcell b1.out
  have hb1 : Below w.heap.size w w1 := (((Below.refl _ _).alloc (Nat.le_refl _) _).alloc (by simp) _).trans (b1.out.mono (by simp; omega))
  have hz : w.heap.size + 1 < w1.heap.size := by have := b1.out.size; simp at this; omega
  have hz' : w.heap.size < w1.heap.size := by omega
  have co : w1.cell? ⟨w.heap.size, 0, none⟩ = some (.int .u8 op) := by rw [hc _ _ (by simp; omega)]; simp
  have cs : w1.cell? ⟨w.heap.size, 2, none⟩ = some (.int .u8 src) := by rw [hc _ _ (by simp; omega)]; simp
  have cm : w1.cell? ⟨w.heap.size, 4, none⟩ = some (.int .i32 imm) := by rw [hc _ _ (by simp; omega)]; simp
  have HR := hid hrow
  clear hc hf hrow
  go_wp2
  go_loopw [5] (fun i wr => ∃ k : Nat, k ≤ 114 ∧ i = .int .i64 k ∧ Hid ((rowsI.drop k).find? (hit op src imm) = F) ∧ Below w1.heap.size w1 wr) (fun i _ => 114 - (intOf i).toNat)
  case atStart => exact ⟨0, by omega, rfl, HST, Below.refl _ _⟩
  case round =>
    clear HST
    obtain ⟨k, hk, rfl, HST, hbr⟩ := hrel
    by_cases hlt : k < 114
    · have co' := (hbr.cell (p := ⟨w.heap.size, 0, none⟩) hz').trans co
      have cs' := (hbr.cell (p := ⟨w.heap.size, 2, none⟩) hz').trans cs
      have cm' := (hbr.cell (p := ⟨w.heap.size, 4, none⟩) hz').trans cm
      clear co cs cm
      obtain ⟨r, hr⟩ : ∃ r, rowsI[k]? = some r := ⟨rowsI[k]'(by rw [rowsI_len]; exact hlt), by simp⟩
      have HW := hid ((HR.out k r hr).below hbr hg2)
      have HK := hid hr
      clear hr HR
      have hli : (k : Int) < 114 := by omega
      have hl0 : 0 ≤ (k : Int) := by omega
      have r0 : wr.cell? ⟨g, k * 11, none⟩ = some (.int .u8 r.op) := HW.out 0 _ rfl
      have r3 : wr.cell? ⟨g, k * 11 + 7, none⟩ = some (.int .i64 r.src) := HW.out 7 _ rfl
      have r5 : wr.cell? ⟨g, k * 11 + 9, none⟩ = some (.int .i64 r.imm) := HW.out 9 _ rfl
      have r6 : wr.cell? ⟨g, k * 11 + 10, none⟩ = some (.int .i64 r.at_) := HW.out 10 _ rfl
      cases a : (r.op != op)
      · cases s : (r.src == 4)
        · cases m : (r.imm == 4)
          · have hh := hid (show hit op src imm r = true by unfold hit; rw [a, s, m]; rfl)
            have q1 : wr.cell? ⟨g, k * 11 + 1, none⟩ = some (.int .i64 r.cls) := HW.out 1 _ rfl
            have q2 : wr.cell? ⟨g, k * 11 + 2, none⟩ = some (.int .i64 r.o) := HW.out 2 _ rfl
            have q3 : wr.cell? ⟨g, k * 11 + 3, none⟩ = some (.int .i64 r.size) := HW.out 3 _ rfl
            have q4 : wr.cell? ⟨g, k * 11 + 4, none⟩ = some (.bool r.wide) := HW.out 4 _ rfl
            have q5 : wr.cell? ⟨g, k * 11 + 5, none⟩ = some (.bool r.reg) := HW.out 5 _ rfl
            have q6 : wr.cell? ⟨g, k * 11 + 6, none⟩ = some (.int .i64 r.dst) := HW.out 6 _ rfl
            have q8 : wr.cell? ⟨g, k * 11 + 8, none⟩ = some (.int .i64 r.off) := HW.out 8 _ rfl
            obtain rfl := find_here HST.out HK.out hh.out
            obtain ⟨hc, hf⟩ := bcell (b1.out.trans (hbr.mono b1.out.size))
            have hz2 : w.heap.size + 1 < wr.heap.size := by have := hbr.size; omega
            have hb2 := hb1.trans (hbr.mono (Nat.le_of_lt hz'))
            go_wp2
            go_quiet (fail)
            go_wp2
            exact bodyPost_ret (v := .tuple #[rrV r, .bool true]) (by simp [results, Tryd.results52, go_sem, hc, hz]; rfl) rfl ⟨rfl, ((((((((((((below_drewN_at hb2 _).setCell (by simp) _).setCell (by simp) _).setCell (by simp) _).setCell (by simp) _).setCell (by simp) _).setCell (by simp) _).setCell (by simp) _).setCell (by simp) _).setCell (by simp) _).setCell (by simp) _).setCell (by simp) _)⟩
          · cases c : (imm != r.at_)
            · have hh := hid (show hit op src imm r = true by unfold hit; rw [a, s, m, c]; rfl)
              have q1 : wr.cell? ⟨g, k * 11 + 1, none⟩ = some (.int .i64 r.cls) := HW.out 1 _ rfl
              have q2 : wr.cell? ⟨g, k * 11 + 2, none⟩ = some (.int .i64 r.o) := HW.out 2 _ rfl
              have q3 : wr.cell? ⟨g, k * 11 + 3, none⟩ = some (.int .i64 r.size) := HW.out 3 _ rfl
              have q4 : wr.cell? ⟨g, k * 11 + 4, none⟩ = some (.bool r.wide) := HW.out 4 _ rfl
              have q5 : wr.cell? ⟨g, k * 11 + 5, none⟩ = some (.bool r.reg) := HW.out 5 _ rfl
              have q6 : wr.cell? ⟨g, k * 11 + 6, none⟩ = some (.int .i64 r.dst) := HW.out 6 _ rfl
              have q8 : wr.cell? ⟨g, k * 11 + 8, none⟩ = some (.int .i64 r.off) := HW.out 8 _ rfl
              obtain rfl := find_here HST.out HK.out hh.out
              obtain ⟨hc, hf⟩ := bcell (b1.out.trans (hbr.mono b1.out.size))
              have hz2 : w.heap.size + 1 < wr.heap.size := by have := hbr.size; omega
              have hb2 := hb1.trans (hbr.mono (Nat.le_of_lt hz'))
              go_wp2
              go_quiet (fail)
              go_wp2
              exact bodyPost_ret (v := .tuple #[rrV r, .bool true]) (by simp [results, Tryd.results52, go_sem, hc, hz]; rfl) rfl ⟨rfl, ((((((((((((below_drewN_at hb2 _).setCell (by simp) _).setCell (by simp) _).setCell (by simp) _).setCell (by simp) _).setCell (by simp) _).setCell (by simp) _).setCell (by simp) _).setCell (by simp) _).setCell (by simp) _).setCell (by simp) _).setCell (by simp) _)⟩
            · have hh := hid (show hit op src imm r = false by unfold hit; rw [a, s, m, c]; rfl)
              go_wp2
              go_quiet (fail)
              go_wp2
              exact ⟨⟨k + 1, by omega, by go_num, hid (find_next HST.out HK.out hh.out), hbr.trans (below_drewN _ _ _)⟩, by simp [intOf]; omega⟩
        · cases b : (src != r.at_)
          · cases m : (r.imm == 4)
            · have hh := hid (show hit op src imm r = true by unfold hit; rw [a, s, b, m]; rfl)
              have q1 : wr.cell? ⟨g, k * 11 + 1, none⟩ = some (.int .i64 r.cls) := HW.out 1 _ rfl
              have q2 : wr.cell? ⟨g, k * 11 + 2, none⟩ = some (.int .i64 r.o) := HW.out 2 _ rfl
              have q3 : wr.cell? ⟨g, k * 11 + 3, none⟩ = some (.int .i64 r.size) := HW.out 3 _ rfl
              have q4 : wr.cell? ⟨g, k * 11 + 4, none⟩ = some (.bool r.wide) := HW.out 4 _ rfl
              have q5 : wr.cell? ⟨g, k * 11 + 5, none⟩ = some (.bool r.reg) := HW.out 5 _ rfl
              have q6 : wr.cell? ⟨g, k * 11 + 6, none⟩ = some (.int .i64 r.dst) := HW.out 6 _ rfl
              have q8 : wr.cell? ⟨g, k * 11 + 8, none⟩ = some (.int .i64 r.off) := HW.out 8 _ rfl
              obtain rfl := find_here HST.out HK.out hh.out
              obtain ⟨hc, hf⟩ := bcell (b1.out.trans (hbr.mono b1.out.size))
              have hz2 : w.heap.size + 1 < wr.heap.size := by have := hbr.size; omega
              have hb2 := hb1.trans (hbr.mono (Nat.le_of_lt hz'))
              go_wp2
              go_quiet (fail)
              go_wp2
              exact bodyPost_ret (v := .tuple #[rrV r, .bool true]) (by simp [results, Tryd.results52, go_sem, hc, hz]; rfl) rfl ⟨rfl, ((((((((((((below_drewN_at hb2 _).setCell (by simp) _).setCell (by simp) _).setCell (by simp) _).setCell (by simp) _).setCell (by simp) _).setCell (by simp) _).setCell (by simp) _).setCell (by simp) _).setCell (by simp) _).setCell (by simp) _).setCell (by simp) _)⟩
            · cases c : (imm != r.at_)
              · have hh := hid (show hit op src imm r = true by unfold hit; rw [a, s, b, m, c]; rfl)
                have q1 : wr.cell? ⟨g, k * 11 + 1, none⟩ = some (.int .i64 r.cls) := HW.out 1 _ rfl
                have q2 : wr.cell? ⟨g, k * 11 + 2, none⟩ = some (.int .i64 r.o) := HW.out 2 _ rfl
                have q3 : wr.cell? ⟨g, k * 11 + 3, none⟩ = some (.int .i64 r.size) := HW.out 3 _ rfl
                have q4 : wr.cell? ⟨g, k * 11 + 4, none⟩ = some (.bool r.wide) := HW.out 4 _ rfl
                have q5 : wr.cell? ⟨g, k * 11 + 5, none⟩ = some (.bool r.reg) := HW.out 5 _ rfl
                have q6 : wr.cell? ⟨g, k * 11 + 6, none⟩ = some (.int .i64 r.dst) := HW.out 6 _ rfl
                have q8 : wr.cell? ⟨g, k * 11 + 8, none⟩ = some (.int .i64 r.off) := HW.out 8 _ rfl
                obtain rfl := find_here HST.out HK.out hh.out
                obtain ⟨hc, hf⟩ := bcell (b1.out.trans (hbr.mono b1.out.size))
                have hz2 : w.heap.size + 1 < wr.heap.size := by have := hbr.size; omega
                have hb2 := hb1.trans (hbr.mono (Nat.le_of_lt hz'))
                go_wp2
                go_quiet (fail)
                go_wp2
                exact bodyPost_ret (v := .tuple #[rrV r, .bool true]) (by simp [results, Tryd.results52, go_sem, hc, hz]; rfl) rfl ⟨rfl, ((((((((((((below_drewN_at hb2 _).setCell (by simp) _).setCell (by simp) _).setCell (by simp) _).setCell (by simp) _).setCell (by simp) _).setCell (by simp) _).setCell (by simp) _).setCell (by simp) _).setCell (by simp) _).setCell (by simp) _).setCell (by simp) _)⟩
              · have hh := hid (show hit op src imm r = false by unfold hit; rw [a, s, b, m, c]; rfl)
                go_wp2
                go_quiet (fail)
                go_wp2
                exact ⟨⟨k + 1, by omega, by go_num, hid (find_next HST.out HK.out hh.out), hbr.trans (below_drewN _ _ _)⟩, by simp [intOf]; omega⟩
          · have hh := hid (show hit op src imm r = false by unfold hit; rw [a, s, b]; rfl)
            go_wp2
            go_quiet (fail)
            go_wp2
            exact ⟨⟨k + 1, by omega, by go_num, hid (find_next HST.out HK.out hh.out), hbr.trans (below_drewN _ _ _)⟩, by simp [intOf]; omega⟩
      · have hh := hid (show hit op src imm r = false by unfold hit; rw [a]; rfl)
        go_wp2
        go_quiet (fail)
        go_wp2
        exact ⟨⟨k + 1, by omega, by go_num, hid (find_next HST.out HK.out hh.out), hbr.trans (below_drewN _ _ _)⟩, by simp [intOf]; omega⟩

    · obtain rfl : k = 114 := by omega
      obtain rfl := find_over HST.out
      obtain ⟨hc, hf⟩ := bcell (b1.out.trans (hbr.mono b1.out.size))
      have hz2 : w.heap.size + 1 < wr.heap.size := by have := hbr.size; omega
      have hb2 := hb1.trans (hbr.mono (Nat.le_of_lt hz'))
      clear co cs cm hlt
      go_wp2
      exact bodyPost_ret (v := .tuple #[rrV rrz, .bool false]) (by simp [results, Tryd.results52, go_sem, hc, hz]; rfl) rfl ⟨rfl, (((((((((((hb2.setCell (by simp) _).setCell (by simp) _).setCell (by simp) _).setCell (by simp) _).setCell (by simp) _).setCell (by simp) _).setCell (by simp) _).setCell (by simp) _).setCell (by simp) _).setCell (by simp) _).setCell (by simp) _)⟩
end Go.Proofs.YtodmikjpmcabiabDoor

