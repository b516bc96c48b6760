/-
  A number appended to a list of numbers of the call's own; slices.Sort and slices.Compact of such a list.
-/
import Derived.Test.YtkapbeipjjcalaaDoorInsnT
import Derived.Test.YtkapbeipjjcalaaDoorShelf
import Derived.Laws.AppendOwn
import Derived.OwnWalk
import Derived.Lib.OwnBridge
import Derived.Sort.OwnSortedInts
namespace Go.Proofs.YtkapbeipjjcalaaDoor
set_option linter.unusedSimpArgs false
set_option linter.unusedVariables false
open Go.ChangeShapes Go.WideShapes Go.ChangeAt Go.RowKit Go.Sort Go.Lib

def OwnI (w0 w : World) (v : Value) (zs : List Int) : Prop := w.ownsRow w0.heap.size 3 1 v zs.length (zs.map (Value.int .i64)) ∧ Below w0.heap.size w0 w
theorem OwnI.nil (w0 : World) : OwnI w0 w0 (.slice none 0 0) [] := ⟨World.ownsRow_nil _ _ _ _, Below.refl _ _⟩
theorem intInfo : (Tryd.prog.info? 3).map (fun i => (i.zero, i.size, i.bytes)) = some (some (.int .i64 0), 1, 8) := by kernel_rfl
theorem append_int {ops : Array Oper} {rest : List Oper} {o : Oper} {a : Act} {Q : Exit → Act → World → Prop} (hgd : o.guard = none) (s x : Operand)
    (ho : o.op = .call { callee := .builtin .append, args := #[s, x], argTypes := #[25, 25] })
    (w0 w : World) (v : Value) (L : List Int) (r : Int) (hs : a.eval s = v) (hown : OwnI w0 w v L) (wm : World) (g : Nat) (hx : a.eval x = .slice (some ⟨g, 0, none⟩) 1 1) (hg : w.heap.size = g)
    (hw : wm = w.alloc (.cells #[.int .i64 r] 3)) (hlen : L.length < 1000)
    (h : ∀ v' w', OwnI w0 w' v' (L ++ [r]) → wpList Tryd.prog ops Q rest (a.put o.dst v') w') : wpList Tryd.prog ops Q (o :: rest) a wm := by
  subst hw
  subst hg
  obtain ⟨i, hi, hp⟩ := Option.map_eq_some_iff.1 intInfo
  injection hp with hp1 hp
  injection hp with hp2 hp3
  obtain ⟨ho1, hb⟩ := hown
  refine wpList_append_own _ hgd s x 25 ho w0.heap.size 3 i _ 1 8 Tryd.underlying25 hi hp1 hp2 hp3 rfl (by decide) v L.length (L.map (Value.int .i64)) hs (ho1.alloc _)
    ⟨w.heap.size, 0, none⟩ 1 1 [.int .i64 r] hx rfl ?_ (by intro u hu; simp at hu; subst hu; rfl) (by simp only [maxLen]; omega) (by omega) ?_ ?_
  · intro j u hu
    have hj0 : j = 0 := by
      have := (List.getElem?_eq_some_iff.1 hu).1
      simp at this
      exact this
    subst hj0
    simp at hu
    subst hu
    have : ((⟨w.heap.size, 0, none⟩ : Addr).add 0) = ⟨w.heap.size, 0, none⟩ := rfl
    rw [this]
    simp
  · have := hb.size
    simp
    omega
  · intro v' w' h1 h2 _
    refine h v' w' ⟨?_, ?_⟩
    · rw [List.length_append, List.map_append]
      simpa using h1
    · refine (hb.alloc hb.size _).grown h2 (by have := hb.size; simp; omega) ?_
      intro k hk
      exact (ho1.lt k hk).1

/-- What is left behind a call that works on the list. -/
def Left1 (w0 : World) (v : Value) (zs : List Int) (e : Ending) (w' : World) : Prop := e = .returned (.tuple #[]) ∧ OwnI w0 w' v zs
def Left2 (w0 : World) (zs : List Int) (e : Ending) (w' : World) : Prop := ∃ v, e = .returned v ∧ OwnI w0 w' v zs
theorem sort_own (w0 w : World) (v : Value) (zs : List Int) (h : OwnI w0 w v zs) (hn : zs.length < 1000) : Calls Tryd.prog 19 #[v] w (Left1 w0 v (zs.mergeSort fun x y => decide (x ≤ y))) := by
  obtain ⟨h1, hb⟩ := h
  rcases h1.2 with ⟨rfl, h0⟩ | ⟨g, cap, cur, rfl, hg, hh, hn1, hm, hs, ht⟩
  · obtain rfl : zs = [] := List.eq_nil_of_length_eq_zero h0
    refine (Tryd.slices_Sort_int_none _ _ w).mono ?_
    rintro e w' ⟨rfl, rfl⟩
    exact ⟨rfl, by simpa using h1, hb⟩
  · have hlt : g < w.heap.size := (Array.getElem?_eq_some_iff.1 hh).1
    obtain ⟨g', cap', hv, _, _, _, _, _, hH⟩ := holds_of_ownsRow h1 (by intro h; cases h)
    injection hv with hv1 hv2 hv3
    injection hv1 with hv1
    injection hv1 with hv1
    subst hv1
    refine (Tryd.slices_Sort_int g 0 cap zs w hH hlt (by omega)).mono ?_
    rintro e w' ⟨rfl, n, os, rfl⟩
    refine ⟨rfl, ?_, ?_⟩
    · have := ownsRow_sortedI (n := n) (os := os) (ss := zs) (ts := zs.mergeSort fun x y => decide (x ≤ y)) (by simp) hg hh hn1 hm hs
      rw [List.length_mergeSort]
      exact this
    · exact hb.grown (grownBy_sortedI _) hb.size (fun k hk => by cases hk; exact hg)
theorem compact_le (zs : List Int) : (compact zs).length ≤ zs.length := by
  unfold compact compactUpTo
  rw [List.length_map]
  exact Nat.le_trans (List.length_filter_le _ _) (by simp)
theorem compact_own (w0 w : World) (v : Value) (zs : List Int) (h : OwnI w0 w v zs) (hn : zs.length < 1000) : Calls Tryd.prog 20 #[v] w (Left2 w0 (compact zs)) := by
  obtain ⟨h1, hb⟩ := h
  rcases h1.2 with ⟨rfl, h0⟩ | ⟨g, cap, cur, rfl, hg, hh, hn1, hm, hs, ht⟩
  · obtain rfl : zs = [] := List.eq_nil_of_length_eq_zero h0
    refine (Tryd.slices_Compact_int_empty _ _ w).mono ?_
    rintro e w' ⟨rfl, rfl⟩
    exact ⟨_, rfl, h1, hb⟩
  · obtain ⟨g', cap', hv, _, _, _, _, _, hH⟩ := holds_of_ownsRow h1 (by intro h; cases h)
    injection hv with hv1 hv2 hv3
    injection hv1 with hv1
    injection hv1 with hv1
    subst hv1
    refine (Tryd.slices_Compact_int g 0 cap zs w hH (by omega) hn1).mono ?_
    rintro e w' ⟨rfl, q, rfl⟩
    refine ⟨_, rfl, ?_, below_putRow hb hg⟩
    have := ownsRow_putRow (q := q) (ys := compact zs ++ List.replicate (zs.length - (compact zs).length) 0) (k := (compact zs).length) h1 (by have := compact_le zs; simp; omega) (compact_le zs)
    simpa using this
theorem sc_one (a : Int) : compact ([a].mergeSort fun x y => decide (x ≤ y)) = [a] := by
  simp [compact, compactUpTo, keeps]
theorem ms_two (a b : Int) : ([a, b].mergeSort fun x y => decide (x ≤ y)) = if a ≤ b then [a, b] else [b, a] := by
  by_cases h : a ≤ b
  · simp [List.mergeSort, List.MergeSort.Internal.splitInTwo, List.merge, h]
  · simp [List.mergeSort, List.MergeSort.Internal.splitInTwo, List.merge, h]
theorem cp_two (a b : Int) : compact [a, b] = if a = b then [a] else [a, b] := by
  by_cases h : a = b
  · subst h
    simp [compact, compactUpTo, keeps, List.range_succ]
  · have h' : ¬ b = a := fun e => h e.symm
    simp [compact, compactUpTo, keeps, List.range_succ, h, h']
def sc2 (a b : Int) : List Int := if a ≤ b then (if a = b then [a] else [a, b]) else (if b = a then [b] else [b, a])
theorem sc_two (a b : Int) : compact ([a, b].mergeSort fun x y => decide (x ≤ y)) = sc2 a b := by
  rw [ms_two]
  unfold sc2
  by_cases h : a ≤ b
  · rw [if_pos h, if_pos h, cp_two]
  · rw [if_neg h, if_neg h, cp_two]
/-- The document's list: those from 0 to 10 that are asked for. -/
def readL (p : Nat → Bool) (k : Nat) : List Int := ((List.range k).filter p).map fun (n : Nat) => (n : Int)
theorem sc_two_t : ((List.range 11).all fun a => (List.range 11).all fun b => decide (sc2 (a : Int) (b : Int) = readL (fun n => n == a || n == b) 11)) = true := by kernel_rfl
theorem sc_one_t : ((List.range 11).all fun a => decide ([(a : Int)] = readL (fun n => n == a) 11)) = true := by kernel_rfl
theorem sc_none_t : readL (fun _ => false) 11 = [] := by kernel_rfl
end Go.Proofs.YtkapbeipjjcalaaDoor
