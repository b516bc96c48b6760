/-
  A row appended to a list of rows of the call's own.
-/
import Derived.Test.YtdnkikgfiganaaaDoorInsnH
import Derived.Laws.AppendOwn
import Derived.OwnWalk
namespace Go.Proofs.YtdnkikgfiganaaaDoor
set_option linter.unusedSimpArgs false
set_option linter.unusedVariables false
open Go.ChangeShapes Go.WideShapes Go.ChangeAt Go.RowKit

/-- The slice 'v' is a list of the call's own that holds just these rows. -/
def OwnR (w0 w : World) (v : Value) (L : List RR) : Prop := w.ownsRow w0.heap.size 99 11 v L.length (L.flatMap rrCells) ∧ Below w0.heap.size w0 w
theorem OwnR.nil (w0 : World) : OwnR w0 w0 (.slice none 0 0) [] := ⟨World.ownsRow_nil _ _ _ _, Below.refl _ _⟩
theorem rowInfo : (Tryd.prog.info? 99).map (fun i => ((i.zero.map fun z => z.cells.size), i.size, i.bytes)) = some (some 11, 11, 80) := by kernel_rfl
theorem rr_len (L : List RR) : (L.flatMap rrCells).length = L.length * 11 := by
  induction L with
  | nil => rfl
  | cons r L ih => rw [List.flatMap_cons, List.length_append, ih, List.length_cons, show (rrCells r).length = 11 from rfl]; omega
theorem rr_one (r : RR) : ∀ u ∈ rrCells r, u.oneCell' = true := by
  intro u hu
  simp only [rrCells, List.mem_cons, List.not_mem_nil, or_false] at hu
  rcases hu with rfl | rfl | rfl | rfl | rfl | rfl | rfl | rfl | rfl | rfl | rfl <;> rfl
theorem append_row {ops : Array Oper} {rest : List Oper} {o : Oper} {a : Act} {Q : Exit → Act → World → Prop} (hgd : o.guard = none) (s x : Operand)
    (ho : o.op = .call { callee := .builtin .append, args := #[s, x], argTypes := #[117, 117] })
    (w0 w : World) (v : Value) (L : List RR) (r : RR) (hs : a.eval s = v) (hown : OwnR w0 w v L) (wm : World) (hx : a.eval x = .slice (some ⟨w.heap.size, 0, none⟩) 1 1)
    (hw : wm = w.alloc (.cells (rrCells r).toArray 99)) (hlen : L.length < 1000)
    (h : ∀ v' w', OwnR w0 w' v' (L ++ [r]) → wpList Tryd.prog ops Q rest (a.put o.dst v') w') : wpList Tryd.prog ops Q (o :: rest) a wm := by
  subst hw
  obtain ⟨i, hi, hp⟩ := Option.map_eq_some_iff.1 rowInfo
  injection hp with hp1 hp
  injection hp with hp2 hp3
  obtain ⟨z, hz, hzc⟩ := Option.map_eq_some_iff.1 hp1
  obtain ⟨ho1, hb⟩ := hown
  refine wpList_append_own _ hgd s x 117 ho w0.heap.size 99 i z 11 80 Tryd.underlying117 hi hz hp2 hp3 hzc (by decide) v L.length (L.flatMap rrCells) hs (ho1.alloc _)
    ⟨w.heap.size, 0, none⟩ 1 1 (rrCells r) hx rfl ?_ (rr_one r) (by simp only [maxLen]; omega) (by omega) ?_ ?_
  · intro j u hu
    have hj : (((w.alloc (.cells (rrCells r).toArray 99)).cell? ⟨w.heap.size, j, none⟩) = (rrCells r).toArray[j]?) := by
      rw [World.cell?_alloc_at _ _ _ _ rfl]
    have : ((⟨w.heap.size, 0, none⟩ : Addr).add j) = ⟨w.heap.size, j, none⟩ := by simp [Addr.add]; omega
    rw [this, hj]
    simpa using hu
  · have := hb.size
    simp
    omega
  · intro v' w' h1 h2 _
    refine h v' w' ⟨?_, ?_⟩
    · rw [List.length_append, List.flatMap_append]
      simpa using h1
    · refine (hb.alloc hb.size _).grown h2 (by have := hb.size; simp; omega) ?_
      intro k hk
      exact (ho1.lt k hk).1
theorem part1_succ (k : Nat) : part1 (k + 1) = part1 k ++ rowsAlu k := by unfold part1; simp [List.range_succ]
theorem part2_succ (k : Nat) : part2 (k + 1) = part2 k ++ rowsSwap k := by unfold part2; simp [List.range_succ, List.append_assoc]
theorem part3_succ (k : Nat) : part3 (k + 1) = part3 k ++ rowsMem k := by unfold part3; simp [List.range_succ, List.append_assoc]
theorem part4_succ (k : Nat) : part4 (k + 1) = part4 k ++ rowsJmp (k + 1) := by unfold part4; simp [List.range_succ, List.append_assoc]
theorem lens_1 : ((List.range 14).all fun k => decide ((part1 k).length < 900)) = true := by kernel_rfl
theorem lens_2 : ((List.range 4).all fun k => decide ((part2 k).length < 900)) = true := by kernel_rfl
theorem lens_3 : ((List.range 5).all fun k => decide ((part3 k).length < 900)) = true := by kernel_rfl
theorem lens_4 : ((List.range 14).all fun k => decide ((part4 k).length < 900)) = true := by kernel_rfl
theorem len_of {n k : Nat} {f : Nat → List RR} (h : ((List.range n).all fun k => decide ((f k).length < 900)) = true) (hk : k < n) : (f k).length < 900 := by
  rw [List.all_eq_true] at h
  simpa using h k (List.mem_range.2 hk)
end Go.Proofs.YtdnkikgfiganaaaDoor
