/-
  Helpers of the laws on what registers are used: a list of numbers of the call's own read as a slice; what is left of a boxed instruction.
-/
import Derived.Test.YtkapbeipjjcalaaDoorReadU
import Derived.Test.YtkapbeipjjcalaaDoorInsnWc
import Derived.Test.YtkapbeipjjcalaaDoorInsnK
import Derived.Test.YtkapbeipjjcalaaDoorInsnEc
import Derived.Deep.RegionHeld3
namespace Go.Proofs.YtkapbeipjjcalaaDoor
set_option linter.unusedSimpArgs false
set_option linter.unusedVariables false
open Go.ChangeShapes Go.WideShapes Go.ChangeAt Go.RowKit Go.Joins Go.Deep

/-- A slice that reads as these numbers. -/
def IntSl (w : World) (p : Option Addr) (n : Nat) (zs : List Int) : Prop :=
  zs.length = n ∧ (n = 0 ∨ ∃ b off, p = some ⟨b, off, none⟩ ∧ b < w.heap.size ∧ ∀ j, j < n → w.cell? ⟨b, off + j, none⟩ = some (.int .i64 (zs.getD j 0)))
theorem IntSl.below {w w' : World} {p : Option Addr} {n : Nat} {zs : List Int} (h : IntSl w p n zs) (hb : Below w.heap.size w w') : IntSl w' p n zs := by
  obtain ⟨h1, h2⟩ := h
  refine ⟨h1, h2.imp id ?_⟩
  rintro ⟨b, off, e, hl, hc⟩
  exact ⟨b, off, e, Nat.lt_of_lt_of_le hl hb.size, fun j hj => (hb.cell (p := ⟨b, off + j, none⟩) hl).trans (hc j hj)⟩
theorem own_ints {w0 w : World} {v : Value} {zs : List Int} (h : OwnI w0 w v zs) : ∃ q cap, v = .slice q zs.length cap ∧ IntSl w q zs.length zs := by
  obtain ⟨h, hb⟩ := h
  rcases h.2 with ⟨rfl, h0⟩ | ⟨g, cap, cur, rfl, hg, hh, _⟩
  · exact ⟨none, 0, by rw [h0], rfl, .inl h0⟩
  · refine ⟨_, cap, rfl, rfl, .inr ⟨g, 0, rfl, (h.lt g rfl).2, fun j hj => ?_⟩⟩
    have hc := h.cells (g := g) rfl j (.int .i64 (zs.getD j 0)) (by
      rw [List.getElem?_map, List.getElem?_eq_getElem hj, List.getD_eq_getElem?_getD, List.getElem?_eq_getElem hj]; rfl)
    have e : ((⟨g, 0, none⟩ : Addr).add j) = ⟨g, 0 + j, none⟩ := by simp only [Addr.add]; split <;> simp_all
    rwa [e] at hc
theorem sc2_len (a b : Int) : (sc2 a b).length ≤ 2 := by
  unfold sc2
  split <;> split <;> simp
theorem uL_len (op dst src off imm : Int) : (uL op dst src off imm).length ≤ 2 := by
  unfold uL rdList
  have := sc2_len dst src
  split
  · simp
  split
  · simp
  split <;> split <;> first | assumption | simp

/-- What is left of the boxed instruction, and of all that lay below it. -/
def Bx (w0 w : World) : Prop := SzOk w0 ∧ Below w0.heap.size w0 w
theorem Bx.next {w0 w w' : World} (hb : Below w.heap.size w w') (h : Bx w0 w) : Bx w0 w' := ⟨h.1, below_next h.2 hb⟩
theorem Bx.sz {w0 w : World} (h : Bx w0 w) : SzOk w := h.1.below h.2
theorem cn {w w' : World} (hb : Below w.heap.size w w') {p : Addr} {c : Value} (h : w.cell? p = some c) : w'.cell? p = some c :=
  (hb.cell (World.block_lt_of_cell? w _ h)).trans h
theorem below_dr (w : World) : Below w.heap.size w w.drew := ⟨rfl, rfl, rfl, Nat.le_refl _, fun _ _ => rfl⟩
def insA (op dst src off imm : Int) : Array Value := #[.int .u8 op, .int .u8 dst, .int .u8 src, .int .i16 off, .int .i32 imm]

theorem cna {w : World} (o : Obj) {p : Addr} {c : Value} (h : w.cell? p = some c) : (w.alloc o).cell? p = some c := cn ((Below.refl w.heap.size w).alloc (Nat.le_refl _) o) h
theorem SzOk.one {a b : World} (h : SzOk a) (hb : Below 1 a b) : SzOk b :=
  ⟨Nat.lt_of_lt_of_le h.1 hb.size, (hb.cell (p := ⟨0, 0, none⟩) (by decide)).trans h.2.1, (hb.cell (p := ⟨0, 1, none⟩) (by decide)).trans h.2.2.1, (hb.cell (p := ⟨0, 2, none⟩) (by decide)).trans h.2.2.2.1, (hb.cell (p := ⟨0, 3, none⟩) (by decide)).trans h.2.2.2.2⟩
theorem set5 {w : World} {g : Nat} {a b c d e : Value} (h : SzOk w) (hg : 0 < g) : SzOk (((((w.setCell ⟨g, 0, none⟩ a).setCell ⟨g, 1, none⟩ b).setCell ⟨g, 2, none⟩ c).setCell ⟨g, 3, none⟩ d).setCell ⟨g, 4, none⟩ e) :=
  h.one ((((((Below.refl 1 w).setCell (p := ⟨g, 0, none⟩) hg _).setCell (p := ⟨g, 1, none⟩) hg _).setCell (p := ⟨g, 2, none⟩) hg _).setCell (p := ⟨g, 3, none⟩) hg _).setCell (p := ⟨g, 4, none⟩) hg _)
theorem below5 {w0 w w' : World} {g : Nat} {a b c d e : Value} (h : Below w0.heap.size w0 w) (hg : w0.heap.size ≤ g) (hb : Below (((((w.setCell ⟨g, 0, none⟩ a).setCell ⟨g, 1, none⟩ b).setCell ⟨g, 2, none⟩ c).setCell ⟨g, 3, none⟩ d).setCell ⟨g, 4, none⟩ e).heap.size (((((w.setCell ⟨g, 0, none⟩ a).setCell ⟨g, 1, none⟩ b).setCell ⟨g, 2, none⟩ c).setCell ⟨g, 3, none⟩ d).setCell ⟨g, 4, none⟩ e) w') : Below w0.heap.size w0 w' :=
  below_next (((((h.setCell (p := ⟨g, 0, none⟩) hg _).setCell (p := ⟨g, 1, none⟩) hg _).setCell (p := ⟨g, 2, none⟩) hg _).setCell (p := ⟨g, 3, none⟩) hg _).setCell (p := ⟨g, 4, none⟩) hg _) hb
theorem frz2 (w : World) (cs : Array Value) (t : TypeId) (o2 : Obj) (j : Nat) : ((w.alloc (.cells cs t)).alloc o2).frozen? ⟨w.heap.size, j, none⟩ = false := by
  have h : ((w.alloc (.cells cs t)).alloc o2).heap[w.heap.size]? = some (.cells cs t (0, 0)) := (Below.heap_alloc _ _ _ (by simp)).trans (heap_alloc_new w _)
  simp [World.frozen?, h]
end Go.Proofs.YtkapbeipjjcalaaDoor
