/-
  Contract of Check: what is wrong with an image, and where.
-/
import Derived.Test.YtodmikjpmcabiabDoorDShL
namespace Go.Proofs.YtodmikjpmcabiabDoor
set_option linter.unusedSimpArgs false
set_option linter.unusedVariables false
set_option maxRecDepth 100000
open Go.ChangeShapes Go.WideShapes Go.ChangeAt Go.RowKit Go.Shelf
attribute [local go_sem] Oper.semAt_some

def zM : M4 := ⟨0, 0, 0, 0⟩
def mpA (l : List M4) (k : Nat) : M4 := l.getD k zM
def MapAt (w : World) (b o : Nat) (m : M4) : Prop :=
  w.cell? ⟨b, o, none⟩ = some (.int .i64 m.kind) ∧ w.cell? ⟨b, o + 1, none⟩ = some (.int .i64 m.key) ∧ w.cell? ⟨b, o + 2, none⟩ = some (.int .i64 m.value) ∧ w.cell? ⟨b, o + 3, none⟩ = some (.int .i64 m.cap)
theorem MapAt.kept {w w' : World} {n b o : Nat} {m : M4} (h : MapAt w b o m) (hb : Below n w w') (hl : b < n) : MapAt w' b o m := by
  obtain ⟨a0, a1, a2, a3⟩ := h
  exact ⟨(hb.cell (p := ⟨b, o, none⟩) hl).trans a0, (hb.cell (p := ⟨b, o + 1, none⟩) hl).trans a1, (hb.cell (p := ⟨b, o + 2, none⟩) hl).trans a2, (hb.cell (p := ⟨b, o + 3, none⟩) hl).trans a3⟩
/-- A slice that reads as these maps, in memory below n₀. -/
def MpSl (n₀ : Nat) (w : World) (p : Option Addr) (n : Nat) (l : List M4) : Prop :=
  l.length = n ∧ n < 4398046511104 ∧ (n = 0 ∨ ∃ b off, p = some ⟨b, off, none⟩ ∧ b < n₀ ∧ ∀ j, j < n → MapAt w b (off + j * 4) (mpA l j))
theorem MpSl.kept {n₀ m : Nat} {w w' : World} {p : Option Addr} {n : Nat} {l : List M4} (h : MpSl n₀ w p n l) (hb : Below m w w') (hm : n₀ ≤ m) : MpSl n₀ w' p n l := by
  obtain ⟨h1, h3, h4⟩ := h
  refine ⟨h1, h3, h4.imp id ?_⟩
  rintro ⟨b, off, e, hl, hc⟩
  exact ⟨b, off, e, hl, fun j hj => (hc j hj).kept hb (by omega)⟩
theorem MpSl.wide {n₀ m : Nat} {w : World} {p : Option Addr} {n : Nat} {l : List M4} (h : MpSl n₀ w p n l) (hm : n₀ ≤ m) : MpSl m w p n l := by
  obtain ⟨h1, h3, h4⟩ := h
  refine ⟨h1, h3, h4.imp id ?_⟩
  rintro ⟨b, off, e, hl, hc⟩
  exact ⟨b, off, e, by omega, hc⟩

/-- What lies in Check's own memory between two rounds. -/
def CkI (w : World) (pm pc : Option Addr) (cm cc lm lc : Nat) (W : World) : Prop :=
  W.cell? ⟨w.heap.size, 0, none⟩ = some (.slice pm lm cm) ∧ W.cell? ⟨w.heap.size, 1, none⟩ = some (.slice pc lc cc) ∧ Boxed W (w.heap.size + 1) 3 (.int .i64 0) ∧ Boxed W (w.heap.size + 1 + 1) 38 (.int .i64 0)
theorem ckI_step {w : World} {pm pc : Option Addr} {cm cc lm lc : Nat} {X Y : World} {row : Option Nat} (h : CkI w pm pc cm cc lm lc X) (hg : X.grownBy Y row) (hr : ∀ r, row = some r → ∃ o : Obj, X.heap[r]? = some o ∧ o.isCells = false) : CkI w pm pc cm cc lm lc Y := by
  obtain ⟨h1, h2, h3, h4⟩ := h
  exact ⟨cell_kept h1 hg hr, cell_kept h2 hg hr, boxed_own (β := Unit) _ _ (fun _ => _) () X Y row h3 hg hr, boxed_own (β := Unit) _ _ (fun _ => _) () X Y row h4 hg hr⟩
theorem CkI.kept {w : World} {pm pc : Option Addr} {cm cc lm lc : Nat} {X Y : World} (h : CkI w pm pc cm cc lm lc X) (hb : Below X.heap.size X Y) : CkI w pm pc cm cc lm lc Y :=
  ckI_step h (grown_of_below hb) (fun r e => by cases e)
end Go.Proofs.YtodmikjpmcabiabDoor
