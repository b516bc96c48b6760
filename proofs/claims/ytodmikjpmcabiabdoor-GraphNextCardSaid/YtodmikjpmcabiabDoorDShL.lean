/-
  Contract of leading: where the instructions of a program lead.
-/
import Derived.Test.YtodmikjpmcabiabDoorDShT
import Derived.Test.YtodmikjpmcabiabDoorDShD
import Derived.Test.YtodmikjpmcabiabDoorDShP
namespace Go.Proofs.YtodmikjpmcabiabDoor
set_option linter.unusedSimpArgs false
set_option linter.unusedVariables false
set_option maxRecDepth 100000
open Go.ChangeShapes Go.WideShapes Go.ChangeAt Go.RowKit Go.Shelf
attribute [local go_sem] Oper.semAt_some

/-- What lies in leading's own memory between two rounds. -/
def LdI (w : World) (p : Option Addr) (cap : Nat) (c : List I5) (g s : Nat) (v : Int) (W : World) : Prop :=
  Boxed W w.heap.size 22 (.slice p c.length cap) ∧ Boxed W (w.heap.size + 1) 3 (.int .i64 0) ∧ Boxed W (w.heap.size + 1 + 1) 38 (.int .i64 0) ∧
    Boxed W s 30 (.slice (some ⟨g, 0, none⟩) c.length c.length) ∧ Boxed W (s + 1) 3 (.int .i64 v) ∧ ∀ j, j < c.length → W.cell? ⟨g, j, none⟩ = some (.bool (stB c j))
theorem ldI_step {w : World} {p : Option Addr} {cap : Nat} {c : List I5} {g s : Nat} {v : Int} {X Y : World} {row : Option Nat} (h : LdI w p cap c g s v X) (hg : X.grownBy Y row) (hr : ∀ r, row = some r → ∃ o : Obj, X.heap[r]? = some o ∧ o.isCells = false) : LdI w p cap c g s v Y := by
  obtain ⟨h1, h2, h3, h4, h5, h6⟩ := h
  exact ⟨boxed_own (β := Unit) _ _ (fun _ => _) () X Y row h1 hg hr, boxed_own (β := Unit) _ _ (fun _ => _) () X Y row h2 hg hr, boxed_own (β := Unit) _ _ (fun _ => _) () X Y row h3 hg hr, boxed_own (β := Unit) _ _ (fun _ => _) () X Y row h4 hg hr, boxed_own (β := Unit) _ _ (fun _ => _) () X Y row h5 hg hr, fun j hj => cell_kept (h6 j hj) hg hr⟩
theorem LdI.kept {w : World} {p : Option Addr} {cap : Nat} {c : List I5} {g s : Nat} {v : Int} {X Y : World} (h : LdI w p cap c g s v X) (hb : Below X.heap.size X Y) : LdI w p cap c g s v Y :=
  ldI_step h (grown_of_below hb) (fun r e => by cases e)
theorem LdI.store {w : World} {p : Option Addr} {cap : Nat} {c : List I5} {g s : Nat} {v : Int} {X : World} (h : LdI w p cap c g s v X) (u : Int) (hs : w.heap.size + 1 + 1 < s) (hg : g < s) : LdI w p cap c g s u (X.setCell ⟨s + 1, 0, none⟩ (.int .i64 u)) := by
  obtain ⟨h1, h2, h3, h4, h5, h6⟩ := h
  exact ⟨h1.other (by omega) _, h2.other (by omega) _, h3.other (by omega) _, h4.other (by omega) _, h5.set _, fun j hj => by rw [set_oth (by intro e; injection e with e1; omega)]; exact h6 j hj⟩
theorem InsAt.new (X : World) (x : I5) (t : TypeId) : InsAt (X.alloc (.cells #[.int .u8 x.op, .int .u8 x.dst, .int .u8 x.src, .int .i16 x.off, .int .i32 x.imm] t)) X.heap.size 0 x := by
  refine ⟨?_, ?_, ?_, ?_, ?_⟩ <;> simp
end Go.Proofs.YtodmikjpmcabiabDoor
