/-
  Contracts of package tnum's Cut and Arsh, as the landed code has them.
-/
import Derived.Test.YtcgokiahlldaoaaFTnE
namespace Go.Proofs.Ytcgokiahlldaoaa
set_option linter.unusedSimpArgs false
set_option linter.unusedVariables false
set_option maxRecDepth 100000
open Go.ChangeShapes Go.WideShapes Go.ChangeAt Go.RowKit

def sz4 (n : Int) : Bool := n == 8 || n == 16 || n == 32 || n == 64
def cutT (a : Tn) (n : Int) : Tn := if sz4 n then eachT a (fun x => x &&& lowB n.toNat) else t0
def cutE (a : Tn) (n : Int) : Int := if sz4 n then eachE a else 1
def arB (u k l : Nat) (x : B64) : B64 := ((x <<< u).sshiftRight u).sshiftRight k &&& lowB l
theorem ib_of2 (x : B64) : IntKind.i64.wrap (ub x) = ib x := by rw [← ib_of]; first | rfl | (unfold wrap64; exact IntKind.wrap_i64 _)
theorem cell_new (w : World) (u : Value) (t : TypeId) (b : Nat) (hb : b = w.heap.size) : (w.alloc (.cells #[u] t)).cell? ⟨b, 0, none⟩ = some u := by
  subst hb
  simp
theorem cna {w : World} (o : Obj) {p : Addr} {c : Value} (h : w.cell? p = some c) : (w.alloc o).cell? p = some c := cn ((Below.refl w.heap.size w).alloc (Nat.le_refl _) o) h
def arshT (a : Tn) (n size : Int) : Tn := if size = 32 then shT a (arB 32 n.toNat 32) n 32 else if size = 64 then shT a (arB 0 n.toNat 64) n 64 else t0
def arshE (a : Tn) (n size : Int) : Int := if size = 32 then shE a n 32 else if size = 64 then shE a n 64 else 1
end Go.Proofs.Ytcgokiahlldaoaa
