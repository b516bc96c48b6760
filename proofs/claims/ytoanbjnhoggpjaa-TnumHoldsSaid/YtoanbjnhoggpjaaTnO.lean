/-
  Arrays of numbers as arguments: opened.
-/
import Derived.Test.YtoanbjnhoggpjaaClK
import Derived.Test.YtoanbjnhoggpjaaTnP
import Derived.Lib.SmallJoins
namespace Go.Proofs.Ytoanbjnhoggpjaa
set_option linter.unusedSimpArgs false
set_option linter.unusedVariables false
open Go.ChangeShapes Go.WideShapes Go.ChangeAt Go.RowKit

section
variable {H : Type} {enc : TypeId × Value → H} {P : Program}
theorem open_arr {w : World} {base : Nat} {spare : Nat → Bool} {held : Bool} {r : Reach} {b0 : Nat} {t e : TypeId} {n : Nat} {v : Value} {d : DataW H} {p : List MemPlace}
    (hs : P.underlying t = some (.array n e)) (he : P.cellsOf e = 1) (hv : Value.okWide P w r b0 t v) (h : DataW.Trod enc P w base spare held t v d p) :
    ∃ cs, v = .agg cs ∧ cs.size = P.cellsOf t ∧ ∀ (i : Nat) (c : Value), i < n → cs[i]? = some c → ∃ (m : Nat) (y : DataW H × List MemPlace), DataW.trod enc P w base spare held m e [c] = some y := by
  simp only [Value.okWide, hs] at hv
  obtain ⟨cs, rfl, hsz, _⟩ := hv
  obtain ⟨fuel, hf⟩ := h
  obtain ⟨xs, m, _, hx, _, hlen, hg⟩ := DataW.trod_array hs hf
  refine ⟨cs, rfl, hsz, fun i c hi hc => ?_⟩
  have hg' := hg i hi
  rw [he, Nat.mul_one] at hg'
  have hcs : ((Value.agg cs).cells.toList.drop i).take 1 = [c] := by
    show (cs.toList.drop i).take 1 = [c]
    have hl : cs.toList[i]? = some c := by simpa using hc
    have hil := (List.getElem?_eq_some_iff.1 hl).1
    rw [List.drop_eq_getElem_cons hil, (List.getElem?_eq_some_iff.1 hl).2]
    rfl
  rw [hcs] at hg'
  have hlt : i < xs.length := by omega
  exact ⟨m, xs[i], by rw [hg']; simp⟩
end
theorem arr2 {cs : Array Value} (h : cs.size = 2) : ∃ c0 c1, cs = #[c0, c1] := by
  obtain ⟨l⟩ := cs
  match l, h with
  | [c0, c1], _ => exact ⟨c0, c1, rfl⟩
theorem arr3 {cs : Array Value} (h : cs.size = 3) : ∃ c0 c1 c2, cs = #[c0, c1, c2] := by
  obtain ⟨l⟩ := cs
  match l, h with
  | [c0, c1, c2], _ => exact ⟨c0, c1, c2, rfl⟩
end Go.Proofs.Ytoanbjnhoggpjaa
