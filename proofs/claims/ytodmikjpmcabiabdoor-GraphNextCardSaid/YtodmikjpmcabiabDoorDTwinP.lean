/-
  The laws' twin of an image: the same in memory of its own, with room for one more behind each list's end.
-/
import Derived.Test.YtodmikjpmcabiabDoorDTwinH
import Derived.Deep.RegionLaw
namespace Go.Proofs.YtodmikjpmcabiabDoor
set_option linter.unusedSimpArgs false
set_option linter.unusedVariables false
set_option maxRecDepth 100000
open Go.ChangeShapes Go.WideShapes Go.ChangeAt Go.RowKit

/-- A list in memory of the call's own, with room behind its end. -/
def OwnL (w0 w : World) (e : TypeId) (k g n cap : Nat) (xs : List Value) : Prop := w.ownsRow w0.heap.size e k (.slice (some ⟨g, 0, none⟩) n cap) n xs ∧ n < cap
theorem own_cut {w : World} {base : Nat} {e : TypeId} {k n m g cap : Nat} {xs ys : List Value} (h : w.ownsRow base e k (.slice (some ⟨g, 0, none⟩) n cap) n (xs ++ ys)) (hx : xs.length = m * k) (hm : m < n) : w.ownsRow base e k (.slice (some ⟨g, 0, none⟩) m cap) m xs ∧ m < cap := by
  obtain ⟨h1, h2⟩ := h
  rcases h2 with ⟨h0, _⟩ | ⟨g', cap', cur, hv, hb, hg, hn, hc, hs, ht⟩
  · cases h0
  · cases hv
    refine ⟨⟨hx, .inr ⟨_, _, cur, rfl, hb, hg, by omega, hc, hs, ?_⟩⟩, by omega⟩
    have h3 : (cur.toList.take (n * k)).take (m * k) = xs := by rw [ht, ← hx, List.take_left]
    rw [List.take_take, Nat.min_eq_left (Nat.mul_le_mul_right k (by omega))] at h3
    exact h3
theorem own_some {w : World} {base : Nat} {e : TypeId} {k n : Nat} {v : Value} {xs : List Value} (h : w.ownsRow base e k v n xs) (hn : 0 < n) : ∃ g cap, v = .slice (some ⟨g, 0, none⟩) n cap ∧ n ≤ cap ∧ base ≤ g ∧ g < w.heap.size := by
  rcases h.2 with ⟨_, h0⟩ | ⟨g, cap, cur, rfl, hb, hg, hnc, _⟩
  · omega
  · exact ⟨g, cap, rfl, hnc, hb, (Array.getElem?_eq_some_iff.1 hg).1⟩
def Bq (w w' : World) : Prop := Below w.heap.size w w'
theorem Bq.drew {w w' : World} (h : Bq w w') : Bq w w'.drew := Below.drew h
theorem SrcP.grow {n₀ : Nat} {w w' : World} {p : Option Addr} {news : List Value} {row : Option Nat} (h : SrcP n₀ w p news) (hg : w.grownBy w' row) (hr : ∀ k, row = some k → n₀ ≤ k) : SrcP n₀ w' p news := by
  refine h.imp id ?_
  rintro ⟨b, off, e, hl, hc⟩
  exact ⟨b, off, e, hl, fun j u hu => hg.cell (hc j u hu) (fun e' => by have := hr _ e'.symm; simp at this; omega)⟩

theorem grown_set (W : World) (a : Addr) (v : Value) : W.grownBy (W.setCell a v) (some a.block) := ⟨rfl, rfl, rfl, by simp [World.setCell], fun k hk hne => Below.heap_setCell _ _ _ _ (fun e => hne (by rw [e]))⟩
theorem own_base {w : World} {b b' : Nat} {e : TypeId} {k n : Nat} {v : Value} {xs : List Value} (h : w.ownsRow b e k v n xs) (hb : b' ≤ b) : w.ownsRow b' e k v n xs := by
  refine ⟨h.1, h.2.imp id ?_⟩
  rintro ⟨g, cap, cur, h1, h2, h3⟩
  exact ⟨g, cap, cur, h1, by omega, h3⟩
def CutR (R : Act → World → Prop) : Exit → Act → World → Prop
  | .normal, a, w => R a w
  | _, _, _ => False
theorem CutR.imp {R : Act → World → Prop} {Q : Exit → Act → World → Prop} (h : ∀ a w, R a w → Q .normal a w) : ∀ e a w, CutR R e a w → Q e a w := fun e a w hr => by
  cases e <;> first | exact h a w hr | exact (hr : False).elim
end Go.Proofs.YtodmikjpmcabiabDoor
