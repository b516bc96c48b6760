/-
  The laws' twin of an image: the same in memory of its own, with room for one more behind each list's end.
-/
import Derived.Test.YtdnkikgfiganaaaDoorTwinH
import Derived.Deep.RegionLaw
namespace Go.Proofs.YtdnkikgfiganaaaDoor
set_option linter.unusedSimpArgs false
set_option linter.unusedVariables false
open Go.ChangeShapes Go.WideShapes Go.ChangeAt Go.RowKit

/-- A list in memory of the call's own, with room behind its end. -/
def OwnL (w0 w : World) (e : TypeId) (k g n cap : Nat) (xs : List Value) : Prop := w.ownsRow w0.heap.size e k (.slice (some ⟨g, 0, none⟩) n cap) n xs ∧ n < cap
def TwPost (w : World) (l : List M4) (c : List I5) (e : Ending) (w' : World) : Prop :=
  ∃ g1 k1 g2 k2, e = .returned (.agg #[.slice (some ⟨g1, 0, none⟩) l.length k1, .slice (some ⟨g2, 0, none⟩) c.length k2]) ∧ OwnL w w' 48 4 g1 l.length k1 (l.flatMap cellsM) ∧ OwnL w w' 37 5 g2 c.length k2 (c.flatMap cellsI) ∧ g1 ≠ g2 ∧ Below w.heap.size w w'
theorem own_cut {w : World} {base : Nat} {e : TypeId} {k n m g cap : Nat} {xs ys : List Value} (h : w.ownsRow base e k (.slice (some ⟨g, 0, none⟩) n cap) n (xs ++ ys)) (hx : xs.length = m * k) (hm : m < n) : w.ownsRow base e k (.slice (some ⟨g, 0, none⟩) m cap) m xs ∧ m < cap := by
  obtain ⟨h1, h2⟩ := h
  rcases h2 with ⟨h0, _⟩ | ⟨g', cap', cur, hv, hb, hg, hn, hc, hs, ht⟩
  · cases h0
  · cases hv
    refine ⟨⟨hx, .inr ⟨_, _, cur, rfl, hb, hg, by omega, hc, hs, ?_⟩⟩, by omega⟩
    have h3 : (cur.toList.take (n * k)).take (m * k) = xs := by rw [ht, ← hx, List.take_left]
    rw [List.take_take, Nat.min_eq_left (Nat.mul_le_mul_right k (by omega))] at h3
    exact h3
theorem own_some {w : World} {base : Nat} {e : TypeId} {k n : Nat} {v : Value} {xs : List Value} (h : w.ownsRow base e k v n xs) (hn : 0 < n) : ∃ g cap, v = .slice (some ⟨g, 0, none⟩) n cap ∧ n ≤ cap ∧ base ≤ g ∧ g < w.heap.size := by
  rcases h.2 with ⟨_, h0⟩ | ⟨g, cap, cur, rfl, hb, hg, hnc, _⟩
  · omega
  · exact ⟨g, cap, rfl, hnc, hb, (Array.getElem?_eq_some_iff.1 hg).1⟩
theorem src_new4 (w : World) (a b c d : Value) (t : TypeId) : SrcP (w.heap.size + 1) (w.alloc (.cells #[a, b, c, d] t)) (some ⟨w.heap.size, 0, none⟩) [a, b, c, d] := by
  refine .inr ⟨w.heap.size, 0, rfl, by omega, fun j u hu => ?_⟩
  unfold World.cell?
  dsimp only
  rw [heap_alloc_new, Nat.zero_add]
  simpa using hu
theorem src_new5 (w : World) (a b c d e : Value) (t : TypeId) : SrcP (w.heap.size + 1) (w.alloc (.cells #[a, b, c, d, e] t)) (some ⟨w.heap.size, 0, none⟩) [a, b, c, d, e] := by
  refine .inr ⟨w.heap.size, 0, rfl, by omega, fun j u hu => ?_⟩
  unfold World.cell?
  dsimp only
  rw [heap_alloc_new, Nat.zero_add]
  simpa using hu
def Bq (w w' : World) : Prop := Below w.heap.size w w'
theorem Bq.drew {w w' : World} (h : Bq w w') : Bq w w'.drew := Below.drew h
theorem grown_below {A B : World} {row : Option Nat} (h : A.grownBy B row) {m : Nat} (hm : m ≤ A.heap.size) (hr : ∀ k, row = some k → m ≤ k) : Below m A B := ⟨h.os, h.tape, h.output, h.size, fun k hk => h.block k (by omega) (fun e => by have := hr k e.symm; omega)⟩

/-- What lies in twin's own memory. -/
def TwK (w : World) (pm pc : Option Addr) (cm cc n m : Nat) (x y : Value) (W : World) : Prop :=
  W.cell? ⟨w.heap.size, 0, none⟩ = some (.slice pm n cm) ∧ W.cell? ⟨w.heap.size, 1, none⟩ = some (.slice pc m cc) ∧ W.heap[w.heap.size + 1 + 1]? = some (.cells #[x, y] 25 (0, 0)) ∧ W.heap[w.heap.size + 1]? = some (.cells #[.slice none 0 0, .slice none 0 0] 25 (0, 0)) ∧ Bq w W
theorem TwK.grow {w : World} {pm pc : Option Addr} {cm cc n m : Nat} {x y : Value} {A B : World} {row : Option Nat} (h : TwK w pm pc cm cc n m x y A) (hg : A.grownBy B row) (hr : ∀ k, row = some k → w.heap.size + 1 + 1 + 1 ≤ k) : TwK w pm pc cm cc n m x y B := by
  obtain ⟨h1, h2, h3, h4, h5⟩ := h
  have hn : ∀ k, k < w.heap.size + 1 + 1 + 1 → some k ≠ row := fun k hk e => by have := hr k e.symm; omega
  exact ⟨hg.cell h1 (hn _ (by simp; omega)), hg.cell h2 (hn _ (by simp; omega)), (hg.block _ (Array.getElem?_eq_some_iff.1 h3).1 (hn _ (by omega))).trans h3, (hg.block _ (Array.getElem?_eq_some_iff.1 h4).1 (hn _ (by omega))).trans h4, Below.trans h5 (grown_below hg h5.size (fun k hk => by have := hr k hk; omega))⟩
theorem TwK.drew {w : World} {pm pc : Option Addr} {cm cc n m : Nat} {x y : Value} {A : World} (h : TwK w pm pc cm cc n m x y A) : TwK w pm pc cm cc n m x y A.drew := ⟨h.1, h.2.1, h.2.2.1, h.2.2.2.1, h.2.2.2.2.drew⟩
theorem TwK.x0 {w : World} {pm pc : Option Addr} {cm cc n m : Nat} {x y : Value} {A : World} (h : TwK w pm pc cm cc n m x y A) : A.cell? ⟨w.heap.size + 1 + 1, 0, none⟩ = some x := by unfold World.cell?; dsimp only; rw [h.2.2.1]; rfl
theorem TwK.x1 {w : World} {pm pc : Option Addr} {cm cc n m : Nat} {x y : Value} {A : World} (h : TwK w pm pc cm cc n m x y A) : A.cell? ⟨w.heap.size + 1 + 1, 1, none⟩ = some y := by unfold World.cell?; dsimp only; rw [h.2.2.1]; rfl
theorem TwK.fz {w : World} {pm pc : Option Addr} {cm cc n m : Nat} {x y : Value} {A : World} (h : TwK w pm pc cm cc n m x y A) (j : Nat) : A.frozen? ⟨w.heap.size + 1 + 1, j, none⟩ = false := by unfold World.frozen?; dsimp only; rw [h.2.2.1]; simp
theorem TwK.set0 {w : World} {pm pc : Option Addr} {cm cc n m : Nat} {x y : Value} {A : World} (h : TwK w pm pc cm cc n m x y A) (u : Value) : TwK w pm pc cm cc n m u y (A.setCell ⟨w.heap.size + 1 + 1, 0, none⟩ u) := by
  obtain ⟨h1, h2, h3, h4, h5⟩ := h
  refine ⟨?_, ?_, ?_, ?_, Below.setCell h5 (p := ⟨w.heap.size + 1 + 1, 0, none⟩) (by simp; omega) u⟩
  · rw [set_oth (by intro e; injection e with e1; omega)]; exact h1
  · rw [set_oth (by intro e; injection e with e1; omega)]; exact h2
  · obtain ⟨hl, hk⟩ := Array.getElem?_eq_some_iff.1 h3
    show (A.heap.modify (w.heap.size + 1 + 1) _)[w.heap.size + 1 + 1]? = _
    rw [Array.getElem?_eq_getElem (by rw [Array.size_modify]; exact hl), Array.getElem_modify_self, hk]
    rfl
  · rw [Below.heap_setCell _ _ _ _ (by simp)]; exact h4
theorem TwK.set1 {w : World} {pm pc : Option Addr} {cm cc n m : Nat} {x y : Value} {A : World} (h : TwK w pm pc cm cc n m x y A) (u : Value) : TwK w pm pc cm cc n m x u (A.setCell ⟨w.heap.size + 1 + 1, 1, none⟩ u) := by
  obtain ⟨h1, h2, h3, h4, h5⟩ := h
  refine ⟨?_, ?_, ?_, ?_, Below.setCell h5 (p := ⟨w.heap.size + 1 + 1, 1, none⟩) (by simp; omega) u⟩
  · rw [set_oth (by intro e; injection e with e1; omega)]; exact h1
  · rw [set_oth (by intro e; injection e with e1; omega)]; exact h2
  · obtain ⟨hl, hk⟩ := Array.getElem?_eq_some_iff.1 h3
    show (A.heap.modify (w.heap.size + 1 + 1) _)[w.heap.size + 1 + 1]? = _
    rw [Array.getElem?_eq_getElem (by rw [Array.size_modify]; exact hl), Array.getElem_modify_self, hk]
    rfl
  · rw [Below.heap_setCell _ _ _ _ (by simp)]; exact h4

def TwE (w : World) (pm pc : Option Addr) (cm cc n m : Nat) (W : World) : Prop := ∃ x y, TwK w pm pc cm cc n m x y W
theorem SrcP.grow {n₀ : Nat} {w w' : World} {p : Option Addr} {news : List Value} {row : Option Nat} (h : SrcP n₀ w p news) (hg : w.grownBy w' row) (hr : ∀ k, row = some k → n₀ ≤ k) : SrcP n₀ w' p news := by
  refine h.imp id ?_
  rintro ⟨b, off, e, hl, hc⟩
  exact ⟨b, off, e, hl, fun j u hu => hg.cell (hc j u hu) (fun e' => by have := hr _ e'.symm; simp at this; omega)⟩

theorem grown_set (W : World) (a : Addr) (v : Value) : W.grownBy (W.setCell a v) (some a.block) := ⟨rfl, rfl, rfl, by simp [World.setCell], fun k hk hne => Below.heap_setCell _ _ _ _ (fun e => hne (by rw [e]))⟩
theorem own_base {w : World} {b b' : Nat} {e : TypeId} {k n : Nat} {v : Value} {xs : List Value} (h : w.ownsRow b e k v n xs) (hb : b' ≤ b) : w.ownsRow b' e k v n xs := by
  refine ⟨h.1, h.2.imp id ?_⟩
  rintro ⟨g, cap, cur, h1, h2, h3⟩
  exact ⟨g, cap, cur, h1, by omega, h3⟩
def CutR (R : Act → World → Prop) : Exit → Act → World → Prop
  | .normal, a, w => R a w
  | _, _, _ => False
theorem CutR.imp {R : Act → World → Prop} {Q : Exit → Act → World → Prop} (h : ∀ a w, R a w → Q .normal a w) : ∀ e a w, CutR R e a w → Q e a w := fun e a w hr => by
  cases e <;> first | exact h a w hr | exact (hr : False).elim
theorem own_elem {w : World} {b : Nat} {e : TypeId} {k n g cap : Nat} {xs : List Value} (h : w.ownsRow b e k (.slice (some ⟨g, 0, none⟩) n cap) n xs) : (w.heap[g]?).map (fun o => match o with | .cells _ t _ => some t | _ => none) = some (some e) := by
  rcases h.2 with ⟨h0, _⟩ | ⟨g', cap', cur, hv, _, hg, _⟩
  · cases h0
  · cases hv
    rw [hg]
    rfl
theorem own_far {w w' : World} {b : Nat} {e : TypeId} {k n g cap N : Nat} {v : Value} {xs : List Value} (h : w.ownsRow b e k (.slice (some ⟨g, 0, none⟩) n cap) n xs) (hg : w.grownBy w' v.ownBlock) (hv : v.ownBlock = none ∨ v.ownBlock = some N) (hN : g < N) : w'.ownsRow b e k (.slice (some ⟨g, 0, none⟩) n cap) n xs := by
  refine h.kept hg (.inr ?_)
  intro e'
  rcases hv with h0 | h0
  · rw [h0] at e'; cases e'
  · rw [h0] at e'
    simp [Value.ownBlock] at e'
    omega

end Go.Proofs.YtdnkikgfiganaaaDoor
