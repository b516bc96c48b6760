/-
  The list of leads, sorted and with each number once.
-/
import Derived.Test.YtodmikjpmcabiabDoorDGrL
namespace Go.Proofs.YtodmikjpmcabiabDoor
set_option linter.unusedSimpArgs false
set_option linter.unusedVariables false
set_option maxRecDepth 100000
open Go.ChangeShapes Go.WideShapes Go.ChangeAt Go.RowKit

def s2 : List Int → List Int
  | [a, b] => if b < a then [b, a] else [a, b]
  | l => l
def c2L : List Int → List Int
  | [a, b] => if b = a then [a] else [a, b]
  | l => l
theorem s2_len (L : List Int) : (s2 L).length = L.length := by
  unfold s2
  split
  · split <;> rfl
  · rfl
theorem own_formG {w : World} {b : Nat} {e : TypeId} {k n : Nat} {v : Value} {xs : List Value} (h : w.ownsRow b e k v n xs) : (v = .slice none 0 0 ∧ n = 0) ∨ ∃ g cap, v = .slice (some ⟨g, 0, none⟩) n cap ∧ n ≤ cap := by
  rcases h.2 with ⟨a, b⟩ | ⟨g, cap, cur, a, b, c, d, _⟩
  · exact .inl ⟨a, b⟩
  · exact .inr ⟨g, cap, a, d⟩
theorem LdM.dn {w : World} {p : Option Addr} {n cap : Nat} {fv : Value} {b3 b5 b7 : Nat} {X : List (Addr × Value)} {L : List Int} {v : Value} {W : World} (h : LdM w p n cap fv b3 b5 b7 X L v W) (m : Nat) : LdM w p n cap fv b3 b5 b7 X L v (W.drewN m) :=
  h.next (below_drewN _ _ _)
theorem ldm_sort {w : World} {p : Option Addr} {n cap : Nat} {fv : Value} {b3 b5 b7 : Nat} {X : List (Addr × Value)} {L : List Int} {v : Value} {W : World} (h : LdM w p n cap fv b3 b5 b7 X L v W) (hL : L.length ≤ 2) :
    Calls Tryd.prog 39 #[v] W fun e w' => e = .returned (.tuple #[]) ∧ LdM w p n cap fv b3 b5 b7 X (s2 L) v w' := by
  rcases own_formG h.own with ⟨rfl, h0⟩ | ⟨g, cp, rfl, hcp⟩
  · have e0 : L = [] := List.eq_nil_of_length_eq_zero h0
    subst e0
    exact sort_I none 0 0 (by omega) W _ ((gsort_1 0 (by omega) _ W).mono fun e w' hh => ⟨hh.1, hh.2 ▸ h⟩)
  · have hg := h.own.lt g rfl
    match L, hL, h with
    | [], _, h => exact sort_I (some ⟨g, 0, none⟩) 0 cp (by omega) W _ ((gsort_1 0 (by omega) _ W).mono fun e w' hh => ⟨hh.1, hh.2 ▸ h⟩)
    | [a], _, h => exact sort_I (some ⟨g, 0, none⟩) 1 cp (by omega) W _ ((gsort_1 1 (by omega) _ W).mono fun e w' hh => ⟨hh.1, hh.2 ▸ h⟩)
    | [a, b], _, h =>
      have k0 : W.cell? ⟨g, 0, none⟩ = some (.int .i64 a) := by rw [h.own.cellAt 0 (by simp)]; rfl
      have k1 : W.cell? ⟨g, 1, none⟩ = some (.int .i64 b) := by rw [h.own.cellAt 1 (by simp)]; rfl
      have f0 := h.own.frozenAt 0
      have f1 := h.own.frozenAt 1
      by_cases hab : b < a
      · refine sort_I (some ⟨g, 0, none⟩) 2 cp (by omega) W _ ((gsort_2 g cp a b W k0 k1 f0 f1 hab).mono fun e w' hh => ⟨hh.1, ?_⟩)
        obtain ⟨_, m1, m2, rfl⟩ := hh
        have hs : s2 [a, b] = [b, a] := by simp [s2, hab]
        rw [hs]
        refine LdM.dn ?_ m2
        have hd := h.dn m1
        have hoth : ∀ q u, (W.drewN m1).cell? q = some u → q.block ≠ g → (((W.drewN m1).setCell ⟨g, 1, none⟩ (.int .i64 a)).setCell ⟨g, 0, none⟩ (.int .i64 b)).cell? q = some u := fun q u hc hq => by
          rw [set_oth (by intro e; exact hq (by rw [← e])), set_oth (by intro e; exact hq (by rw [← e]))]
          exact hc
        have o1 := (hd.own.stored 1 (.int .i64 a)).1
        have o2 := (o1.stored 0 (.int .i64 b)).1
        refine ⟨(hd.bel.setCell (p := ⟨g, 1, none⟩) hg.1 _).setCell (p := ⟨g, 0, none⟩) hg.1 _, hoth _ _ hd.c3 (fun e => hd.o3 (by rw [← e]; rfl)), hoth _ _ hd.c5 (fun e => hd.o5 (by rw [← e]; rfl)), hoth _ _ hd.c7 (fun e => hd.o7 (by rw [← e]; rfl)), ?_, ?_, hd.o3, hd.o5, hd.o7, hd.l7, hd.n3, hd.n5, fun q u hx => ⟨hoth _ _ (hd.ex q u hx).1 (fun e => (hd.ex q u hx).2.1 (by rw [← e]; rfl)), (hd.ex q u hx).2⟩⟩
        · rw [World.frozen?_setCell, World.frozen?_setCell]
          exact hd.f7
        · exact o2
      · refine sort_I (some ⟨g, 0, none⟩) 2 cp (by omega) W _ ((gsort_2n g cp a b W k0 k1 hab).mono fun e w' hh => ⟨hh.1, ?_⟩)
        obtain ⟨_, m1, rfl⟩ := hh
        have hs : s2 [a, b] = [a, b] := by simp [s2, hab]
        rw [hs]
        exact h.dn m1
def CpPost (w : World) (L : List Int) (e : Ending) (w' : World) : Prop := ∃ v', e = .returned v' ∧ w'.ownsRow w.heap.size 3 1 v' L.length (L.map (Value.int .i64)) ∧ Below w.heap.size w w'
theorem ldm_compact {w : World} {p : Option Addr} {n cap : Nat} {fv : Value} {b3 b5 b7 : Nat} {X : List (Addr × Value)} {L : List Int} {v : Value} {W : World} (h : LdM w p n cap fv b3 b5 b7 X L v W) (hL : L.length ≤ 2) :
    Calls Tryd.prog 40 #[v] W (CpPost w (c2L L)) := by
  rcases own_formG h.own with ⟨rfl, h0⟩ | ⟨g, cp, rfl, hcp⟩
  · have e0 : L = [] := List.eq_nil_of_length_eq_zero h0
    subst e0
    exact (compact_1 none 0 0 (by omega) W).mono fun e w' hh => ⟨_, hh.1, hh.2 ▸ h.own, hh.2 ▸ h.bel⟩
  · have hg := h.own.lt g rfl
    match L, hL, h with
    | [], _, h => exact (compact_1 (some ⟨g, 0, none⟩) 0 cp (by omega) W).mono fun e w' hh => ⟨_, hh.1, hh.2 ▸ h.own, hh.2 ▸ h.bel⟩
    | [a], _, h => exact (compact_1 (some ⟨g, 0, none⟩) 1 cp (by omega) W).mono fun e w' hh => ⟨_, hh.1, hh.2 ▸ h.own, hh.2 ▸ h.bel⟩
    | [a, b], _, h =>
      have k0 : W.cell? ⟨g, 0, none⟩ = some (.int .i64 a) := by rw [h.own.cellAt 0 (by simp)]; rfl
      have k1 : W.cell? ⟨g, 1, none⟩ = some (.int .i64 b) := by rw [h.own.cellAt 1 (by simp)]; rfl
      have f1 := h.own.frozenAt 1
      by_cases hab : b = a
      · subst hab
        refine (compact_eq g cp b W hcp k0 k1 f1).mono fun e w' hh => ?_
        obtain ⟨e1, m1, rfl⟩ := hh
        have hs : c2L [b, b] = [b] := by simp [c2L]
        rw [hs]
        have hd := h.dn m1
        have o1 := (hd.own.stored 1 (.int .i64 0)).1
        exact ⟨_, e1, (own_cut (xs := [.int .i64 b]) (ys := [.int .i64 0]) o1 rfl (by simp)).1, hd.bel.setCell (p := ⟨g, 1, none⟩) hg.1 _⟩
      · refine (compact_ne g cp a b W k0 k1 hab).mono fun e w' hh => ?_
        obtain ⟨e1, m1, rfl⟩ := hh
        have hs : c2L [a, b] = [a, b] := by simp [c2L, hab]
        rw [hs]
        exact ⟨_, e1, (h.dn m1).own, (h.dn m1).bel⟩
end Go.Proofs.YtodmikjpmcabiabDoor
