/-
  Helpers of ShapeAhead and ShapeJumps: a list of instructions cut to its first m, a literal of one instruction as a list of the call's own, an instruction written into a list of the call's own.
-/
import Derived.Test.YtdnkikgfiganaaaDoorShA
import Derived.Test.YtdnkikgfiganaaaDoorTwinH
import Derived.Laws.OwnMore
namespace Go.Proofs.YtdnkikgfiganaaaDoor
set_option linter.unusedSimpArgs false
set_option linter.unusedVariables false
open Go.ChangeShapes Go.WideShapes Go.ChangeAt Go.RowKit

theorem at5_take {c : List I5} {m j : Nat} (h : j < m) : at5 (c.take m) j = at5 c j := by
  unfold at5
  rw [List.getD_eq_getElem?_getD, List.getD_eq_getElem?_getD, List.getElem?_take, if_pos h]
theorem cd_take {n₀ : Nat} {w : World} {p : Option Addr} {n m : Nat} {c : List I5} (h : CdSl n₀ w p n c) (hm : m ≤ n) : CdSl n₀ w p m (c.take m) := by
  obtain ⟨h1, h2, h3, h4⟩ := h
  refine ⟨by rw [List.length_take]; omega, fun x hx => h2 x (List.mem_of_mem_take hx), by omega, ?_⟩
  rcases h4 with h4 | ⟨b, off, e, hb, hc⟩
  · exact .inl (by omega)
  · exact .inr ⟨b, off, e, hb, fun j hj => by rw [at5_take hj]; exact hc j (by omega)⟩
set_option maxRecDepth 100000 in
theorem code_cut {n₀ : Nat} {w : World} {p : Option Addr} {n m ck : Nat} {c : List I5} (h : CdSl n₀ w p n c) (hm : m ≤ n) (hn : n ≤ ck) (he : ∀ W, ((sizeOf (Tryd.prog.elem 23)).run Tryd.prog W) = .ok 5 W) :
    ∃ q, (∀ W, (Instr.slice 23 (.slice p n ck) none (some (.int .i64 m)) none).run Tryd.prog W = .ok (.slice q m ck) W) ∧ CdSl n₀ w q m (c.take m) := by
  refine ⟨if ck = 0 then p else p.map (·.add (0 * 5)), fun W => ?_, ?_⟩
  · rw [run_slice_h (P := Tryd.prog) (w := W) (ht := by rfl) (kh := .i64) (h := (m : Int)) (h0 := by omega) (h2 := by omega), he W]
    simp only [Result.andThen, sliced, Int.toNat_natCast, Nat.sub_zero]
  · obtain ⟨h1, h2, h3, h4⟩ := cd_take h hm
    refine ⟨h1, h2, h3, ?_⟩
    rcases h4 with h4 | ⟨b, off, e, hb, hc⟩
    · exact .inl h4
    · subst e
      refine .inr ⟨b, off, ?_, hb, hc⟩
      by_cases h0 : ck = 0
      · rw [if_pos h0]
      · rw [if_neg h0, Option.map_some, add_none]
        rfl
theorem own_lit (W : World) (base : Nat) (hb : base ≤ W.heap.size) : (W.alloc (.cells #[.int .u8 149, .int .u8 0, .int .u8 0, .int .i16 0, .int .i32 0] 37)).ownsRow base 37 5 (.slice (some ⟨W.heap.size, 0, none⟩) 1 1) 1 ([xI].flatMap cellsI) :=
  World.ownsRow_lit W _ 1 hb (by decide) rfl
theorem flat_set (x : I5) : ∀ (c : List I5) (k : Nat), k < c.length → (((((c.flatMap cellsI).set (k * 5) (.int .u8 x.op)).set (k * 5 + 1) (.int .u8 x.dst)).set (k * 5 + 2) (.int .u8 x.src)).set (k * 5 + 3) (.int .i16 x.off)).set (k * 5 + 4) (.int .i32 x.imm) = (c.set k x).flatMap cellsI
  | [], k, h => absurd h (by simp)
  | y :: c, 0, _ => by simp [cellsI]
  | y :: c, k + 1, h => by
    have ih := flat_set x c k (by simpa using h)
    rw [List.set_cons_succ, List.flatMap_cons, List.flatMap_cons, ← ih]
    have e : ∀ i, (k + 1) * 5 + i = (cellsI y).length + (k * 5 + i) := fun i => by simp [cellsI]; omega
    have e0 : (k + 1) * 5 = (cellsI y).length + k * 5 := e 0
    rw [e, e, e, e, e0]
    have hs : ∀ (a b : List Value) (j : Nat) (v : Value), (a ++ b).set (a.length + j) v = a ++ b.set j v := fun a b j v => by rw [List.set_append_right _ _ (by omega)]; simp
    rw [hs, hs, hs, hs, hs]
/-- An instruction written into a list of the call's own. -/
theorem own_set {W : World} {base g n cap k : Nat} {c : List I5} (h : W.ownsRow base 37 5 (.slice (some ⟨g, 0, none⟩) n cap) n (c.flatMap cellsI)) (hk : k < c.length) (x : I5) :
    (((((W.setCell ⟨g, k * 5, none⟩ (.int .u8 x.op)).setCell ⟨g, k * 5 + 1, none⟩ (.int .u8 x.dst)).setCell ⟨g, k * 5 + 2, none⟩ (.int .u8 x.src)).setCell ⟨g, k * 5 + 3, none⟩ (.int .i16 x.off)).setCell ⟨g, k * 5 + 4, none⟩ (.int .i32 x.imm)).ownsRow base 37 5 (.slice (some ⟨g, 0, none⟩) n cap) n ((c.set k x).flatMap cellsI) := by
  rw [← flat_set x c k hk]
  exact (((((h.stored _ _).1.stored _ _).1.stored _ _).1.stored _ _).1.stored _ _).1
end Go.Proofs.YtdnkikgfiganaaaDoor
