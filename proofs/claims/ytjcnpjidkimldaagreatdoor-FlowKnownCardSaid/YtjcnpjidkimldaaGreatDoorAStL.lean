/-
  Long rows in blocks of the call's own: what is there, what a store leaves; zero states and views; a register, a slot put into a state. A register, a slot at its place in a state. Contract of Join.
-/
import Derived.Test.YtjcnpjidkimldaaGreatDoorAStK
import Derived.Deep.MidRow
import Derived.Deep.RegionLaw
import Derived.Lib.MinMax
namespace Go.Proofs.YtjcnpjidkimldaaGreatDoor
set_option linter.unusedSimpArgs false
set_option linter.unusedVariables false
set_option maxRecDepth 100000
set_option maxRecDepth 100000
open Go.ChangeShapes Go.WideShapes Go.ChangeAt Go.RowKit Me

theorem below_setRow {n : Nat} {a : World} (g : Nat) (hg : n ≤ g) : ∀ (vs : List Value) (o : Nat) (b : World), Below n a b → Below n a (b.setCells g o vs)
  | [], _, _, h => h
  | v :: r, o, b, h => by
    rw [World.setCells]
    exact below_setRow g hg r (o + 1) _ (h.setCell hg _)
theorem there_row (w : World) (C : Array Value) (t : TypeId) (n : Nat) (hn : n = C.size) : (w.alloc (.cells C t)).there w.heap.size 0 n := by
  intro j hj
  refine ⟨?_, ?_⟩
  · rw [cell_of_row _ _ _ C t (0, 0) (heap_alloc_last w _)]
    simp; omega
  · unfold World.frozen?
    rw [heap_alloc_last]
    simp
theorem there_stays {W W' : World} {b o n : Nat} (h : W.there b o n) (hb : b < W.heap.size) (hw : Below W.heap.size W W') : W'.there b o n := fun j hj => by
  obtain ⟨hc, hf⟩ := Me.bcell hw
  rw [hc _ _ hb, hf _ _ hb]
  exact h j hj
theorem row_res {P : Program} {fn : Func} {p : Tmp} {ty : TypeId} (h : fn.results = #[.cell p ty]) (tmps : Array Value) (W : World) (b o : Nat) (cs : List Value) (d : TypeDesc)
    (hp : tmps.getD p undef = .pointer (some ⟨b, o, none⟩)) (hr : W.rangeAt b o cs) (hu : P.underlying ty = some d) (hd : d.isRow = true) (hi : (P.info? ty).map (·.size) = some cs.length) :
    (results fn tmps).run P W = .ok (.agg cs.toArray) W := by
  have e : (results fn tmps).run P W = ((asAddr (tmps.getD p undef)).run P W).andThen fun a w1 => (loadVar ty a).run P w1 := by
    simp only [results, h]
    simp [Sem.run_bind, Result.andThen]
  rw [e, hp]
  simp [asAddr, Result.andThen, run_loadVar_mid W b o ty cs d hr hu hd hi]
/-- A block of the call's own that may be written, with its cells. -/
structure RwT (g : Nat) (w W : World) (b n : Nat) (cs : List Value) : Prop where
  i : RwI g w W b cs
  t : W.there b 0 n
theorem RwT.next {g b n : Nat} {w W W' : World} {cs : List Value} (h : RwT g w W b n cs) (hb : Below W.heap.size W W') (hg : g ≤ W.heap.size) : RwT g w W' b n cs := ⟨h.i.next hb hg, there_stays h.t h.i.sz hb⟩
theorem RwT.alloc {g b n : Nat} {w W : World} {cs : List Value} (h : RwT g w W b n cs) (hg : g ≤ W.heap.size) (o : Obj) : RwT g w (W.alloc o) b n cs := h.next ((Below.refl _ _).alloc (Nat.le_refl _) o) hg
theorem RwT.new {g n : Nat} {w W : World} {cs : List Value} (t : TypeId) (h : Below g w W) (hg : g ≤ W.heap.size) (hn : n = cs.length) : RwT g w (W.alloc (.cells cs.toArray t)) W.heap.size n cs :=
  ⟨RwI.new t h hg, there_row W cs.toArray t n (by simpa using hn)⟩
theorem heap_setRow (b : Nat) : ∀ (vs : List Value) (o : Nat) (w : World) {b' : Nat}, b' ≠ b → (w.setCells b o vs).heap[b']? = w.heap[b']?
  | [], _, _, _, _ => rfl
  | v :: r, o, w, b', h => by rw [World.setCells, heap_setRow b r (o + 1) _ h]; exact Below.heap_setCell _ _ _ _ h
theorem size_setRow (b : Nat) : ∀ (vs : List Value) (o : Nat) (w : World), (w.setCells b o vs).heap.size = w.heap.size
  | [], _, _ => rfl
  | v :: r, o, w => by rw [World.setCells, size_setRow b r (o + 1) _]; simp
theorem RwI.apart {g b c o : Nat} {w W : World} {cs vs : List Value} (h : RwI g w W b cs) (hbc : b ≠ c) (hg : g ≤ c) : RwI g w (W.setCells c o vs) b cs :=
  ⟨below_setRow c hg vs o W h.bel, by rw [size_setRow]; exact h.sz, fun j v hv => (World.cell?_of_block (w := W) (a := ⟨b, 0 + j, none⟩) (heap_setRow c vs o W hbc)).trans (h.r0 j v hv)⟩
theorem RwT.apart {g b c o n : Nat} {w W : World} {cs vs : List Value} (h : RwT g w W b n cs) (hbc : b ≠ c) (hg : g ≤ c) : RwT g w (W.setCells c o vs) b n cs := ⟨h.i.apart hbc hg, World.there_setCells h.t c o vs⟩
theorem RwT.whole {g b n : Nat} {w W : World} {cs vs : List Value} (h : RwT g w W b n cs) (hg : g ≤ b) (hn : vs.length = n) : RwT g w (W.setCells b 0 vs) b n vs :=
  ⟨⟨below_setRow b hg vs 0 W h.i.bel, by rw [size_setRow]; exact h.i.sz, World.rangeAt_setCells_same W b 0 vs (by rw [hn]; exact h.t)⟩, World.there_setCells h.t b 0 vs⟩
/-- One register, one slot put in the place of another. -/
def putRg (S : St) (k : Nat) (r : Rg) : St := ⟨fun i => if i = k then r else S.rg i, S.sk, S.p⟩
theorem st_ext {W : World} {g : Nat} {S : St} (hr : ∀ i j, i < 11 → j < 9 → W.cell? ⟨g, i * 9 + j, none⟩ = (rC (S.rg i))[j]?) (hs : ∀ i j, i < 64 → j < 10 → W.cell? ⟨g, 99 + (i * 10 + j), none⟩ = (kC (S.sk i))[j]?)
    (hp : W.cell? ⟨g, 739, none⟩ = some (.int .i64 S.p)) : W.rangeAt g 0 (stC S) := by
  intro j v hv
  have hj : j < 740 := by have := (List.getElem?_eq_some_iff.1 hv).1; rwa [stC_len] at this
  rw [Nat.zero_add]
  by_cases h1 : j < 99
  · have hd : j / 9 * 9 + j % 9 = j := by omega
    have hi : j / 9 < 11 := by omega
    have hm : j % 9 < 9 := by omega
    generalize j / 9 = i at *
    generalize j % 9 = r at *
    subst hd
    rw [stC_reg S i r hi hm] at hv
    rw [hr i r hi hm]
    exact hv
  · by_cases h2 : j < 739
    · obtain ⟨m, rfl⟩ : ∃ m, j = 99 + m := ⟨j - 99, by omega⟩
      have hd : m / 10 * 10 + m % 10 = m := by omega
      have hi : m / 10 < 64 := by omega
      have hm : m % 10 < 10 := by omega
      generalize m / 10 = i at *
      generalize m % 10 = r at *
      subst hd
      rw [stC_slot S i r hi hm] at hv
      rw [hs i r hi hm]
      exact hv
    · obtain rfl : j = 739 := by omega
      rw [stC_pkt] at hv
      rw [hp]
      exact hv
theorem cell_in {W : World} {g o n : Nat} {vs : List Value} (ht : W.there g 0 n) (hn : o + vs.length ≤ n) (r : Nat) (hr : r < vs.length) : (W.setCells g o vs).cell? ⟨g, o + r, none⟩ = vs[r]? := by
  rw [World.cell?_setCells_in g vs o W (fun k hk => by
    have := (ht (o + k) (by omega)).1
    rwa [Nat.zero_add] at this) r hr, List.getElem?_eq_getElem hr]
theorem cell_out {W : World} {g o q : Nat} {vs : List Value} (h : q < o ∨ o + vs.length ≤ q) : (W.setCells g o vs).cell? ⟨g, q, none⟩ = W.cell? ⟨g, q, none⟩ :=
  World.cell?_setCells_out _ _ _ _ _ (fun _ _ => h)
theorem st_cell_r {W : World} {g : Nat} {S : St} (hr : W.rangeAt g 0 (stC S)) (i j : Nat) (hi : i < 11) (hj : j < 9) : W.cell? ⟨g, i * 9 + j, none⟩ = (rC (S.rg i))[j]? := by
  have hl : j < (rC (S.rg i)).length := by rw [rC_len]; exact hj
  rw [range_reg hr i hi j _ (List.getElem?_eq_getElem hl), List.getElem?_eq_getElem hl]
theorem st_cell_s {W : World} {g : Nat} {S : St} (hr : W.rangeAt g 0 (stC S)) (i j : Nat) (hi : i < 64) (hj : j < 10) : W.cell? ⟨g, 99 + (i * 10 + j), none⟩ = (kC (S.sk i))[j]? := by
  have hl : j < (kC (S.sk i)).length := by rw [kC_len]; exact hj
  rw [← Nat.add_assoc, range_slot hr i hi j _ (List.getElem?_eq_getElem hl), List.getElem?_eq_getElem hl]
theorem reg_put {W : World} {g k : Nat} {S : St} {r : Rg} (hk : k < 11) (hr : W.rangeAt g 0 (stC S)) (ht : W.there g 0 740) : (W.setCells g (k * 9) (rC r)).rangeAt g 0 (stC (putRg S k r)) := by
  refine st_ext (fun i j hi hj => ?_) (fun i j hi hj => ?_) ?_
  · by_cases e : i = k
    · subst e
      have : (putRg S i r).rg i = r := by simp [putRg]
      rw [this]
      exact cell_in ht (by rw [rC_len]; omega) j (by rw [rC_len]; exact hj)
    · have : (putRg S k r).rg i = S.rg i := by simp [putRg, e]
      rw [this, cell_out (by rw [rC_len]; omega)]
      exact st_cell_r hr i j hi hj
  · rw [cell_out (by rw [rC_len]; omega)]
    exact st_cell_s hr i j hi hj
  · rw [cell_out (by rw [rC_len]; omega)]
    have := range_pkt hr
    exact this
theorem RwT.putReg {g b k : Nat} {w W : World} {S : St} {r : Rg} (h : RwT g w W b 740 (stC S)) (hk : k < 11) (hg : g ≤ b) : RwT g w (W.setCells b (k * 9) (rC r)) b 740 (stC (putRg S k r)) :=
  ⟨⟨below_setRow b hg _ _ W h.i.bel, by rw [size_setRow]; exact h.i.sz, reg_put hk h.i.r0 h.t⟩, World.there_setCells h.t b _ _⟩
theorem one_rC (r : Rg) : ∀ v ∈ rC r, v.oneCell' = true := by
  intro v hv
  simp only [rC, List.mem_cons, List.not_mem_nil, or_false] at hv
  rcases hv with rfl | rfl | rfl | rfl | rfl | rfl | rfl | rfl | rfl <;> rfl
theorem one_kC (x : Sk) : ∀ v ∈ kC x, v.oneCell' = true := by
  intro v hv
  rcases List.mem_cons.1 hv with rfl | h
  · rfl
  · exact one_rC _ v h
theorem one_stC (S : St) : ∀ v ∈ stC S, v.oneCell' = true := by
  intro v hv
  unfold stC at hv
  rcases List.mem_append.1 hv with h | h
  · obtain ⟨k, _, h⟩ := List.mem_flatMap.1 h
    exact one_rC _ v h
  · rcases List.mem_append.1 h with h | h
    · obtain ⟨k, _, h⟩ := List.mem_flatMap.1 h
      exact one_kC _ v h
    · simp only [List.mem_cons, List.not_mem_nil, or_false] at h
      rw [h]; rfl
theorem wpList_store_st {ops : Array Oper} {rest : List Oper} {op : Oper} {a : Act} {w : World} {Q : Exit → Act → World → Prop} (x y : Operand) (hgd : op.guard = none) (ho : op.op = .store 47 x y)
    (b : Nat) (S : St) (hx : a.eval x = .pointer (some ⟨b, 0, none⟩)) (hy : a.eval y = .agg (stC S).toArray) (ht : w.there b 0 740)
    (h : wpList Tryz.prog ops Q rest (a.put op.dst undef) (w.setCells b 0 (stC S))) : wpList Tryz.prog ops Q (op :: rest) a w :=
  wpList_store_mid hgd 47 x y ho b 0 (stC S).toArray hx hy (by rw [List.size_toArray, stC_len]; exact ht) (by rw [List.size_toArray, stC_len]; exact yinfo36) (all_oneCell_toArray (one_stC S)) h
theorem zs_info : (Tryz.prog.info? 47).map (fun i => (i.zero, i.size)) = some (some (stV st0), 740) := by kernel_rfl
end Go.Proofs.YtjcnpjidkimldaaGreatDoor

namespace Go.Proofs.YtjcnpjidkimldaaGreatDoor
set_option linter.unusedSimpArgs false
set_option linter.unusedVariables false
set_option maxRecDepth 100000
set_option maxRecDepth 100000
open Go.ChangeShapes Go.WideShapes Go.ChangeAt Go.RowKit Me

/-- Cells at a place of a block of the call's own. -/
structure RO (w : World) (b o : Nat) (x : Rg) : Prop where
  lt : b < w.heap.size
  c0 : w.cell? ⟨b, o, none⟩ = some (.int .u8 x.k)
  c1 : w.cell? ⟨b, o + 1, none⟩ = some (.bool x.l)
  c2 : w.cell? ⟨b, o + 2, none⟩ = some (.int .i64 x.m)
  c3 : w.cell? ⟨b, o + 3, none⟩ = some (.int .u64 (ub x.s.1.1))
  c4 : w.cell? ⟨b, o + 4, none⟩ = some (.int .u64 (ub x.s.1.2))
  c5 : w.cell? ⟨b, o + 5, none⟩ = some (.int .u64 (ub x.s.2.1))
  c6 : w.cell? ⟨b, o + 6, none⟩ = some (.int .u64 (ub x.s.2.2))
  c7 : w.cell? ⟨b, o + 7, none⟩ = some (.int .i64 x.lo)
  c8 : w.cell? ⟨b, o + 8, none⟩ = some (.int .i64 x.hi)
  f0 : w.frozen? ⟨b, o, none⟩ = false
  f1 : w.frozen? ⟨b, o + 1, none⟩ = false
  f2 : w.frozen? ⟨b, o + 2, none⟩ = false
  f3 : w.frozen? ⟨b, o + 3, none⟩ = false
  f4 : w.frozen? ⟨b, o + 4, none⟩ = false
  f5 : w.frozen? ⟨b, o + 5, none⟩ = false
  f6 : w.frozen? ⟨b, o + 6, none⟩ = false
  f7 : w.frozen? ⟨b, o + 7, none⟩ = false
  f8 : w.frozen? ⟨b, o + 8, none⟩ = false
/-- Cells at a place of a block of the call's own. -/
structure KO (w : World) (b o : Nat) (x : Sk) : Prop where
  lt : b < w.heap.size
  c0 : w.cell? ⟨b, o, none⟩ = some (.int .u8 (vb x.h))
  c1 : w.cell? ⟨b, o + 1, none⟩ = some (.int .u8 x.r.k)
  c2 : w.cell? ⟨b, o + 2, none⟩ = some (.bool x.r.l)
  c3 : w.cell? ⟨b, o + 3, none⟩ = some (.int .i64 x.r.m)
  c4 : w.cell? ⟨b, o + 4, none⟩ = some (.int .u64 (ub x.r.s.1.1))
  c5 : w.cell? ⟨b, o + 5, none⟩ = some (.int .u64 (ub x.r.s.1.2))
  c6 : w.cell? ⟨b, o + 6, none⟩ = some (.int .u64 (ub x.r.s.2.1))
  c7 : w.cell? ⟨b, o + 7, none⟩ = some (.int .u64 (ub x.r.s.2.2))
  c8 : w.cell? ⟨b, o + 8, none⟩ = some (.int .i64 x.r.lo)
  c9 : w.cell? ⟨b, o + 9, none⟩ = some (.int .i64 x.r.hi)
  f0 : w.frozen? ⟨b, o, none⟩ = false
  f1 : w.frozen? ⟨b, o + 1, none⟩ = false
  f2 : w.frozen? ⟨b, o + 2, none⟩ = false
  f3 : w.frozen? ⟨b, o + 3, none⟩ = false
  f4 : w.frozen? ⟨b, o + 4, none⟩ = false
  f5 : w.frozen? ⟨b, o + 5, none⟩ = false
  f6 : w.frozen? ⟨b, o + 6, none⟩ = false
  f7 : w.frozen? ⟨b, o + 7, none⟩ = false
  f8 : w.frozen? ⟨b, o + 8, none⟩ = false
  f9 : w.frozen? ⟨b, o + 9, none⟩ = false
theorem RwT.reg {g b k : Nat} {w W : World} {S : St} (h : RwT g w W b 740 (stC S)) (hk : k < 11) : RO W b (k * 9) (S.rg k) := by
  have r := range_reg h.i.r0 k hk
  have f : ∀ j, j < 9 → W.frozen? ⟨b, k * 9 + j, none⟩ = false := fun j hj => by
    have := (h.t (k * 9 + j) (by omega)).2
    rwa [Nat.zero_add] at this
  exact ⟨h.i.sz, r 0 _ rfl, r 1 _ rfl, r 2 _ rfl, r 3 _ rfl, r 4 _ rfl, r 5 _ rfl, r 6 _ rfl, r 7 _ rfl, r 8 _ rfl, f 0 (by decide), f 1 (by decide), f 2 (by decide), f 3 (by decide), f 4 (by decide), f 5 (by decide), f 6 (by decide), f 7 (by decide), f 8 (by decide)⟩
theorem RwT.slot {g b k : Nat} {w W : World} {S : St} (h : RwT g w W b 740 (stC S)) (hk : k < 64) : KO W b (99 + k * 10) (S.sk k) := by
  have r := range_slot h.i.r0 k hk
  have f : ∀ j, j < 10 → W.frozen? ⟨b, 99 + k * 10 + j, none⟩ = false := fun j hj => by
    have := (h.t (99 + k * 10 + j) (by omega)).2
    rwa [Nat.zero_add] at this
  exact ⟨h.i.sz, r 0 _ rfl, r 1 _ rfl, r 2 _ rfl, r 3 _ rfl, r 4 _ rfl, r 5 _ rfl, r 6 _ rfl, r 7 _ rfl, r 8 _ rfl, r 9 _ rfl, f 0 (by decide), f 1 (by decide), f 2 (by decide), f 3 (by decide), f 4 (by decide), f 5 (by decide), f 6 (by decide), f 7 (by decide), f 8 (by decide), f 9 (by decide)⟩
end Go.Proofs.YtjcnpjidkimldaaGreatDoor

namespace Go.Proofs.YtjcnpjidkimldaaGreatDoor
set_option linter.unusedSimpArgs false
set_option linter.unusedVariables false
set_option maxRecDepth 100000
set_option maxRecDepth 100000
open Go.ChangeShapes Go.WideShapes Go.ChangeAt Go.RowKit Me

theorem stC_congr {S T : St} (h1 : ∀ k, k < 11 → S.rg k = T.rg k) (h2 : ∀ k, k < 64 → S.sk k = T.sk k) (h3 : S.p = T.p) : stC S = stC T := by
  unfold stC regC stkC
  rw [h3]
  congr 1
  · rw [List.flatMap_def, List.flatMap_def]
    congr 1
    apply List.map_congr_left
    intro k hk
    rw [h1 k (List.mem_range.1 hk)]
  · congr 1
    rw [List.flatMap_def, List.flatMap_def]
    congr 1
    apply List.map_congr_left
    intro k hk
    rw [h2 k (List.mem_range.1 hk)]
end Go.Proofs.YtjcnpjidkimldaaGreatDoor
