/-
  Long rows in blocks of the call's own: what is there, what a store leaves; zero states and views; a register, a slot put into a state. A register, a slot at its place in a state. Contract of Join.
-/
import Derived.Test.YtodmikjpmcabiaaJStK
import Derived.Deep.MidRow
import Derived.Deep.RegionLaw
import Derived.Lib.MinMax
namespace Go.Proofs.Ytodmikjpmcabiaa
set_option linter.unusedSimpArgs false
set_option linter.unusedVariables false
set_option maxRecDepth 100000
set_option maxRecDepth 100000
open Go.ChangeShapes Go.WideShapes Go.ChangeAt Go.RowKit Me

theorem below_setRow {n : Nat} {a : World} (g : Nat) (hg : n ≤ g) : ∀ (vs : List Value) (o : Nat) (b : World), Below n a b → Below n a (b.setCells g o vs)
  | [], _, _, h => h
  | v :: r, o, b, h => by
    rw [World.setCells]
    exact below_setRow g hg r (o + 1) _ (h.setCell hg _)
theorem there_row (w : World) (C : Array Value) (t : TypeId) (n : Nat) (hn : n = C.size) : (w.alloc (.cells C t)).there w.heap.size 0 n := by
  intro j hj
  refine ⟨?_, ?_⟩
  · rw [cell_of_row _ _ _ C t (0, 0) (heap_alloc_last w _)]
    simp; omega
  · unfold World.frozen?
    rw [heap_alloc_last]
    simp
theorem there_stays {W W' : World} {b o n : Nat} (h : W.there b o n) (hb : b < W.heap.size) (hw : Below W.heap.size W W') : W'.there b o n := fun j hj => by
  obtain ⟨hc, hf⟩ := Me.bcell hw
  rw [hc _ _ hb, hf _ _ hb]
  exact h j hj
theorem row_res {P : Program} {fn : Func} {p : Tmp} {ty : TypeId} (h : fn.results = #[.cell p ty]) (tmps : Array Value) (W : World) (b o : Nat) (cs : List Value) (d : TypeDesc)
    (hp : tmps.getD p undef = .pointer (some ⟨b, o, none⟩)) (hr : W.rangeAt b o cs) (hu : P.underlying ty = some d) (hd : d.isRow = true) (hi : (P.info? ty).map (·.size) = some cs.length) :
    (results fn tmps).run P W = .ok (.agg cs.toArray) W := by
  have e : (results fn tmps).run P W = ((asAddr (tmps.getD p undef)).run P W).andThen fun a w1 => (loadVar ty a).run P w1 := by
    simp only [results, h]
    simp [Sem.run_bind, Result.andThen]
  rw [e, hp]
  simp [asAddr, Result.andThen, run_loadVar_mid W b o ty cs d hr hu hd hi]
/-- A block of the call's own that may be written, with its cells. -/
structure RwT (g : Nat) (w W : World) (b n : Nat) (cs : List Value) : Prop where
  i : RwI g w W b cs
  t : W.there b 0 n
theorem RwT.next {g b n : Nat} {w W W' : World} {cs : List Value} (h : RwT g w W b n cs) (hb : Below W.heap.size W W') (hg : g ≤ W.heap.size) : RwT g w W' b n cs := ⟨h.i.next hb hg, there_stays h.t h.i.sz hb⟩
theorem RwT.alloc {g b n : Nat} {w W : World} {cs : List Value} (h : RwT g w W b n cs) (hg : g ≤ W.heap.size) (o : Obj) : RwT g w (W.alloc o) b n cs := h.next ((Below.refl _ _).alloc (Nat.le_refl _) o) hg
theorem RwT.new {g n : Nat} {w W : World} {cs : List Value} (t : TypeId) (h : Below g w W) (hg : g ≤ W.heap.size) (hn : n = cs.length) : RwT g w (W.alloc (.cells cs.toArray t)) W.heap.size n cs :=
  ⟨RwI.new t h hg, there_row W cs.toArray t n (by simpa using hn)⟩
theorem heap_setRow (b : Nat) : ∀ (vs : List Value) (o : Nat) (w : World) {b' : Nat}, b' ≠ b → (w.setCells b o vs).heap[b']? = w.heap[b']?
  | [], _, _, _, _ => rfl
  | v :: r, o, w, b', h => by rw [World.setCells, heap_setRow b r (o + 1) _ h]; exact Below.heap_setCell _ _ _ _ h
theorem size_setRow (b : Nat) : ∀ (vs : List Value) (o : Nat) (w : World), (w.setCells b o vs).heap.size = w.heap.size
  | [], _, _ => rfl
  | v :: r, o, w => by rw [World.setCells, size_setRow b r (o + 1) _]; simp
theorem RwI.apart {g b c o : Nat} {w W : World} {cs vs : List Value} (h : RwI g w W b cs) (hbc : b ≠ c) (hg : g ≤ c) : RwI g w (W.setCells c o vs) b cs :=
  ⟨below_setRow c hg vs o W h.bel, by rw [size_setRow]; exact h.sz, fun j v hv => (World.cell?_of_block (w := W) (a := ⟨b, 0 + j, none⟩) (heap_setRow c vs o W hbc)).trans (h.r0 j v hv)⟩
theorem RwT.apart {g b c o n : Nat} {w W : World} {cs vs : List Value} (h : RwT g w W b n cs) (hbc : b ≠ c) (hg : g ≤ c) : RwT g w (W.setCells c o vs) b n cs := ⟨h.i.apart hbc hg, World.there_setCells h.t c o vs⟩
theorem RwT.whole {g b n : Nat} {w W : World} {cs vs : List Value} (h : RwT g w W b n cs) (hg : g ≤ b) (hn : vs.length = n) : RwT g w (W.setCells b 0 vs) b n vs :=
  ⟨⟨below_setRow b hg vs 0 W h.i.bel, by rw [size_setRow]; exact h.i.sz, World.rangeAt_setCells_same W b 0 vs (by rw [hn]; exact h.t)⟩, World.there_setCells h.t b 0 vs⟩
/-- One register, one slot put in the place of another. -/
def putRg (S : St) (k : Nat) (r : Rg) : St := ⟨fun i => if i = k then r else S.rg i, S.sk, S.p⟩
def putSk (S : St) (k : Nat) (x : Sk) : St := ⟨S.rg, fun i => if i = k then x else S.sk i, S.p⟩
theorem st_ext {W : World} {g : Nat} {S : St} (hr : ∀ i j, i < 11 → j < 9 → W.cell? ⟨g, i * 9 + j, none⟩ = (rC (S.rg i))[j]?) (hs : ∀ i j, i < 64 → j < 10 → W.cell? ⟨g, 99 + (i * 10 + j), none⟩ = (kC (S.sk i))[j]?)
    (hp : W.cell? ⟨g, 739, none⟩ = some (.int .i64 S.p)) : W.rangeAt g 0 (stC S) := by
  intro j v hv
  have hj : j < 740 := by have := (List.getElem?_eq_some_iff.1 hv).1; rwa [stC_len] at this
  rw [Nat.zero_add]
  by_cases h1 : j < 99
  · have hd : j / 9 * 9 + j % 9 = j := by omega
    have hi : j / 9 < 11 := by omega
    have hm : j % 9 < 9 := by omega
    generalize j / 9 = i at *
    generalize j % 9 = r at *
    subst hd
    rw [stC_reg S i r hi hm] at hv
    rw [hr i r hi hm]
    exact hv
  · by_cases h2 : j < 739
    · obtain ⟨m, rfl⟩ : ∃ m, j = 99 + m := ⟨j - 99, by omega⟩
      have hd : m / 10 * 10 + m % 10 = m := by omega
      have hi : m / 10 < 64 := by omega
      have hm : m % 10 < 10 := by omega
      generalize m / 10 = i at *
      generalize m % 10 = r at *
      subst hd
      rw [stC_slot S i r hi hm] at hv
      rw [hs i r hi hm]
      exact hv
    · obtain rfl : j = 739 := by omega
      rw [stC_pkt] at hv
      rw [hp]
      exact hv
theorem cell_in {W : World} {g o n : Nat} {vs : List Value} (ht : W.there g 0 n) (hn : o + vs.length ≤ n) (r : Nat) (hr : r < vs.length) : (W.setCells g o vs).cell? ⟨g, o + r, none⟩ = vs[r]? := by
  rw [World.cell?_setCells_in g vs o W (fun k hk => by
    have := (ht (o + k) (by omega)).1
    rwa [Nat.zero_add] at this) r hr, List.getElem?_eq_getElem hr]
theorem cell_out {W : World} {g o q : Nat} {vs : List Value} (h : q < o ∨ o + vs.length ≤ q) : (W.setCells g o vs).cell? ⟨g, q, none⟩ = W.cell? ⟨g, q, none⟩ :=
  World.cell?_setCells_out _ _ _ _ _ (fun _ _ => h)
theorem st_cell_r {W : World} {g : Nat} {S : St} (hr : W.rangeAt g 0 (stC S)) (i j : Nat) (hi : i < 11) (hj : j < 9) : W.cell? ⟨g, i * 9 + j, none⟩ = (rC (S.rg i))[j]? := by
  have hl : j < (rC (S.rg i)).length := by rw [rC_len]; exact hj
  rw [range_reg hr i hi j _ (List.getElem?_eq_getElem hl), List.getElem?_eq_getElem hl]
theorem st_cell_s {W : World} {g : Nat} {S : St} (hr : W.rangeAt g 0 (stC S)) (i j : Nat) (hi : i < 64) (hj : j < 10) : W.cell? ⟨g, 99 + (i * 10 + j), none⟩ = (kC (S.sk i))[j]? := by
  have hl : j < (kC (S.sk i)).length := by rw [kC_len]; exact hj
  rw [← Nat.add_assoc, range_slot hr i hi j _ (List.getElem?_eq_getElem hl), List.getElem?_eq_getElem hl]
theorem reg_put {W : World} {g k : Nat} {S : St} {r : Rg} (hk : k < 11) (hr : W.rangeAt g 0 (stC S)) (ht : W.there g 0 740) : (W.setCells g (k * 9) (rC r)).rangeAt g 0 (stC (putRg S k r)) := by
  refine st_ext (fun i j hi hj => ?_) (fun i j hi hj => ?_) ?_
  · by_cases e : i = k
    · subst e
      have : (putRg S i r).rg i = r := by simp [putRg]
      rw [this]
      exact cell_in ht (by rw [rC_len]; omega) j (by rw [rC_len]; exact hj)
    · have : (putRg S k r).rg i = S.rg i := by simp [putRg, e]
      rw [this, cell_out (by rw [rC_len]; omega)]
      exact st_cell_r hr i j hi hj
  · rw [cell_out (by rw [rC_len]; omega)]
    exact st_cell_s hr i j hi hj
  · rw [cell_out (by rw [rC_len]; omega)]
    have := range_pkt hr
    exact this
theorem slot_put {W : World} {g k : Nat} {S : St} {x : Sk} (hk : k < 64) (hr : W.rangeAt g 0 (stC S)) (ht : W.there g 0 740) : (W.setCells g (99 + k * 10) (kC x)).rangeAt g 0 (stC (putSk S k x)) := by
  refine st_ext (fun i j hi hj => ?_) (fun i j hi hj => ?_) ?_
  · rw [cell_out (by rw [kC_len]; omega)]
    exact st_cell_r hr i j hi hj
  · by_cases e : i = k
    · subst e
      have : (putSk S i x).sk i = x := by simp [putSk]
      rw [this, ← Nat.add_assoc]
      exact cell_in ht (by rw [kC_len]; omega) j (by rw [kC_len]; exact hj)
    · have : (putSk S k x).sk i = S.sk i := by simp [putSk, e]
      rw [this, cell_out (by rw [kC_len]; omega)]
      exact st_cell_s hr i j hi hj
  · rw [cell_out (by rw [kC_len]; omega)]
    have := range_pkt hr
    exact this
theorem pkt_put {W : World} {g : Nat} {S : St} {p : Int} (hr : W.rangeAt g 0 (stC S)) (ht : W.there g 0 740) : (W.setCells g 739 [.int .i64 p]).rangeAt g 0 (stC ⟨S.rg, S.sk, p⟩) := by
  refine st_ext (fun i j hi hj => ?_) (fun i j hi hj => ?_) ?_
  · rw [cell_out (by simp; omega)]
    exact st_cell_r hr i j hi hj
  · rw [cell_out (by simp; omega)]
    exact st_cell_s hr i j hi hj
  · exact cell_in (vs := [.int .i64 p]) (o := 739) ht (by simp) 0 (by simp)
theorem RwT.putReg {g b k : Nat} {w W : World} {S : St} {r : Rg} (h : RwT g w W b 740 (stC S)) (hk : k < 11) (hg : g ≤ b) : RwT g w (W.setCells b (k * 9) (rC r)) b 740 (stC (putRg S k r)) :=
  ⟨⟨below_setRow b hg _ _ W h.i.bel, by rw [size_setRow]; exact h.i.sz, reg_put hk h.i.r0 h.t⟩, World.there_setCells h.t b _ _⟩
theorem RwT.putSlot {g b k : Nat} {w W : World} {S : St} {x : Sk} (h : RwT g w W b 740 (stC S)) (hk : k < 64) (hg : g ≤ b) : RwT g w (W.setCells b (99 + k * 10) (kC x)) b 740 (stC (putSk S k x)) :=
  ⟨⟨below_setRow b hg _ _ W h.i.bel, by rw [size_setRow]; exact h.i.sz, slot_put hk h.i.r0 h.t⟩, World.there_setCells h.t b _ _⟩
theorem RwT.putPkt {g b : Nat} {w W : World} {S : St} {p : Int} (h : RwT g w W b 740 (stC S)) (hg : g ≤ b) : RwT g w (W.setCells b 739 [.int .i64 p]) b 740 (stC ⟨S.rg, S.sk, p⟩) :=
  ⟨⟨below_setRow b hg _ _ W h.i.bel, by rw [size_setRow]; exact h.i.sz, pkt_put h.i.r0 h.t⟩, World.there_setCells h.t b _ _⟩
theorem one_rC (r : Rg) : ∀ v ∈ rC r, v.oneCell' = true := by
  intro v hv
  simp only [rC, List.mem_cons, List.not_mem_nil, or_false] at hv
  rcases hv with rfl | rfl | rfl | rfl | rfl | rfl | rfl | rfl | rfl <;> rfl
theorem one_kC (x : Sk) : ∀ v ∈ kC x, v.oneCell' = true := by
  intro v hv
  rcases List.mem_cons.1 hv with rfl | h
  · rfl
  · exact one_rC _ v h
theorem one_stC (S : St) : ∀ v ∈ stC S, v.oneCell' = true := by
  intro v hv
  unfold stC at hv
  rcases List.mem_append.1 hv with h | h
  · obtain ⟨k, _, h⟩ := List.mem_flatMap.1 h
    exact one_rC _ v h
  · rcases List.mem_append.1 h with h | h
    · obtain ⟨k, _, h⟩ := List.mem_flatMap.1 h
      exact one_kC _ v h
    · simp only [List.mem_cons, List.not_mem_nil, or_false] at h
      rw [h]; rfl
theorem wpList_store_st {ops : Array Oper} {rest : List Oper} {op : Oper} {a : Act} {w : World} {Q : Exit → Act → World → Prop} (x y : Operand) (hgd : op.guard = none) (ho : op.op = .store 36 x y)
    (b : Nat) (S : St) (hx : a.eval x = .pointer (some ⟨b, 0, none⟩)) (hy : a.eval y = .agg (stC S).toArray) (ht : w.there b 0 740)
    (h : wpList Try.prog ops Q rest (a.put op.dst undef) (w.setCells b 0 (stC S))) : wpList Try.prog ops Q (op :: rest) a w :=
  wpList_store_mid hgd 36 x y ho b 0 (stC S).toArray hx hy (by rw [List.size_toArray, stC_len]; exact ht) (by rw [List.size_toArray, stC_len]; exact yinfo36) (all_oneCell_toArray (one_stC S)) h
theorem zs_info : (Try.prog.info? 36).map (fun i => (i.zero, i.size)) = some (some (stV st0), 740) := by kernel_rfl
theorem bld_s0 (W : World) : (Instr.build 36 #[]).run Try.prog W = .ok (stV st0) W := by
  have hz := (zero_of_info zs_info).1 W
  obtain ⟨i1, e1⟩ := Option.isSome_iff_exists.1 (show (Try.prog.info? 31).isSome = true by kernel_rfl)
  obtain ⟨i2, e2⟩ := Option.isSome_iff_exists.1 (show (Try.prog.info? 34).isSome = true by kernel_rfl)
  obtain ⟨i3, e3⟩ := Option.isSome_iff_exists.1 (show (Try.prog.info? 3).isSome = true by kernel_rfl)
  unfold Instr.build
  rw [Sem.run_bind, hz]
  simp [Instr.fill, run_underlying Try.underlying36, sizeOf, typeInfo, stV, e1, e2, e3, Result.andThen, Value.cells]
end Go.Proofs.Ytodmikjpmcabiaa

namespace Go.Proofs.Ytodmikjpmcabiaa
set_option linter.unusedSimpArgs false
set_option linter.unusedVariables false
set_option maxRecDepth 100000
set_option maxRecDepth 100000
open Go.ChangeShapes Go.WideShapes Go.ChangeAt Go.RowKit Me

/-- Cells at a place of a block of the call's own. -/
structure RO (w : World) (b o : Nat) (x : Rg) : Prop where
  lt : b < w.heap.size
  c0 : w.cell? ⟨b, o, none⟩ = some (.int .u8 x.k)
  c1 : w.cell? ⟨b, o + 1, none⟩ = some (.bool x.l)
  c2 : w.cell? ⟨b, o + 2, none⟩ = some (.int .i64 x.m)
  c3 : w.cell? ⟨b, o + 3, none⟩ = some (.int .u64 (ub x.s.1.1))
  c4 : w.cell? ⟨b, o + 4, none⟩ = some (.int .u64 (ub x.s.1.2))
  c5 : w.cell? ⟨b, o + 5, none⟩ = some (.int .u64 (ub x.s.2.1))
  c6 : w.cell? ⟨b, o + 6, none⟩ = some (.int .u64 (ub x.s.2.2))
  c7 : w.cell? ⟨b, o + 7, none⟩ = some (.int .i64 x.lo)
  c8 : w.cell? ⟨b, o + 8, none⟩ = some (.int .i64 x.hi)
  f0 : w.frozen? ⟨b, o, none⟩ = false
  f1 : w.frozen? ⟨b, o + 1, none⟩ = false
  f2 : w.frozen? ⟨b, o + 2, none⟩ = false
  f3 : w.frozen? ⟨b, o + 3, none⟩ = false
  f4 : w.frozen? ⟨b, o + 4, none⟩ = false
  f5 : w.frozen? ⟨b, o + 5, none⟩ = false
  f6 : w.frozen? ⟨b, o + 6, none⟩ = false
  f7 : w.frozen? ⟨b, o + 7, none⟩ = false
  f8 : w.frozen? ⟨b, o + 8, none⟩ = false
/-- Cells at a place of a block of the call's own. -/
structure KO (w : World) (b o : Nat) (x : Sk) : Prop where
  lt : b < w.heap.size
  c0 : w.cell? ⟨b, o, none⟩ = some (.int .u8 (vb x.h))
  c1 : w.cell? ⟨b, o + 1, none⟩ = some (.int .u8 x.r.k)
  c2 : w.cell? ⟨b, o + 2, none⟩ = some (.bool x.r.l)
  c3 : w.cell? ⟨b, o + 3, none⟩ = some (.int .i64 x.r.m)
  c4 : w.cell? ⟨b, o + 4, none⟩ = some (.int .u64 (ub x.r.s.1.1))
  c5 : w.cell? ⟨b, o + 5, none⟩ = some (.int .u64 (ub x.r.s.1.2))
  c6 : w.cell? ⟨b, o + 6, none⟩ = some (.int .u64 (ub x.r.s.2.1))
  c7 : w.cell? ⟨b, o + 7, none⟩ = some (.int .u64 (ub x.r.s.2.2))
  c8 : w.cell? ⟨b, o + 8, none⟩ = some (.int .i64 x.r.lo)
  c9 : w.cell? ⟨b, o + 9, none⟩ = some (.int .i64 x.r.hi)
  f0 : w.frozen? ⟨b, o, none⟩ = false
  f1 : w.frozen? ⟨b, o + 1, none⟩ = false
  f2 : w.frozen? ⟨b, o + 2, none⟩ = false
  f3 : w.frozen? ⟨b, o + 3, none⟩ = false
  f4 : w.frozen? ⟨b, o + 4, none⟩ = false
  f5 : w.frozen? ⟨b, o + 5, none⟩ = false
  f6 : w.frozen? ⟨b, o + 6, none⟩ = false
  f7 : w.frozen? ⟨b, o + 7, none⟩ = false
  f8 : w.frozen? ⟨b, o + 8, none⟩ = false
  f9 : w.frozen? ⟨b, o + 9, none⟩ = false
theorem RwT.reg {g b k : Nat} {w W : World} {S : St} (h : RwT g w W b 740 (stC S)) (hk : k < 11) : RO W b (k * 9) (S.rg k) := by
  have r := range_reg h.i.r0 k hk
  have f : ∀ j, j < 9 → W.frozen? ⟨b, k * 9 + j, none⟩ = false := fun j hj => by
    have := (h.t (k * 9 + j) (by omega)).2
    rwa [Nat.zero_add] at this
  exact ⟨h.i.sz, r 0 _ rfl, r 1 _ rfl, r 2 _ rfl, r 3 _ rfl, r 4 _ rfl, r 5 _ rfl, r 6 _ rfl, r 7 _ rfl, r 8 _ rfl, f 0 (by decide), f 1 (by decide), f 2 (by decide), f 3 (by decide), f 4 (by decide), f 5 (by decide), f 6 (by decide), f 7 (by decide), f 8 (by decide)⟩
theorem RwT.slot {g b k : Nat} {w W : World} {S : St} (h : RwT g w W b 740 (stC S)) (hk : k < 64) : KO W b (99 + k * 10) (S.sk k) := by
  have r := range_slot h.i.r0 k hk
  have f : ∀ j, j < 10 → W.frozen? ⟨b, 99 + k * 10 + j, none⟩ = false := fun j hj => by
    have := (h.t (99 + k * 10 + j) (by omega)).2
    rwa [Nat.zero_add] at this
  exact ⟨h.i.sz, r 0 _ rfl, r 1 _ rfl, r 2 _ rfl, r 3 _ rfl, r 4 _ rfl, r 5 _ rfl, r 6 _ rfl, r 7 _ rfl, r 8 _ rfl, r 9 _ rfl, f 0 (by decide), f 1 (by decide), f 2 (by decide), f 3 (by decide), f 4 (by decide), f 5 (by decide), f 6 (by decide), f 7 (by decide), f 8 (by decide), f 9 (by decide)⟩
end Go.Proofs.Ytodmikjpmcabiaa

namespace Go.Proofs.Ytodmikjpmcabiaa
set_option linter.unusedSimpArgs false
set_option linter.unusedVariables false
set_option maxRecDepth 100000
set_option maxRecDepth 100000
open Go.ChangeShapes Go.WideShapes Go.ChangeAt Go.RowKit Me

def mixR (A B : St) (k : Nat) : St := ⟨fun i => if i < k then rJoin (A.rg i) (B.rg i) else A.rg i, A.sk, A.p⟩
def mixK (A B : St) (k : Nat) : St := ⟨fun i => rJoin (A.rg i) (B.rg i), fun i => if i < k then kJoin (A.sk i) (B.sk i) else A.sk i, A.p⟩
theorem stC_congr {S T : St} (h1 : ∀ k, k < 11 → S.rg k = T.rg k) (h2 : ∀ k, k < 64 → S.sk k = T.sk k) (h3 : S.p = T.p) : stC S = stC T := by
  unfold stC regC stkC
  rw [h3]
  congr 1
  · rw [List.flatMap_def, List.flatMap_def]
    congr 1
    apply List.map_congr_left
    intro k hk
    rw [h1 k (List.mem_range.1 hk)]
  · congr 1
    rw [List.flatMap_def, List.flatMap_def]
    congr 1
    apply List.map_congr_left
    intro k hk
    rw [h2 k (List.mem_range.1 hk)]
theorem mixR_step (A B : St) (k : Nat) : putRg (mixR A B k) k (rJoin (A.rg k) (B.rg k)) = mixR A B (k + 1) := by
  unfold putRg mixR
  congr 1
  funext i
  by_cases h : i = k
  · subst h; simp
  · by_cases h2 : i < k
    · simp [h, h2, Nat.lt_succ_of_lt h2]
    · simp [h, h2, show ¬ i < k + 1 by omega]
theorem mixK_step (A B : St) (k : Nat) : putSk (mixK A B k) k (kJoin (A.sk k) (B.sk k)) = mixK A B (k + 1) := by
  unfold putSk mixK
  congr 1
  funext i
  by_cases h : i = k
  · subst h; simp
  · by_cases h2 : i < k
    · simp [h, h2, Nat.lt_succ_of_lt h2]
    · simp [h, h2, show ¬ i < k + 1 by omega]
theorem mixR_zero (A B : St) : stC (mixR A B 0) = stC A := stC_congr (fun k _ => by simp [mixR]) (fun k _ => rfl) rfl
theorem mixR_all (A B : St) : stC (mixR A B 11) = stC (mixK A B 0) := stC_congr (fun k hk => by simp [mixR, mixK, hk]) (fun k _ => by simp [mixK, mixR]) rfl
theorem mixK_all (A B : St) (p : Int) : stC ⟨(mixK A B 64).rg, (mixK A B 64).sk, p⟩ = stC ⟨fun k => rJoin (A.rg k) (B.rg k), fun k => kJoin (A.sk k) (B.sk k), p⟩ := stC_congr (fun k _ => rfl) (fun k hk => by simp [mixK, hk]) rfl
theorem mixR_at (A B : St) (k : Nat) : (mixR A B k).rg k = A.rg k := by simp [mixR]
theorem mixK_at (A B : St) (k : Nat) : (mixK A B k).sk k = A.sk k := by simp [mixK]
theorem sJoin_StOk {A B : St} (hA : StOk A) (hB : StOk B) : StOk (sJoin A B) := by
  unfold sJoin
  split
  · refine ⟨fun k hk => rJoin_ROk (hA.1 k hk) (hB.1 k hk), fun k hk => ?_, ?_⟩
    · show ROk (kJoin (A.sk k) (B.sk k)).r
      unfold kJoin
      split
      · exact r0_ok
      · exact rJoin_ROk (hA.2.1 k hk) (hB.2.1 k hk)
    · have h1 := hA.2.2
      have h2 := hB.2.2
      dsimp only
      omega
  · exact ⟨fun _ _ => r0_ok, fun _ _ => r0_ok, by show -9223372036854775808 ≤ (0 : Int) ∧ (0 : Int) < 9223372036854775808; decide⟩
theorem st_entry {w : World} {A B : St} : RwT w.heap.size w (((w.alloc (.cells (stC A).toArray 36)).alloc (.cells (stC B).toArray 36)).alloc (.cells (stC st0).toArray 36)) w.heap.size 740 (stC A) ∧
    RwT w.heap.size w (((w.alloc (.cells (stC A).toArray 36)).alloc (.cells (stC B).toArray 36)).alloc (.cells (stC st0).toArray 36)) (w.heap.size + 1) 740 (stC B) ∧
    RwT w.heap.size w (((w.alloc (.cells (stC A).toArray 36)).alloc (.cells (stC B).toArray 36)).alloc (.cells (stC st0).toArray 36)) (w.heap.size + 1 + 1) 740 (stC st0) := by
  have a := RwT.new (g := w.heap.size) (n := 740) (w := w) (W := w) (cs := stC A) 36 (Below.refl _ _) (Nat.le_refl _) (by rw [stC_len])
  have b := RwT.new (g := w.heap.size) (n := 740) (w := w) (cs := stC B) 36 a.i.bel (by simp) (by rw [stC_len])
  have c := RwT.new (g := w.heap.size) (n := 740) (w := w) (cs := stC st0) 36 b.i.bel (by simp; omega) (by rw [stC_len])
  refine ⟨(a.alloc (by simp) _).alloc (by simp; omega) _, ?_, ?_⟩
  · have := b.alloc (by simp; omega) (.cells (stC st0).toArray 36)
    simpa using this
  · simpa using c
set_option maxHeartbeats 16000000 in
theorem uJoin_any (A B : St) (hA : StOk A) (hB : StOk B) (w : World) : Calls Try.prog 7 #[stV A, stV B] w fun e w' => e = .returned (stV (sJoin A B)) ∧ Below w.heap.size w w' := by
  have HM : Hid (∀ W, Calls Try.prog 31 #[.agg (stC A).toArray] W fun e w' => e = .returned (.bool (sMay A)) ∧ Below W.heap.size W w') := fun W => uMay_any A hA W
  have HN : Hid (∀ W, Calls Try.prog 31 #[.agg (stC B).toArray] W fun e w' => e = .returned (.bool (sMay B)) ∧ Below W.heap.size W w') := fun W => uMay_any B hB W
  have hia : Hid ((Try.prog.info? 36).map (·.size) = some (stC A).length) := hid (by rw [stC_len]; exact yinfo36)
  have hib : Hid ((Try.prog.info? 36).map (·.size) = some (stC B).length) := hid (by rw [stC_len]; exact yinfo36)
  have HR : Hid (∀ k, k < 11 → ∀ W, Calls Try.prog 32 #[rV (A.rg k), rV (B.rg k)] W fun e w' => e = .returned (rV (rJoin (A.rg k) (B.rg k))) ∧ Below W.heap.size W w') := fun k hk W => regJoin_any (A.rg k) (B.rg k) (hA.1 k hk) (hB.1 k hk) W
  have HK : Hid (∀ k, k < 64 → ∀ W, Calls Try.prog 33 #[kV (A.sk k), kV (B.sk k)] W fun e w' => e = .returned (kV (kJoin (A.sk k) (B.sk k))) ∧ Below W.heap.size W w') := fun k hk W => kJoin_any (A.sk k) (B.sk k) (hA.2.1 k hk) (hB.2.1 k hk) W
  have ZF0 := (zero_of_info zs_info).1
  have ZF : ∀ w, (zeroValue 36).run Try.prog w = .ok (.agg (stC st0).toArray) w := ZF0
  have BS : ∀ w, (Instr.build 36 #[]).run Try.prog w = .ok (.agg (stC st0).toArray) w := bld_s0
  obtain ⟨IA0, IB0, IR0⟩ := st_entry (w := w) (A := A) (B := B)
  have hr : sJoin A B = if (sMay A && sMay B) = true then ⟨fun k => rJoin (A.rg k) (B.rg k), fun k => kJoin (A.sk k) (B.sk k), min A.p B.p⟩ else st0 := rfl
  generalize hRR : sJoin A B = R at hr ⊢
  clear hA hB hRR ZF0
  unfold stV
  obtain ⟨CF, hCF⟩ : ∃ CF, (stC A).toArray = CF := ⟨_, rfl⟩
  obtain ⟨CG, hCG⟩ : ∃ CF, (stC B).toArray = CF := ⟨_, rfl⟩
  obtain ⟨CZ, hCZ⟩ : ∃ CF, (stC st0).toArray = CF := ⟨_, rfl⟩
  rw [hCF, hCG, hCZ] at IA0 IB0 IR0
  rw [hCF, hCG]
  rw [hCZ] at ZF BS
  replace hCZ := hid hCZ
  replace IA0 := hid IA0
  replace IB0 := hid IB0
  replace IR0 := hid IR0
  clear hCF hCG
  cases hsm : sMay A
  · rw [hsm] at HM hr
    rw [Bool.false_and, if_neg (by decide)] at hr
    subst hr
    clear hsm
    go_enter Try.func7, Try.ntmps7
    go_wp2_with ((with_reducible refine at_load 36 ?_); refine wpList_load_g (by rfl) 36 _ rfl w.heap.size (0) rfl (stC A) _ IA0.out.i.r0 Try.underlying36 rfl hia.out ?_)
    refine (HM.out _).mono ?_
    rintro e w1 ⟨rfl, b1⟩
    have I1 := hid (IR0.out.next b1 (by simp; omega))
    clear b1
    go_wp2_with ((with_reducible refine at_store 36 ?_); refine wpList_store_st _ _ rfl rfl (w.heap.size + 1 + 1) st0 rfl (by exact congrArg _ hCZ.out.symm) I1.out.t ?_)
    have I2 := I1.out.whole (vs := stC st0) (by omega) (stC_len _)
    exact bodyPost_ret (row_res rfl _ _ (w.heap.size + 1 + 1) 0 (stC st0) _ rfl I2.i.r0 Try.underlying36 rfl (by rw [stC_len]; exact yinfo36)) rfl ⟨rfl, I2.i.bel⟩
  rw [hsm] at HM
  cases hsn : sMay B
  · rw [hsn] at HN hr
    rw [Bool.and_false, if_neg (by decide)] at hr
    subst hr
    clear hsm hsn
    go_enter Try.func7, Try.ntmps7
    go_wp2_with ((with_reducible refine at_load 36 ?_); refine wpList_load_g (by rfl) 36 _ rfl w.heap.size (0) rfl (stC A) _ IA0.out.i.r0 Try.underlying36 rfl hia.out ?_)
    refine (HM.out _).mono ?_
    rintro e w1 ⟨rfl, b1⟩
    have J1 := hid (IB0.out.next b1 (by simp; omega))
    have I0 := hid (IR0.out.next b1 (by simp; omega))
    clear b1
    go_wp2_with ((with_reducible refine at_load 36 ?_); refine wpList_load_g (by rfl) 36 _ rfl (w.heap.size + 1) (0) rfl (stC B) _ J1.out.i.r0 Try.underlying36 rfl hib.out ?_)
    refine (HN.out _).mono ?_
    rintro e w2 ⟨rfl, b1⟩
    have I1 := hid (I0.out.next b1 (by have := J1.out.i.bel.size; omega))
    clear b1
    go_wp2_with ((with_reducible refine at_store 36 ?_); refine wpList_store_st _ _ rfl rfl (w.heap.size + 1 + 1) st0 rfl (by exact congrArg _ hCZ.out.symm) I1.out.t ?_)
    have I2 := I1.out.whole (vs := stC st0) (by omega) (stC_len _)
    exact bodyPost_ret (row_res rfl _ _ (w.heap.size + 1 + 1) 0 (stC st0) _ rfl I2.i.r0 Try.underlying36 rfl (by rw [stC_len]; exact yinfo36)) rfl ⟨rfl, I2.i.bel⟩
  rw [hsn] at HN
  simp only [hsm, hsn, Bool.and_self, if_true] at hr
  clear hsm hsn
  go_enter Try.func7, Try.ntmps7
  go_wp2_with ((with_reducible refine at_load 36 ?_); refine wpList_load_g (by rfl) 36 _ rfl w.heap.size (0) rfl (stC A) _ IA0.out.i.r0 Try.underlying36 rfl hia.out ?_)
  refine (HM.out _).mono ?_
  rintro e w1 ⟨rfl, b1⟩
  have A1 := hid (IA0.out.next b1 (by simp; omega))
  have J1 := hid (IB0.out.next b1 (by simp; omega))
  have R1 := hid (IR0.out.next b1 (by simp; omega))
  clear b1
  go_wp2_with ((with_reducible refine at_load 36 ?_); refine wpList_load_g (by rfl) 36 _ rfl (w.heap.size + 1) (0) rfl (stC B) _ J1.out.i.r0 Try.underlying36 rfl hib.out ?_)
  refine (HN.out _).mono ?_
  rintro e w2 ⟨rfl, b1⟩
  have A2 := A1.out.next b1 J1.out.i.bel.size
  have B2 := hid (J1.out.next b1 J1.out.i.bel.size)
  have R2 := hid (R1.out.next b1 J1.out.i.bel.size)
  rw [← mixR_zero A B] at A2
  replace A2 := hid A2
  clear b1 A1 J1 R1 IA0 IB0 IR0
  go_wp2_with fail
  go_loopw [16] (fun i w' => ∃ k : Nat, k ≤ 11 ∧ i = .int .i64 k ∧ Hid (RwT w.heap.size w w' w.heap.size 740 (stC (mixR A B k))) ∧ Hid (RwT w.heap.size w w' (w.heap.size + 1) 740 (stC B)) ∧ Hid (RwT w.heap.size w w' (w.heap.size + 1 + 1) 740 (stC st0))) (fun i _ => 11 - (intOf i).toNat)
  case atStart => exact ⟨0, by omega, rfl, A2, B2, R2⟩
  case round =>
    obtain ⟨k, hk, rfl, A3, B3, R3⟩ := hrel
    by_cases hlt : k < 11
    · have hlt' : (k : Int) < 11 := by omega
      obtain ⟨wu, rfl⟩ : ∃ wu : World, wu = wr := ⟨_, rfl⟩
      have HRk := hid (HR.out k hlt)
      have hJ := hid (mixR_step A B k)
      have hAt := mixR_at A B k
      have HLT := hid hlt
      go_wp2_with fail
      have OA := (A3.out.next (below_dr wu) A3.out.i.bel.size).reg hlt
      have OB := (B3.out.next (below_dr wu) A3.out.i.bel.size).reg hlt
      rw [hAt] at OA
      have hBb := hid (below_dr wu)
      have hAt' := hid hAt
      clear hAt hlt
      generalize rJoin (A.rg k) (B.rg k) = J at HRk hJ
      obtain ⟨jk, jl, jm, js, jlo, jhi⟩ := J
      unfold rV at HRk
      dsimp only at HRk
      have oa0 := OA.c0
      have oa1 := OA.c1
      have oa2 := OA.c2
      have oa3 := OA.c3
      have oa4 := OA.c4
      have oa5 := OA.c5
      have oa6 := OA.c6
      have oa7 := OA.c7
      have oa8 := OA.c8
      have oaf0 := OA.f0
      have oaf1 := OA.f1
      have oaf2 := OA.f2
      have oaf3 := OA.f3
      have oaf4 := OA.f4
      have oaf5 := OA.f5
      have oaf6 := OA.f6
      have oaf7 := OA.f7
      have oaf8 := OA.f8
      have oal := OA.lt
      have ob0 := OB.c0
      have ob1 := OB.c1
      have ob2 := OB.c2
      have ob3 := OB.c3
      have ob4 := OB.c4
      have ob5 := OB.c5
      have ob6 := OB.c6
      have ob7 := OB.c7
      have ob8 := OB.c8
      have obl := OB.lt
      clear OA OB
      have hu : undef = Value.tuple #[] := rfl
      first | (go_region_law (first | (go_simp; go_at_call 32; (with_reducible refine (HRk.out _).mono ?_); rintro e wq1 ⟨rfl, bq1⟩; have hBq := below_next hBb.out bq1; have OQ := (A3.out.next hBq A3.out.i.bel.size).reg HLT.out; rw [hAt'.out] at OQ; have oq0 := OQ.c0; have oq1 := OQ.c1; have oq2 := OQ.c2; have oq3 := OQ.c3; have oq4 := OQ.c4; have oq5 := OQ.c5; have oq6 := OQ.c6; have oq7 := OQ.c7; have oq8 := OQ.c8; have oqf0 := OQ.f0; have oqf1 := OQ.f1; have oqf2 := OQ.f2; have oqf3 := OQ.f3; have oqf4 := OQ.f4; have oqf5 := OQ.f5; have oqf6 := OQ.f6; have oqf7 := OQ.f7; have oqf8 := OQ.f8; have oql := OQ.lt))) | fail
      all_goals
        go_wp2
        go_roundw
        case rel => first | exact ⟨k + 1, by have := HLT.out; omega, by go_num, hid (by have X := (A3.out.next hBq A3.out.i.bel.size).putReg (r := ⟨jk, jl, jm, js, jlo, jhi⟩) HLT.out (Nat.le_refl _); rw [hJ.out] at X; exact X), hid (by have X := (B3.out.next hBq A3.out.i.bel.size).apart (c := w.heap.size) (o := k * 9) (vs := rC ⟨jk, jl, jm, js, jlo, jhi⟩) (by omega) (Nat.le_refl _); exact X), hid (by have X := (R3.out.next hBq A3.out.i.bel.size).apart (c := w.heap.size) (o := k * 9) (vs := rC ⟨jk, jl, jm, js, jlo, jhi⟩) (by omega) (Nat.le_refl _); exact X)⟩ | ((repeat apply Exists.intro); exact ⟨⟨k + 1, by have := HLT.out; omega, by go_num, hid (by have X := (A3.out.next hBq A3.out.i.bel.size).putReg (r := ⟨jk, jl, jm, js, jlo, jhi⟩) HLT.out (Nat.le_refl _); rw [hJ.out] at X; exact X), hid (by have X := (B3.out.next hBq A3.out.i.bel.size).apart (c := w.heap.size) (o := k * 9) (vs := rC ⟨jk, jl, jm, js, jlo, jhi⟩) (by omega) (Nat.le_refl _); exact X), hid (by have X := (R3.out.next hBq A3.out.i.bel.size).apart (c := w.heap.size) (o := k * 9) (vs := rC ⟨jk, jl, jm, js, jlo, jhi⟩) (by omega) (Nat.le_refl _); exact X)⟩, rfl⟩)
        case measure => have := HLT.out; simp [intOf]; omega
    · have hk8 : k = 11 := by omega
      subst hk8
      have A30 := A3.out
      rw [mixR_all] at A30
      replace A30 := hid A30
      clear A3 hlt hk HR
      go_wp2_with fail
      go_loopw [32] (fun i w' => ∃ k : Nat, k ≤ 64 ∧ i = .int .i64 k ∧ Hid (RwT w.heap.size w w' w.heap.size 740 (stC (mixK A B k))) ∧ Hid (RwT w.heap.size w w' (w.heap.size + 1) 740 (stC B)) ∧ Hid (RwT w.heap.size w w' (w.heap.size + 1 + 1) 740 (stC st0))) (fun i _ => 64 - (intOf i).toNat)
      case atStart => exact ⟨0, by omega, rfl, A30, B3, R3⟩
      case round =>
        obtain ⟨k, hk, rfl, A4, B4, R4⟩ := hrel
        by_cases hlt : k < 64
        · have hlt' : (k : Int) < 64 := by omega
          obtain ⟨wu, rfl⟩ : ∃ wu : World, wu = wr := ⟨_, rfl⟩
          have HKk := hid (HK.out k hlt)
          have hJ := hid (mixK_step A B k)
          have hAt := mixK_at A B k
          have HLT := hid hlt
          go_wp2_with fail
          have OA := (A4.out.next (below_dr wu) A4.out.i.bel.size).slot hlt
          have OB := (B4.out.next (below_dr wu) A4.out.i.bel.size).slot hlt
          rw [hAt] at OA
          have hBb := hid (below_dr wu)
          have hAt' := hid hAt
          clear hAt hlt
          generalize kJoin (A.sk k) (B.sk k) = J at HKk hJ
          obtain ⟨jh, jk, jl, jm, js, jlo, jhi⟩ := J
          unfold kV at HKk
          dsimp only at HKk
          have oa0 := OA.c0
          have oa1 := OA.c1
          have oa2 := OA.c2
          have oa3 := OA.c3
          have oa4 := OA.c4
          have oa5 := OA.c5
          have oa6 := OA.c6
          have oa7 := OA.c7
          have oa8 := OA.c8
          have oa9 := OA.c9
          have oaf0 := OA.f0
          have oaf1 := OA.f1
          have oaf2 := OA.f2
          have oaf3 := OA.f3
          have oaf4 := OA.f4
          have oaf5 := OA.f5
          have oaf6 := OA.f6
          have oaf7 := OA.f7
          have oaf8 := OA.f8
          have oaf9 := OA.f9
          have oal := OA.lt
          have ob0 := OB.c0
          have ob1 := OB.c1
          have ob2 := OB.c2
          have ob3 := OB.c3
          have ob4 := OB.c4
          have ob5 := OB.c5
          have ob6 := OB.c6
          have ob7 := OB.c7
          have ob8 := OB.c8
          have ob9 := OB.c9
          have obl := OB.lt
          clear OA OB
          have hu : undef = Value.tuple #[] := rfl
          first | (go_region_law (first | (go_simp; go_at_call 33; (with_reducible refine (HKk.out _).mono ?_); rintro e wq1 ⟨rfl, bq1⟩; have hBq := below_next hBb.out bq1; have OQ := (A4.out.next hBq A4.out.i.bel.size).slot HLT.out; rw [hAt'.out] at OQ; have oq0 := OQ.c0; have oq1 := OQ.c1; have oq2 := OQ.c2; have oq3 := OQ.c3; have oq4 := OQ.c4; have oq5 := OQ.c5; have oq6 := OQ.c6; have oq7 := OQ.c7; have oq8 := OQ.c8; have oq9 := OQ.c9; have oqf0 := OQ.f0; have oqf1 := OQ.f1; have oqf2 := OQ.f2; have oqf3 := OQ.f3; have oqf4 := OQ.f4; have oqf5 := OQ.f5; have oqf6 := OQ.f6; have oqf7 := OQ.f7; have oqf8 := OQ.f8; have oqf9 := OQ.f9; have oql := OQ.lt))) | fail
          all_goals
            go_wp2
            go_roundw
            case rel => first | exact ⟨k + 1, by have := HLT.out; omega, by go_num, hid (by have X := (A4.out.next hBq A4.out.i.bel.size).putSlot (x := ⟨jh, ⟨jk, jl, jm, js, jlo, jhi⟩⟩) HLT.out (Nat.le_refl _); rw [hJ.out] at X; exact X), hid (by have X := (B4.out.next hBq A4.out.i.bel.size).apart (c := w.heap.size) (o := 99 + k * 10) (vs := kC ⟨jh, ⟨jk, jl, jm, js, jlo, jhi⟩⟩) (by omega) (Nat.le_refl _); exact X), hid (by have X := (R4.out.next hBq A4.out.i.bel.size).apart (c := w.heap.size) (o := 99 + k * 10) (vs := kC ⟨jh, ⟨jk, jl, jm, js, jlo, jhi⟩⟩) (by omega) (Nat.le_refl _); exact X)⟩ | ((repeat apply Exists.intro); exact ⟨⟨k + 1, by have := HLT.out; omega, by go_num, hid (by have X := (A4.out.next hBq A4.out.i.bel.size).putSlot (x := ⟨jh, ⟨jk, jl, jm, js, jlo, jhi⟩⟩) HLT.out (Nat.le_refl _); rw [hJ.out] at X; exact X), hid (by have X := (B4.out.next hBq A4.out.i.bel.size).apart (c := w.heap.size) (o := 99 + k * 10) (vs := kC ⟨jh, ⟨jk, jl, jm, js, jlo, jhi⟩⟩) (by omega) (Nat.le_refl _); exact X), hid (by have X := (R4.out.next hBq A4.out.i.bel.size).apart (c := w.heap.size) (o := 99 + k * 10) (vs := kC ⟨jh, ⟨jk, jl, jm, js, jlo, jhi⟩⟩) (by omega) (Nat.le_refl _); exact X)⟩, rfl⟩)
            case measure => have := HLT.out; simp [intOf]; omega
        · have hk8 : k = 64 := by omega
          subst hk8
          clear hlt hk HK
          have p1 := range_pkt A4.out.i.r0
          have p2 := range_pkt B4.out.i.r0
          have f1 := (A4.out.t 739 (by decide)).2
          have l1 := A4.out.i.sz
          rw [Nat.zero_add] at f1
          have p1' : wr.cell? ⟨w.heap.size, 739, none⟩ = some (.int .i64 A.p) := p1
          clear p1
          have A5 := hid (A4.out.putPkt (p := min A.p B.p) (Nat.le_refl _))
          have R5 := hid (R4.out.apart (c := w.heap.size) (o := 739) (vs := [.int .i64 (min A.p B.p)]) (by omega) (Nat.le_refl _))
          have hE := mixK_all A B (min A.p B.p)
          have hpp : (mixK A B 64).p = A.p := rfl
          rw [hE] at A5
          rw [← hr] at A5
          have hiR : Hid ((Try.prog.info? 36).map (·.size) = some (stC R).length) := hid (by rw [stC_len]; exact yinfo36)
          clear hE hpp hr
          go_wp2_with (first | ((with_reducible refine at_load 36 ?_); refine wpList_load_g (by rfl) 36 _ rfl w.heap.size (0) rfl (stC R) _ A5.out.i.r0 Try.underlying36 rfl hiR.out ?_) | ((with_reducible refine at_store 36 ?_); refine wpList_store_st _ _ rfl rfl (w.heap.size + 1 + 1) R rfl rfl R5.out.t ?_))
          have I2 := R5.out.whole (vs := stC R) (by omega) (stC_len _)
          exact bodyPost_ret (row_res rfl _ _ (w.heap.size + 1 + 1) 0 (stC R) _ rfl I2.i.r0 Try.underlying36 rfl (by rw [stC_len]; exact yinfo36)) rfl ⟨rfl, I2.i.bel⟩
end Go.Proofs.Ytodmikjpmcabiaa
