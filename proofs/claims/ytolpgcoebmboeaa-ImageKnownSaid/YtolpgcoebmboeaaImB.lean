/-
  Lists of the call's own, and appends to them.
-/
import Derived.Test.YtolpgcoebmboeaaImA
namespace Go.Proofs.Ytolpgcoebmboeaa
set_option linter.unusedSimpArgs false
set_option linter.unusedVariables false
open Go.ChangeShapes Go.WideShapes Go.ChangeAt Go.RowKit
def cellsM (m : M4) : List Value := [.int .i64 m.kind, .int .i64 m.key, .int .i64 m.value, .int .i64 m.cap]
theorem flat4_get (l : List M4) (j : Nat) (hj : j < l.length) (i : Nat) (hi : i < 4) : (l.flatMap cellsM)[j * 4 + i]? = (cellsM (mpA l j))[i]? := by
  induction l generalizing j with
  | nil => exact absurd hj (by simp)
  | cons x c ih =>
    rw [List.flatMap_cons]
    cases j with
    | zero =>
      rw [List.getElem?_append_left (by simp [cellsM]; omega)]
      simp [mpA]
    | succ j =>
      rw [List.getElem?_append_right (by simp [cellsM]; omega)]
      rw [show (j + 1) * 4 + i - (cellsM x).length = j * 4 + i by simp [cellsM]; omega, ih j (by simpa using hj)]
      simp [mpA]
theorem flat4_len (l : List M4) : (l.flatMap cellsM).length = l.length * 4 := by
  induction l with
  | nil => rfl
  | cons x l ih => rw [List.flatMap_cons, List.length_append, ih]; simp [cellsM]; omega
theorem flat5_len (l : List I5) : (l.flatMap cellsI).length = l.length * 5 := by
  induction l with
  | nil => rfl
  | cons x l ih => rw [List.flatMap_cons, List.length_append, ih]; simp [cellsI]; omega
theorem flat4_one (l : List M4) : ∀ u ∈ l.flatMap cellsM, u.oneCell' = true := by
  intro u hu
  obtain ⟨x, _, h⟩ := List.mem_flatMap.1 hu
  simp only [cellsM, List.mem_cons, List.not_mem_nil, or_false] at h
  rcases h with rfl | rfl | rfl | rfl <;> rfl
theorem flat5_one (l : List I5) : ∀ u ∈ l.flatMap cellsI, u.oneCell' = true := by
  intro u hu
  obtain ⟨x, _, h⟩ := List.mem_flatMap.1 hu
  simp only [cellsI, List.mem_cons, List.not_mem_nil, or_false] at h
  rcases h with rfl | rfl | rfl | rfl | rfl <;> rfl
/-- A slice whose cells, in memory below n₀, are these. -/
def SrcP (n₀ : Nat) (w : World) (p : Option Addr) (news : List Value) : Prop :=
  news = [] ∨ ∃ b off, p = some ⟨b, off, none⟩ ∧ b < n₀ ∧ ∀ j u, news[j]? = some u → w.cell? ⟨b, off + j, none⟩ = some u
theorem SrcP.kept {n₀ m : Nat} {w w' : World} {p : Option Addr} {news : List Value} (h : SrcP n₀ w p news) (hb : Below m w w') (hm : n₀ ≤ m) : SrcP n₀ w' p news := by
  refine h.imp id ?_
  rintro ⟨b, off, e, hl, hc⟩
  exact ⟨b, off, e, hl, fun j u hu => (hb.cell (p := ⟨b, off + j, none⟩) (by show b < m; omega)).trans (hc j u hu)⟩
theorem src_code {n₀ : Nat} {w : World} {p : Option Addr} {n : Nat} {c : List I5} (h : CdSl n₀ w p n c) : SrcP n₀ w p (c.flatMap cellsI) := by
  obtain ⟨rfl, _, _, h4⟩ := h
  rcases h4 with h0 | ⟨b, off, rfl, hb, hc⟩
  · exact .inl (by rw [List.eq_nil_of_length_eq_zero h0]; rfl)
  · refine .inr ⟨b, off, rfl, hb, fun j u hu => ?_⟩
    have hj : j < c.length * 5 := by rw [← flat5_len]; exact (List.getElem?_eq_some_iff.1 hu).1
    have hq : j / 5 < c.length := by omega
    obtain ⟨a0, a1, a2, a3, a4⟩ := hc (j / 5) hq
    have hr := flat5_get c (j / 5) hq (j % 5) (by omega)
    rw [show j / 5 * 5 + j % 5 = j by omega, hu] at hr
    rcases (show j % 5 = 0 ∨ j % 5 = 1 ∨ j % 5 = 2 ∨ j % 5 = 3 ∨ j % 5 = 4 by omega) with e | e | e | e | e
    · rw [e] at hr; rw [show off + j = off + j / 5 * 5 by omega, a0]; exact hr.symm
    · rw [e] at hr; rw [show off + j = off + j / 5 * 5 + 1 by omega, a1]; exact hr.symm
    · rw [e] at hr; rw [show off + j = off + j / 5 * 5 + 2 by omega, a2]; exact hr.symm
    · rw [e] at hr; rw [show off + j = off + j / 5 * 5 + 3 by omega, a3]; exact hr.symm
    · rw [e] at hr; rw [show off + j = off + j / 5 * 5 + 4 by omega, a4]; exact hr.symm
theorem src_maps {n₀ : Nat} {w : World} {p : Option Addr} {n : Nat} {l : List M4} (h : MpSl n₀ w p n l) : SrcP n₀ w p (l.flatMap cellsM) := by
  obtain ⟨rfl, _, h4⟩ := h
  rcases h4 with h0 | ⟨b, off, rfl, hb, hc⟩
  · exact .inl (by rw [List.eq_nil_of_length_eq_zero h0]; rfl)
  · refine .inr ⟨b, off, rfl, hb, fun j u hu => ?_⟩
    have hj : j < l.length * 4 := by rw [← flat4_len]; exact (List.getElem?_eq_some_iff.1 hu).1
    have hq : j / 4 < l.length := by omega
    obtain ⟨a0, a1, a2, a3⟩ := hc (j / 4) hq
    have hr := flat4_get l (j / 4) hq (j % 4) (by omega)
    rw [show j / 4 * 4 + j % 4 = j by omega, hu] at hr
    rcases (show j % 4 = 0 ∨ j % 4 = 1 ∨ j % 4 = 2 ∨ j % 4 = 3 by omega) with e | e | e | e
    · rw [e] at hr; rw [show off + j = off + j / 4 * 4 by omega, a0]; exact hr.symm
    · rw [e] at hr; rw [show off + j = off + j / 4 * 4 + 1 by omega, a1]; exact hr.symm
    · rw [e] at hr; rw [show off + j = off + j / 4 * 4 + 2 by omega, a2]; exact hr.symm
    · rw [e] at hr; rw [show off + j = off + j / 4 * 4 + 3 by omega, a3]; exact hr.symm
theorem add_none (b off j : Nat) : ((⟨b, off, none⟩ : Addr).add j) = ⟨b, off + j, none⟩ := by simp only [Addr.add]; split <;> simp_all
section
variable {P : Program} (w : World)
theorem run_app (base : Nat) (t ty e : TypeId) (i : TypeInfo) (z : Value) (size bytes : Nat) (ht : P.underlying t = some (.slice e)) (hi : P.info? e = some i) (hz : i.zero = some z)
    (hsize : i.size = size) (hby : i.bytes = bytes) (hzs : z.cells.size = size) (hsz : 0 < size) (v : Value) (n : Nat) (xs : List Value) (hown : w.ownsRow base e size v n xs)
    (n₀ : Nat) (p : Option Addr) (m c : Nat) (news : List Value) (hl : news.length = m * size) (hs : SrcP n₀ w p news) (h1 : ∀ u ∈ news, u.oneCell' = true)
    (h63 : n + m ≤ maxLen) (hbytes : (n + m) * bytes ≤ 140737488355328) (hbase : base ≤ w.heap.size) :
    ∃ v' w', (Builtin.append_ #[t, t] ty #[v, .slice p m c]).run P w = .ok v' w' ∧ w'.ownsRow base e size v' (n + m) (xs ++ news) ∧ w.grownBy w' v.ownBlock ∧ (v'.ownBlock = v.ownBlock ∨ v'.ownBlock = some w.heap.size) := by
  cases p with
  | none =>
    have hn : news = [] := hs.resolve_right (by rintro ⟨_, _, h, _⟩; cases h)
    subst hn
    have hm : m = 0 := by
      rcases Nat.eq_zero_or_pos m with h | h
      · exact h
      · have := Nat.mul_pos h hsz
        simp at hl
        omega
    subst hm
    refine ⟨v, w, ?_, by simpa using hown, ⟨rfl, rfl, rfl, Nat.le_refl _, fun _ _ _ => rfl⟩, .inl rfl⟩
    rcases hown.2 with ⟨rfl, rfl⟩ | ⟨g, cap, cur, rfl, _, _, hnc, _⟩
    · simp [Builtin.append_, run_underlying ht, sizeOf, typeInfo, hi, Builtin.lenOf, Builtin.firstCells]
    · simp [Builtin.append_, run_underlying ht, sizeOf, typeInfo, hi, Builtin.lenOf, Builtin.firstCells, hnc, storeCells]
  | some ad =>
    have hnews : ∀ j u, news[j]? = some u → w.cell? (ad.add j) = some u := by
      intro j u hu
      rcases hs with rfl | ⟨b, off, h, _, hc⟩
      · simp at hu
      · injection h with h
        subst h
        rw [add_none]
        exact hc j u hu
    obtain ⟨v', w', h2, h3, h4, _, h5⟩ := run_append_own_at (P := P) w base t ty e i z size bytes ht hi hz hsize hby hzs hsz v n xs hown ad m c news hl hnews h1 h63 hbytes hbase
    exact ⟨v', w', h2, h3, h4, h5⟩
end
theorem insInfo : (Try.prog.info? 51).map (fun i => (i.zero, i.size, i.bytes)) = some (some (.agg #[.int .u8 0, .int .u8 0, .int .u8 0, .int .i16 0, .int .i32 0]), 5, 12) := by kernel_rfl
theorem mapInfo : (Try.prog.info? 48).map (fun i => (i.zero, i.size, i.bytes)) = some (some (.agg #[.int .i64 0, .int .i64 0, .int .i64 0, .int .i64 0]), 4, 32) := by kernel_rfl
theorem byteInfo : (Try.prog.info? 5).map (fun i => (i.zero, i.size, i.bytes)) = some (some (.int .u8 0), 1, 1) := by kernel_rfl
theorem src_new4 (w : World) (a b c d : Value) (t : TypeId) : SrcP (w.heap.size + 1) (w.alloc (.cells #[a, b, c, d] t)) (some ⟨w.heap.size, 0, none⟩) [a, b, c, d] := by
  refine .inr ⟨w.heap.size, 0, rfl, by omega, fun j u hu => ?_⟩
  unfold World.cell?
  dsimp only
  rw [heap_alloc_new, Nat.zero_add]
  simpa using hu
theorem src_new5 (w : World) (a b c d e : Value) (t : TypeId) : SrcP (w.heap.size + 1) (w.alloc (.cells #[a, b, c, d, e] t)) (some ⟨w.heap.size, 0, none⟩) [a, b, c, d, e] := by
  refine .inr ⟨w.heap.size, 0, rfl, by omega, fun j u hu => ?_⟩
  unfold World.cell?
  dsimp only
  rw [heap_alloc_new, Nat.zero_add]
  simpa using hu
def CutR (R : Act → World → Prop) : Exit → Act → World → Prop
  | .normal, a, w => R a w
  | _, _, _ => False
theorem src_new1 (w : World) (a : Value) (t : TypeId) : SrcP (w.heap.size + 1) (w.alloc (.cells #[a] t)) (some ⟨w.heap.size, 0, none⟩) [a] := by
  refine .inr ⟨w.heap.size, 0, rfl, by omega, fun j u hu => ?_⟩
  obtain rfl : j = 0 := by
    cases j with
    | zero => rfl
    | succ j => simp at hu
  simp at hu
  subst hu
  simp

theorem bC_len (l : List Int) : (bC l).length = l.length := by simp [bC]
theorem bC_one (l : List Int) : ∀ u ∈ bC l, u.oneCell' = true := by
  intro u hu
  obtain ⟨x, _, rfl⟩ := List.mem_map.1 hu
  rfl
/-- The slice v is a list of the call's own, with n elements of k cells, laid at or above n₀'s end. -/
def OwnX (n₀ : Nat) (e : TypeId) (k : Nat) (w0 w : World) (v : Value) (n : Nat) (xs : List Value) : Prop := w.ownsRow n₀ e k v n xs ∧ Below n₀ w0 w
/-- Append to a list of the call's own, as the walk meets it. -/
theorem app_own {ops : Array Oper} {rest : List Oper} {o : Oper} {a : Act} {Q : Exit → Act → World → Prop} (t e : TypeId) (k bytes : Nat) (z : Value)
    (hu : Try.prog.underlying t = some (.slice e)) (hinfo : (Try.prog.info? e).map (fun i => (i.zero, i.size, i.bytes)) = some (some z, k, bytes)) (hz : z.cells.size = k) (hk : 0 < k)
    (hgd : o.guard = none) (s x : Operand) (ho : o.op = .call { callee := .builtin .append, args := #[s, x], argTypes := #[t, t] })
    (n₀ : Nat) (w0 w : World) (v : Value) (n : Nat) (xs : List Value) (hs : a.eval s = v) (hown : w.ownsRow n₀ e k v n xs) (hb : Below n₀ w0 w) (hn : n₀ ≤ w.heap.size)
    (n₁ : Nat) (p : Option Addr) (m c : Nat) (news : List Value) (hx : a.eval x = .slice p m c) (hl : news.length = m * k) (hsrc : SrcP n₁ w p news) (h1 : ∀ u ∈ news, u.oneCell' = true)
    (h63 : n + m ≤ maxLen) (hbytes : (n + m) * bytes ≤ 140737488355328)
    (h : ∀ v' w', w'.ownsRow n₀ e k v' (n + m) (xs ++ news) → Below n₀ w0 w' → w.grownBy w' v.ownBlock → (v'.ownBlock = v.ownBlock ∨ v'.ownBlock = some w.heap.size) → wpList Try.prog ops Q rest (a.put o.dst v') w') :
    wpList Try.prog ops Q (o :: rest) a w := wpList_plain hgd fun _ hK => by
  obtain ⟨i, hi, hp⟩ := Option.map_eq_some_iff.1 hinfo
  injection hp with hp1 hp
  injection hp with hp2 hp3
  obtain ⟨v', w', hrun, h2, h3, h4⟩ := run_app (P := Try.prog) w n₀ t o.type e i z k bytes hu hi hp1 hp2 hp3 hz hk v n xs hown n₁ p m c news hl hsrc h1 h63 hbytes hn
  unfold Oper.wp execOp
  simp only [ho, resolve, invoke, builtin, Sem.run_bind, Sem.run_pure, Result.andThen_ok, List.map_toArray, List.map_cons, List.map_nil, hs, hx, hrun]
  exact hK _ _ (h v' w' h2 (hb.grown h3 hn (fun j hj => (hown.lt j hj).1)) h3 h4)
/-- The same inside a region that draws its order. -/
theorem app_step {ops : Array Oper} {o : Oper} {a : Act} {K : Act → World → Prop} {Q : Exit → Act → World → Prop} {E : Prop} (t e : TypeId) (k bytes : Nat) (z : Value)
    (hu : Try.prog.underlying t = some (.slice e)) (hinfo : (Try.prog.info? e).map (fun i => (i.zero, i.size, i.bytes)) = some (some z, k, bytes)) (hz : z.cells.size = k) (hk : 0 < k)
    (hgd : o.guard = none) (s x : Operand) (ho : o.op = .call { callee := .builtin .append, args := #[s, x], argTypes := #[t, t] })
    (n₀ : Nat) (w0 w : World) (v : Value) (n : Nat) (xs : List Value) (hs : a.eval s = v) (hown : w.ownsRow n₀ e k v n xs) (hb : Below n₀ w0 w) (hn : n₀ ≤ w.heap.size)
    (n₁ : Nat) (p : Option Addr) (m c : Nat) (news : List Value) (hx : a.eval x = .slice p m c) (hl : news.length = m * k) (hsrc : SrcP n₁ w p news) (h1 : ∀ u ∈ news, u.oneCell' = true)
    (h63 : n + m ≤ maxLen) (hbytes : (n + m) * bytes ≤ 140737488355328)
    (h : ∀ v' w', w'.ownsRow n₀ e k v' (n + m) (xs ++ news) → Below n₀ w0 w' → w.grownBy w' v.ownBlock → (v'.ownBlock = v.ownBlock ∨ v'.ownBlock = some w.heap.size) → K (a.put o.dst v') w') :
    if Region.wanted o (yielded ops a.tmps) = true then Oper.wp Try.prog o a w K Q else E := by
  have hw : Region.wanted o (yielded ops a.tmps) = true := by simp [Region.wanted, hgd]
  rw [if_pos hw]
  obtain ⟨i, hi, hp⟩ := Option.map_eq_some_iff.1 hinfo
  injection hp with hp1 hp
  injection hp with hp2 hp3
  obtain ⟨v', w', hrun, h2, h3, h4⟩ := run_app (P := Try.prog) w n₀ t o.type e i z k bytes hu hi hp1 hp2 hp3 hz hk v n xs hown n₁ p m c news hl hsrc h1 h63 hbytes hn
  unfold Oper.wp execOp
  simp only [ho, resolve, invoke, builtin, Sem.run_bind, Sem.run_pure, Result.andThen_ok, List.map_toArray, List.map_cons, List.map_nil, hs, hx, hrun]
  exact h v' w' h2 (hb.grown h3 hn (fun j hj => (hown.lt j hj).1)) h3 h4
/-- Cells of a block of the call's own. -/
theorem src_arr (w : World) (cs : List Value) (t : TypeId) : SrcP (w.heap.size + 1) (w.alloc (.cells cs.toArray t)) (some ⟨w.heap.size, 0, none⟩) cs :=
  .inr ⟨_, _, rfl, Nat.lt_succ_self _, fun j u hu => by rw [World.cell?_alloc_at _ _ _ _ rfl]; simpa using hu⟩
/-- Bytes in memory below n₀. -/
def ByL (n₀ : Nat) (w : World) (p : Option Addr) (n : Nat) (zs : List Int) : Prop :=
  zs.length = n ∧ (∀ z ∈ zs, 0 ≤ z ∧ z < 256) ∧ (n = 0 ∨ ∃ g o, p = some ⟨g, o, none⟩ ∧ g < n₀ ∧ ∀ j, j < n → w.cell? ⟨g, o + j, none⟩ = some (.int .u8 (zs.getD j 0)))
theorem ByL.kept {n₀ m : Nat} {w w' : World} {p : Option Addr} {n : Nat} {zs : List Int} (h : ByL n₀ w p n zs) (hb : Below m w w') (hm : n₀ ≤ m) : ByL n₀ w' p n zs := by
  obtain ⟨h1, h2, h3⟩ := h
  refine ⟨h1, h2, h3.imp id ?_⟩
  rintro ⟨g, o, e, hl, hc⟩
  exact ⟨g, o, e, hl, fun j hj => (hb.cell (p := ⟨g, o + j, none⟩) (by show g < m; omega)).trans (hc j hj)⟩
theorem ByL.wide {n₀ m : Nat} {w : World} {p : Option Addr} {n : Nat} {zs : List Int} (h : ByL n₀ w p n zs) (hm : n₀ ≤ m) : ByL m w p n zs := by
  obtain ⟨h1, h2, h3⟩ := h
  refine ⟨h1, h2, h3.imp id ?_⟩
  rintro ⟨g, o, e, hl, hc⟩
  exact ⟨g, o, e, by omega, hc⟩
theorem ByL.src {n₀ : Nat} {w : World} {p : Option Addr} {n : Nat} {zs : List Int} (h : ByL n₀ w p n zs) : SrcP n₀ w p (bC zs) := by
  obtain ⟨rfl, _, h3⟩ := h
  rcases h3 with h0 | ⟨g, o, rfl, hl, hc⟩
  · exact .inl (by rw [List.eq_nil_of_length_eq_zero h0]; rfl)
  · refine .inr ⟨g, o, rfl, hl, fun j u hu => ?_⟩
    have hj : j < zs.length := by rw [← bC_len]; exact (List.getElem?_eq_some_iff.1 hu).1
    rw [hc j hj]
    rw [bC, List.getElem?_map, List.getElem?_eq_getElem hj] at hu
    rw [List.getD_eq_getElem?_getD, List.getElem?_eq_getElem hj]
    exact hu
theorem byte_of {zs : List Int} (h : ∀ z ∈ zs, 0 ≤ z ∧ z < 256) (j : Nat) : 0 ≤ zs.getD j 0 ∧ zs.getD j 0 < 256 := by
  rcases Nat.lt_or_ge j zs.length with hj | hj
  · rw [List.getD_eq_getElem?_getD, List.getElem?_eq_getElem hj]
    exact h _ (List.getElem_mem hj)
  · rw [List.getD_eq_getElem?_getD, List.getElem?_eq_none hj]
    exact ⟨by decide, by decide⟩
/-- What a list of the call's own shows. -/
theorem own_slice {w : World} {b : Nat} {e : TypeId} {k n : Nat} {v : Value} {xs : List Value} (h : w.ownsRow b e k v n xs) : ∃ p cap, v = .slice p n cap ∧ n ≤ cap ∧ (n = 0 ∨ ∃ g, p = some ⟨g, 0, none⟩ ∧ b ≤ g ∧ g < w.heap.size ∧ ∀ j u, xs[j]? = some u → w.cell? ⟨g, j, none⟩ = some u) := by
  rcases h.2 with ⟨rfl, rfl⟩ | ⟨g, cap, cur, rfl, hg, hh, hc, _⟩
  · exact ⟨none, 0, rfl, Nat.le_refl _, .inl rfl⟩
  · refine ⟨_, cap, rfl, hc, .inr ⟨g, rfl, hg, (h.lt g rfl).2, fun j u hu => ?_⟩⟩
    have := h.cells (g := g) rfl j u hu
    rwa [add_none, Nat.zero_add] at this
theorem own_by {w : World} {b n : Nat} {v : Value} {zs : List Int} (h : w.ownsRow b 5 1 v n (bC zs)) (hz : ∀ z ∈ zs, 0 ≤ z ∧ z < 256) : ∃ p cap, v = .slice p n cap ∧ n ≤ cap ∧ ByL w.heap.size w p n zs := by
  have hl : zs.length = n := by have := h.1; rw [bC_len, Nat.mul_one] at this; exact this
  obtain ⟨p, cap, rfl, hc, hx⟩ := own_slice h
  refine ⟨p, cap, rfl, hc, hl, hz, hx.imp id ?_⟩
  rintro ⟨g, rfl, _, hg, hcell⟩
  refine ⟨g, 0, rfl, hg, fun j hj => ?_⟩
  rw [Nat.zero_add]
  exact hcell j _ (by rw [bC, List.getElem?_map, List.getElem?_eq_getElem (by omega), List.getD_eq_getElem?_getD, List.getElem?_eq_getElem (by omega)]; rfl)
theorem own_cd {w : World} {b n : Nat} {v : Value} {c : List I5} (h : w.ownsRow b 51 5 v n (c.flatMap cellsI)) (hok : CdOk c) (hb : n < 11728124029440) : ∃ p cap, v = .slice p n cap ∧ n ≤ cap ∧ CdSl w.heap.size w p n c := by
  have hl : c.length = n := by have := h.1; rw [flat5_len] at this; omega
  obtain ⟨p, cap, rfl, hc, hx⟩ := own_slice h
  refine ⟨p, cap, rfl, hc, hl, hok, hb, hx.imp id ?_⟩
  rintro ⟨g, rfl, _, hg, hcell⟩
  refine ⟨g, 0, rfl, hg, fun j hj => ?_⟩
  have hf : ∀ i, i < 5 → ∀ u, (cellsI (at5 c j))[i]? = some u → w.cell? ⟨g, j * 5 + i, none⟩ = some u := fun i hi u hu => hcell _ u (by rw [flat5_get c j (by omega) i hi]; exact hu)
  rw [Nat.zero_add]
  exact ⟨hf 0 (by omega) _ rfl, hf 1 (by omega) _ rfl, hf 2 (by omega) _ rfl, hf 3 (by omega) _ rfl, hf 4 (by omega) _ rfl⟩
theorem own_mp {w : World} {b n : Nat} {v : Value} {l : List M4} (h : w.ownsRow b 48 4 v n (l.flatMap cellsM)) (hb : n < 4398046511104) : ∃ p cap, v = .slice p n cap ∧ n ≤ cap ∧ MpSl w.heap.size w p n l := by
  have hl : l.length = n := by have := h.1; rw [flat4_len] at this; omega
  obtain ⟨p, cap, rfl, hc, hx⟩ := own_slice h
  refine ⟨p, cap, rfl, hc, hl, hb, hx.imp id ?_⟩
  rintro ⟨g, rfl, _, hg, hcell⟩
  refine ⟨g, 0, rfl, hg, fun j hj => ?_⟩
  have hf : ∀ i, i < 4 → ∀ u, (cellsM (mpA l j))[i]? = some u → w.cell? ⟨g, j * 4 + i, none⟩ = some u := fun i hi u hu => hcell _ u (by rw [flat4_get l j (by omega) i hi]; exact hu)
  rw [Nat.zero_add]
  exact ⟨hf 0 (by omega) _ rfl, hf 1 (by omega) _ rfl, hf 2 (by omega) _ rfl, hf 3 (by omega) _ rfl⟩

end Go.Proofs.Ytolpgcoebmboeaa
