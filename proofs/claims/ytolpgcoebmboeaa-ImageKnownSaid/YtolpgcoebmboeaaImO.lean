/-
  Arguments opened: an image, bytes.
-/
import Derived.Test.YtolpgcoebmboeaaImB
import Derived.Test.YtolpgcoebmboeaaClK
import Derived.Deep.Slices
import Derived.Deep.Fields
import Derived.ChangeSame
import Derived.Lib.SmallJoins
import Derived.SizedLaws
import Derived.ChangeSlices
namespace Go.Proofs.Ytolpgcoebmboeaa
set_option linter.unusedSimpArgs false
set_option linter.unusedVariables false
open Go.ChangeShapes Go.WideShapes Go.ChangeAt Go.RowKit Go.Joins Go.Deep

section
variable {H : Type} {enc : TypeId × Value → H} {P : Program} {w : World} {base : Nat} {held : Bool}
/-- A list of structs whose fields have one cell each: how long it is, and each field of each element. -/
theorem rows_of {t e : TypeId} {fs : Array Field} {fuel k : Nat} {v : Value} {x : DataW H × List MemPlace} (ht : P.underlying t = some (.slice e)) (he : P.underlying e = some (.struct fs))
    (hone : oneCellFields P fs = true) (hC : P.cellsOf e = k) (hk : fs.size = k) (h : DataW.trod enc P w base (fun _ => true) held fuel t [v] = some x) :
    v = .slice none 0 0 ∨
    ∃ (a : Addr) (len cap : Nat), v = .slice (some a) len cap ∧ len ≤ cap ∧ (∃ es sp, x.1 = .slice es sp ∧ es.length = len) ∧
      ∀ i, i < cap → ∀ (j : Nat) (f : Field), fs[j]? = some f → ∃ (u : Value) (y : DataW H × List MemPlace) (n : Nat), w.cell? (a.add (i * k + j)) = some u ∧ DataW.trod enc P w base (fun _ => true) held n f.type [u] = some y := by
  rcases open_slice ht h with ⟨hv, _⟩ | ⟨a, len, cap, m, n, D, Pl, hv, _, hl, _, hm, hx, hat⟩
  · exact .inl (List.cons.inj hv).1
  · obtain rfl := (List.cons.inj hv).1
    obtain rfl : m = cap := by simpa using hm
    refine .inr ⟨a, len, m, rfl, hl, ⟨_, _, by rw [hx], by simp⟩, fun i hi j f hj => ?_⟩
    obtain ⟨us, hus, htr⟩ := hat i hi
    obtain ⟨_, hul, hcell⟩ := World.cells?_some hus
    obtain ⟨ys, q, _, _, _, hyl, hfld⟩ := DataW.trod_struct he htr
    obtain ⟨h1, h2⟩ := hone_of hone j f hj
    have hjk : j < k := by rw [← hk]; exact (Array.getElem?_eq_some_iff.1 hj).1
    have hju : j < us.length := by omega
    have hg := hfld j f hj
    rw [h1, h2, List.drop_eq_getElem_cons hju, List.take_succ_cons, List.take_zero, List.getElem?_eq_getElem (by omega)] at hg
    refine ⟨us[j], _, q, ?_, hg⟩
    rw [hC] at hcell
    have hc := hcell j (by omega)
    rw [Go.Deep.add_add] at hc
    rw [hc, List.getElem?_eq_getElem hju]
end

theorem add_at (b off j : Nat) : ((⟨b, off, none⟩ : Addr).add j) = ⟨b, off + j, none⟩ := by simp only [Addr.add]; split <;> simp_all
section
variable {H : Type} {enc : TypeId × Value → H} {W : World}
set_option maxRecDepth 100000 in
theorem insnCells : Try.prog.cellsOf 51 = 5 := by kernel_rfl
set_option maxRecDepth 100000 in
theorem mapCells : Try.prog.cellsOf 48 = 4 := by kernel_rfl
set_option maxRecDepth 100000 in
theorem insnBytes : Try.prog.bytesOf 51 = 12 := by kernel_rfl
set_option maxRecDepth 100000 in
theorem mapBytes : Try.prog.bytesOf 48 = 32 := by kernel_rfl
/-- The cell of a list of instructions. -/
theorem open_code {fuel : Nat} {v : Value} {x : DataW H × List MemPlace} (h : DataW.trod enc Try.prog W 0 (fun _ => true) true fuel 23 [v] = some x) (hlt : ∀ y ∈ x.2, y.block < W.heap.size)
    (hsz : ∀ es sp, x.1 = .slice es sp → (es.length + sp.length) * 12 ≤ reachBytes) :
    ∃ p n cap c, v = .slice p n cap ∧ n ≤ cap ∧ CdSl W.heap.size W p n c := by
  rcases rows_of Try.underlying23 Try.underlying51 (by kernel_rfl) insnCells rfl h with rfl | ⟨a, len, m, rfl, hl, ⟨es, sp, hx, hes⟩, hi⟩
  · exact ⟨none, 0, 0, [], rfl, by omega, rfl, (fun x h => by cases h), by decide, .inl rfl⟩
  · obtain ⟨b, off, spot⟩ := a
    have hsp : 0 < m → spot = none := by
      intro h0
      obtain ⟨v0, y0, _, k0, t0⟩ := hi 0 h0 0 _ rfl
      simpa [Addr.add] using World.cell?_spot k0
    have hch : ∀ i, ∃ x : I5, i < m → x.ok ∧ spot = none ∧ InsAt W b (off + i * 5) x := by
      intro i
      by_cases him : i < m
      · have hf := hi i him
        obtain ⟨v0, y0, _, k0, t0⟩ := hf 0 _ rfl
        obtain ⟨v1, y1, _, k1, t1⟩ := hf 1 _ rfl
        obtain ⟨v2, y2, _, k2, t2⟩ := hf 2 _ rfl
        obtain ⟨v3, y3, _, k3, t3⟩ := hf 3 _ rfl
        obtain ⟨v4, y4, _, k4, t4⟩ := hf 4 _ rfl
        obtain ⟨op, e0, _, w0⟩ := DataW.trod_int (k := .u8) Try.underlying5 t0
        obtain ⟨dst, e1, _, w1⟩ := DataW.trod_int (k := .u8) Try.underlying5 t1
        obtain ⟨src, e2, _, w2⟩ := DataW.trod_int (k := .u8) Try.underlying5 t2
        obtain ⟨of, e3, _, w3⟩ := DataW.trod_int (k := .i16) Try.underlying49 t3
        obtain ⟨imm, e4, _, w4⟩ := DataW.trod_int (k := .i32) Try.underlying21 t4
        obtain rfl := (List.cons.inj e0).1
        obtain rfl := (List.cons.inj e1).1
        obtain rfl := (List.cons.inj e2).1
        obtain rfl := (List.cons.inj e3).1
        obtain rfl := (List.cons.inj e4).1
        have u0 := bounds_u8 w0
        have u1 := bounds_u8 w1
        have u2 := bounds_u8 w2
        have u3 := bounds_i16 w3
        have u4 := bounds_i32 w4
        have hspot := hsp (by omega)
        subst hspot
        have o0 : op < 256 := by omega
        have o1 : dst < 256 := by omega
        have o2 : src < 256 := by omega
        have o3 : of < 32768 := by omega
        have o4 : imm < 2147483648 := by omega
        refine ⟨⟨op, dst, src, of, imm⟩, fun _ => ⟨⟨u0.1, o0, u1.1, o1, u2.1, o2, u3.1, o3, u4.1, o4⟩, rfl, ?_⟩⟩
        rw [add_at] at k0 k1 k2 k3 k4
        exact ⟨k0, k1, k2, k3, k4⟩
      · exact ⟨zI, fun h => absurd h him⟩
    obtain ⟨f, hf⟩ := Classical.axiomOfChoice hch
    have hb : len = 0 ∨ (b < W.heap.size ∧ spot = none) := by
      by_cases h0 : len = 0
      · exact .inl h0
      · obtain ⟨_, h1, h2⟩ := hf 0 (by omega)
        exact .inr ⟨World.block_lt_of_cell? W _ h2.1, h1⟩
    have hn : len < 11728124029440 := by
      have := hsz _ _ hx
      simp only [hes, reachBytes] at this
      omega
    refine ⟨_, len, m, (List.range len).map f, rfl, hl, by simp, ?_, hn, ?_⟩
    · intro x hx
      obtain ⟨i, hi', rfl⟩ := List.mem_map.1 hx
      exact (hf i (by have := List.mem_range.1 hi'; omega)).1
    · rcases hb with h0 | ⟨hbl, rfl⟩
      · exact .inl h0
      · refine .inr ⟨b, off, rfl, hbl, fun j hj => ?_⟩
        have := (hf j (by omega)).2.2
        unfold at5
        rw [List.getD_eq_getElem?_getD, List.getElem?_map, List.getElem?_range hj]
        exact this
/-- The cell of a list of maps. -/
theorem open_maps {fuel : Nat} {v : Value} {x : DataW H × List MemPlace} (h : DataW.trod enc Try.prog W 0 (fun _ => true) true fuel 22 [v] = some x)
    (hsz : ∀ es sp, x.1 = .slice es sp → (es.length + sp.length) * 32 ≤ reachBytes) :
    ∃ p n cap l, v = .slice p n cap ∧ n ≤ cap ∧ MpSl W.heap.size W p n l := by
  rcases rows_of Try.underlying22 Try.underlying48 (by kernel_rfl) mapCells rfl h with rfl | ⟨a, len, m, rfl, hl, ⟨es, sp, hx, hes⟩, hi⟩
  · exact ⟨none, 0, 0, [], rfl, by omega, rfl, by decide, .inl rfl⟩
  · obtain ⟨b, off, spot⟩ := a
    have hsp : 0 < m → spot = none := by
      intro h0
      obtain ⟨v0, y0, _, k0, t0⟩ := hi 0 h0 0 _ rfl
      simpa [Addr.add] using World.cell?_spot k0
    have hch : ∀ i, ∃ x : M4, i < m → spot = none ∧ MapAt W b (off + i * 4) x := by
      intro i
      by_cases him : i < m
      · have hf := hi i him
        obtain ⟨v0, y0, _, k0, t0⟩ := hf 0 _ rfl
        obtain ⟨v1, y1, _, k1, t1⟩ := hf 1 _ rfl
        obtain ⟨v2, y2, _, k2, t2⟩ := hf 2 _ rfl
        obtain ⟨v3, y3, _, k3, t3⟩ := hf 3 _ rfl
        obtain ⟨kd, e0, _, w0⟩ := DataW.trod_int (k := .i64) Try.underlying3 t0
        obtain ⟨ky, e1, _, w1⟩ := DataW.trod_int (k := .i64) Try.underlying3 t1
        obtain ⟨vl, e2, _, w2⟩ := DataW.trod_int (k := .i64) Try.underlying3 t2
        obtain ⟨cp, e3, _, w3⟩ := DataW.trod_int (k := .i64) Try.underlying3 t3
        obtain rfl := (List.cons.inj e0).1
        obtain rfl := (List.cons.inj e1).1
        obtain rfl := (List.cons.inj e2).1
        obtain rfl := (List.cons.inj e3).1
        have hspot := hsp (by omega)
        subst hspot
        refine ⟨⟨kd, ky, vl, cp⟩, fun _ => ⟨rfl, ?_⟩⟩
        rw [add_at] at k0 k1 k2 k3
        exact ⟨k0, k1, k2, k3⟩
      · exact ⟨zM, fun h => absurd h him⟩
    obtain ⟨f, hf⟩ := Classical.axiomOfChoice hch
    have hb : len = 0 ∨ (b < W.heap.size ∧ spot = none) := by
      by_cases h0 : len = 0
      · exact .inl h0
      · obtain ⟨h1, h2⟩ := hf 0 (by omega)
        exact .inr ⟨World.block_lt_of_cell? W _ h2.1, h1⟩
    have hn : len < 4398046511104 := by
      have := hsz _ _ hx
      simp only [hes, reachBytes] at this
      omega
    refine ⟨_, len, m, (List.range len).map f, rfl, hl, by simp, hn, ?_⟩
    · rcases hb with h0 | ⟨hbl, rfl⟩
      · exact .inl h0
      · refine .inr ⟨b, off, rfl, hbl, fun j hj => ?_⟩
        have := (hf j (by omega)).2
        unfold mpA
        rw [List.getD_eq_getElem?_getD, List.getElem?_map, List.getElem?_range hj]
        exact this
set_option maxRecDepth 100000 in
/-- A parameter that is an image, opened. -/
theorem open_img {v : Value} {d : DataW H} {p : List MemPlace} {r : Reach} {b0 : Nat} (hv : Value.okWide Try.prog W r b0 25 v) (h : DataW.Trod enc Try.prog W 0 (fun _ => true) true 25 v d p) (hlt : ∀ x ∈ p, x.block < W.heap.size)
    (hsz : (DataW.weights Try.prog 25 d).all (· ≤ reachBytes) = true) :
    ∃ pm n cm l pc m cc c, v = .agg #[.slice pm n cm, .slice pc m cc] ∧ n ≤ cm ∧ m ≤ cc ∧ MpSl W.heap.size W pm n l ∧ CdSl W.heap.size W pc m c := by
  obtain ⟨v0, v1, y0, y1, k, rfl, rfl, rfl, t0, t1⟩ := open_agg2 Try.underlying25 (by kernel_rfl) (by kernel_rfl) hv h
  have hw : DataW.weights Try.prog 25 (.agg [y0.1, y1.1]) = DataW.weightsEach Try.prog [22, 23] [y0.1, y1.1] := by
    simp only [DataW.weights, Try.underlying25]
    rfl
  rw [hw] at hsz
  obtain ⟨pm, n, cm, l, rfl, hnm, hl⟩ := open_maps t0 (fun es sp e => by
    have := sized_slice hsz (j := 0) (t := 22) (e := 48) rfl (by rw [← e]; rfl) Try.underlying22
    rwa [mapBytes] at this)
  obtain ⟨pc, m, cc, c, rfl, hmc, hc⟩ := open_code t1 (fun y hy => hlt y (List.mem_append_right _ hy)) (fun es sp e => by
    have := sized_slice hsz (j := 1) (t := 23) (e := 51) rfl (by rw [← e]; rfl) Try.underlying23
    rwa [insnBytes] at this)
  exact ⟨pm, n, cm, l, pc, m, cc, c, rfl, hnm, hmc, hl, hc⟩
end

theorem bd_u8 {n : Int} (h : (Lit.int .u8 n).wf = true) : 0 ≤ n ∧ n < 256 := by
  simp [Lit.wf, IntKind.min, IntKind.max, IntKind.signed, IntKind.bits] at h
  omega
/-- Some bytes in memory: a slice that holds them, or nil. -/
def BSl (pv : Value) (l : List Int) (w : World) : Prop :=
  (∃ g o cap, pv = .slice (some ⟨g, o, none⟩) l.length cap ∧ l.length ≤ cap ∧ w.rangeAt g o (bC l)) ∨ ((∃ p cap, pv = .slice p 0 cap) ∧ l = [])
theorem cells_u8 : Try.prog.cellsOf 5 = 1 := by kernel_rfl
set_option maxRecDepth 100000 in
theorem bytes_one : Try.prog.bytesOf 5 = 1 := by kernel_rfl
theorem open_bytes {H : Type} {enc : TypeId × Value → H} {W : World} {v : Value} {d : DataW H} {p : List MemPlace} {r : Reach} {b0 : Nat} (hv : Value.okWide Try.prog W r b0 29 v)
    (h : DataW.Trod enc Try.prog W 0 (fun _ => true) true 29 v d p) :
    ∃ l : List Int, BSl v l W ∧ (∀ x ∈ l, 0 ≤ x ∧ x < 256) ∧ (l.length = 0 ∨ ∃ es sp, d = .slice es sp ∧ l.length ≤ es.length + sp.length) := by
  obtain ⟨a0, len, cap, rfl⟩ := okWide_slice Try.underlying29 hv
  obtain ⟨fuel, hf⟩ := h
  rcases open_ints Try.underlying29 Try.underlying5 cells_u8 hf with ⟨hcs, hx⟩ | ⟨a, len', cap', zs, hcs, _, hl, hm, hz, hx, hcell, hwz⟩
  · simp [Value.cells] at hcs
    obtain ⟨rfl, rfl, rfl⟩ := hcs
    exact ⟨[], .inr ⟨⟨none, 0, rfl⟩, rfl⟩, by simp, .inl rfl⟩
  · simp [Value.cells] at hcs
    obtain ⟨rfl, rfl, rfl⟩ := hcs
    simp only [if_true] at hz
    simp only [Prod.mk.injEq] at hx
    obtain ⟨rfl, rfl⟩ := hx
    have hlen : (zs.take len).length = len := by rw [List.length_take]; omega
    refine ⟨zs.take len, ?_, fun z hz' => bd_u8 (hwz z (List.mem_of_mem_take hz')), .inr ⟨_, _, rfl, by simp [lits]⟩⟩
    by_cases hl0 : len = 0
    · subst hl0
      exact .inr ⟨⟨some a, cap, rfl⟩, by simp⟩
    · obtain ⟨b, off, spot⟩ := a
      have hspot : spot = none := by simpa [Addr.add] using World.cell?_spot (hcell 0 (by omega))
      subst hspot
      refine .inl ⟨b, off, cap, by rw [hlen], by omega, fun j u hu => ?_⟩
      have hj : j < len := by
        have := (List.getElem?_eq_some_iff.1 hu).1
        have e2 : (bC (zs.take len)).length = len := by unfold bC; rw [List.length_map, hlen]
        omega
      have hc := hcell j (by omega)
      have e : ((⟨b, off, none⟩ : Addr).add j) = ⟨b, off + j, none⟩ := by simp only [Addr.add]; split <;> simp_all
      rw [e] at hc
      rw [hc, ← hu]
      simp only [bC, List.getElem?_map, List.getElem?_take_of_lt hj, List.getD_eq_getElem?_getD]
      rw [List.getElem?_eq_getElem (by omega)]
      rfl
theorem nil_cap {H : Type} {enc : TypeId × Value → H} {W : World} {v : Value} {d : DataW H} {p : List MemPlace} {r : Reach} {b0 : Nat} (hv : Value.okWide Try.prog W r b0 29 v)
    (h : DataW.Trod enc Try.prog W 0 (fun _ => true) true 29 v d p) : ∀ cap, v = .slice none 0 cap → cap = 0 := by
  rintro cap rfl
  obtain ⟨fuel, hf⟩ := h
  rcases open_ints Try.underlying29 Try.underlying5 cells_u8 hf with ⟨hcs, hx⟩ | ⟨a, len', cap', zs, hcs, _⟩
  · simp [Value.cells] at hcs
    exact hcs
  · simp [Value.cells] at hcs
theorem bytes_reach {H : Type} {ts : List TypeId} {ds : List (DataW H)} {d : DataW H} {n : Nat} (hsz : (DataW.weightsEach Try.prog ts ds).all (· ≤ reachBytes) = true) {j : Nat} (ht : ts[j]? = some 29) (hd0 : ds[j]? = some d)
    (hd : n = 0 ∨ ∃ es sp, d = .slice es sp ∧ n ≤ es.length + sp.length) : n ≤ 140737488351232 := by
  rcases hd with rfl | ⟨es, sp, rfl, hle⟩
  · omega
  · have := sized_slice hsz (j := j) (e := 5) ht hd0 Try.underlying29
    rw [bytes_one] at this
    simp only [reachBytes] at this
    omega


/-- Bytes that came in, as a list. -/
theorem bsl_by {v : Value} {l : List Int} {W : World} (h : BSl v l W) (hz : ∀ x ∈ l, 0 ≤ x ∧ x < 256) : ∃ p cap, v = .slice p l.length cap ∧ l.length ≤ cap ∧ ByL W.heap.size W p l.length l := by
  rcases h with ⟨g, o, cap, rfl, hc, hr⟩ | ⟨⟨p, cap, rfl⟩, rfl⟩
  · refine ⟨_, cap, rfl, hc, rfl, hz, ?_⟩
    have hcell : ∀ j, j < l.length → W.cell? ⟨g, o + j, none⟩ = some (.int .u8 (l.getD j 0)) := fun j hj => hr j _ (by simp [bC, hj, List.getD_eq_getElem?_getD])
    by_cases h0 : l.length = 0
    · exact .inl h0
    · exact .inr ⟨g, o, rfl, World.block_lt_of_cell? W _ (hcell 0 (by omega)), hcell⟩
  · exact ⟨p, cap, rfl, Nat.zero_le _, rfl, hz, .inl rfl⟩
end Go.Proofs.Ytolpgcoebmboeaa
