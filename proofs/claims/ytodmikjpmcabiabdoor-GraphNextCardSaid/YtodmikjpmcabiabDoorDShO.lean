/-
  Arguments opened: an image, a list of instructions.
-/
import Derived.Test.YtodmikjpmcabiabDoorDShK
import Derived.Test.YtodmikjpmcabiabDoorDInsnK
import Derived.Deep.Slices
import Derived.Deep.Fields
import Derived.ChangeSame
namespace Go.Proofs.YtodmikjpmcabiabDoor
set_option linter.unusedSimpArgs false
set_option linter.unusedVariables false
set_option maxRecDepth 100000
open Go.ChangeShapes Go.WideShapes Go.ChangeAt Go.RowKit Go.Joins Go.Deep

section
variable {H : Type} {enc : TypeId × Value → H} {P : Program} {w : World} {base : Nat} {held : Bool}
/-- A list of structs whose fields have one cell each: how long it is, and each field of each element. -/
theorem rows_of {t e : TypeId} {fs : Array Field} {fuel k : Nat} {v : Value} {x : DataW H × List MemPlace} (ht : P.underlying t = some (.slice e)) (he : P.underlying e = some (.struct fs))
    (hone : oneCellFields P fs = true) (hC : P.cellsOf e = k) (hk : fs.size = k) (h : DataW.trod enc P w base (fun _ => true) held fuel t [v] = some x) :
    v = .slice none 0 0 ∨
    ∃ (a : Addr) (len cap : Nat), v = .slice (some a) len cap ∧ len ≤ cap ∧ (∃ es sp, x.1 = .slice es sp ∧ es.length = len) ∧
      ∀ i, i < cap → ∀ (j : Nat) (f : Field), fs[j]? = some f → ∃ (u : Value) (y : DataW H × List MemPlace) (n : Nat), w.cell? (a.add (i * k + j)) = some u ∧ DataW.trod enc P w base (fun _ => true) held n f.type [u] = some y := by
  rcases open_slice ht h with ⟨hv, _⟩ | ⟨a, len, cap, m, n, D, Pl, hv, _, hl, _, hm, hx, hat⟩
  · exact .inl (List.cons.inj hv).1
  · obtain rfl := (List.cons.inj hv).1
    obtain rfl : m = cap := by simpa using hm
    refine .inr ⟨a, len, m, rfl, hl, ⟨_, _, by rw [hx], by simp⟩, fun i hi j f hj => ?_⟩
    obtain ⟨us, hus, htr⟩ := hat i hi
    obtain ⟨_, hul, hcell⟩ := World.cells?_some hus
    obtain ⟨ys, q, _, _, _, hyl, hfld⟩ := DataW.trod_struct he htr
    obtain ⟨h1, h2⟩ := hone_of hone j f hj
    have hjk : j < k := by rw [← hk]; exact (Array.getElem?_eq_some_iff.1 hj).1
    have hju : j < us.length := by omega
    have hg := hfld j f hj
    rw [h1, h2, List.drop_eq_getElem_cons hju, List.take_succ_cons, List.take_zero, List.getElem?_eq_getElem (by omega)] at hg
    refine ⟨us[j], _, q, ?_, hg⟩
    rw [hC] at hcell
    have hc := hcell j (by omega)
    rw [Go.Deep.add_add] at hc
    rw [hc, List.getElem?_eq_getElem hju]
end

theorem add_at (b off j : Nat) : ((⟨b, off, none⟩ : Addr).add j) = ⟨b, off + j, none⟩ := by simp only [Addr.add]; split <;> simp_all
section
variable {H : Type} {enc : TypeId × Value → H} {W : World}
set_option maxRecDepth 100000 in
theorem insnCells : Tryd.prog.cellsOf 45 = 5 := by kernel_rfl
set_option maxRecDepth 100000 in
theorem insnBytes : Tryd.prog.bytesOf 45 = 12 := by kernel_rfl
/-- The cell of a list of instructions. -/
theorem open_code {fuel : Nat} {v : Value} {x : DataW H × List MemPlace} (h : DataW.trod enc Tryd.prog W 0 (fun _ => true) true fuel 22 [v] = some x) (hlt : ∀ y ∈ x.2, y.block < W.heap.size)
    (hsz : ∀ es sp, x.1 = .slice es sp → (es.length + sp.length) * 12 ≤ reachBytes) :
    ∃ p n cap c, v = .slice p n cap ∧ n ≤ cap ∧ CdSl W.heap.size W p n c := by
  rcases rows_of Tryd.underlying22 Tryd.underlying45 (by kernel_rfl) insnCells rfl h with rfl | ⟨a, len, m, rfl, hl, ⟨es, sp, hx, hes⟩, hi⟩
  · exact ⟨none, 0, 0, [], rfl, by omega, rfl, (fun x h => by cases h), by decide, .inl rfl⟩
  · obtain ⟨b, off, spot⟩ := a
    have hsp : 0 < m → spot = none := by
      intro h0
      obtain ⟨v0, y0, _, k0, t0⟩ := hi 0 h0 0 _ rfl
      simpa [Addr.add] using World.cell?_spot k0
    have hch : ∀ i, ∃ x : I5, i < m → x.ok ∧ spot = none ∧ InsAt W b (off + i * 5) x := by
      intro i
      by_cases him : i < m
      · have hf := hi i him
        obtain ⟨v0, y0, _, k0, t0⟩ := hf 0 _ rfl
        obtain ⟨v1, y1, _, k1, t1⟩ := hf 1 _ rfl
        obtain ⟨v2, y2, _, k2, t2⟩ := hf 2 _ rfl
        obtain ⟨v3, y3, _, k3, t3⟩ := hf 3 _ rfl
        obtain ⟨v4, y4, _, k4, t4⟩ := hf 4 _ rfl
        obtain ⟨op, e0, _, w0⟩ := DataW.trod_int (k := .u8) Tryd.underlying5 t0
        obtain ⟨dst, e1, _, w1⟩ := DataW.trod_int (k := .u8) Tryd.underlying5 t1
        obtain ⟨src, e2, _, w2⟩ := DataW.trod_int (k := .u8) Tryd.underlying5 t2
        obtain ⟨of, e3, _, w3⟩ := DataW.trod_int (k := .i16) Tryd.underlying43 t3
        obtain ⟨imm, e4, _, w4⟩ := DataW.trod_int (k := .i32) Tryd.underlying21 t4
        obtain rfl := (List.cons.inj e0).1
        obtain rfl := (List.cons.inj e1).1
        obtain rfl := (List.cons.inj e2).1
        obtain rfl := (List.cons.inj e3).1
        obtain rfl := (List.cons.inj e4).1
        have u0 := bounds_u8 w0
        have u1 := bounds_u8 w1
        have u2 := bounds_u8 w2
        have u3 := bounds_i16 w3
        have u4 := bounds_i32 w4
        have hspot := hsp (by omega)
        subst hspot
        have o0 : op < 256 := by omega
        have o1 : dst < 256 := by omega
        have o2 : src < 256 := by omega
        have o3 : of < 32768 := by omega
        have o4 : imm < 2147483648 := by omega
        refine ⟨⟨op, dst, src, of, imm⟩, fun _ => ⟨⟨u0.1, o0, u1.1, o1, u2.1, o2, u3.1, o3, u4.1, o4⟩, rfl, ?_⟩⟩
        rw [add_at] at k0 k1 k2 k3 k4
        exact ⟨k0, k1, k2, k3, k4⟩
      · exact ⟨zI, fun h => absurd h him⟩
    obtain ⟨f, hf⟩ := Classical.axiomOfChoice hch
    have hb : len = 0 ∨ (b < W.heap.size ∧ spot = none) := by
      by_cases h0 : len = 0
      · exact .inl h0
      · obtain ⟨_, h1, h2⟩ := hf 0 (by omega)
        exact .inr ⟨World.block_lt_of_cell? W _ h2.1, h1⟩
    have hn : len < 11728124029440 := by
      have := hsz _ _ hx
      simp only [hes, reachBytes] at this
      omega
    refine ⟨_, len, m, (List.range len).map f, rfl, hl, by simp, ?_, hn, ?_⟩
    · intro x hx
      obtain ⟨i, hi', rfl⟩ := List.mem_map.1 hx
      exact (hf i (by have := List.mem_range.1 hi'; omega)).1
    · rcases hb with h0 | ⟨hbl, rfl⟩
      · exact .inl h0
      · refine .inr ⟨b, off, rfl, hbl, fun j hj => ?_⟩
        have := (hf j (by omega)).2.2
        unfold at5
        rw [List.getD_eq_getElem?_getD, List.getElem?_map, List.getElem?_range hj]
        exact this
end
end Go.Proofs.YtodmikjpmcabiabDoor
