/-
  A frame that a law is given by value, opened.
-/
import Derived.Test.YtjlaenkfjejbkaaMbO
import Derived.OpenShut
namespace Go.Proofs.Ytjlaenkfjejbkaa
set_option linter.unusedSimpArgs false
set_option linter.unusedVariables false
open Go.ChangeShapes Go.WideShapes Go.ChangeAt Go.RowKit Go.Deep

section
variable {H : Type} {enc : TypeId × Value → H} {w : World} {base : Nat} {spare : Nat → Bool} {held : Bool}
set_option maxRecDepth 100000 in
theorem k27 : Try.prog.cellsOf 27 = 13 := by kernel_rfl
set_option maxRecDepth 100000 in
theorem k22 : Try.prog.cellsOf 22 = 8 := by kernel_rfl
set_option maxRecDepth 100000 in
theorem k29 : Try.prog.cellsOf 29 = 832 := by kernel_rfl
theorem open_b8 {fuel : Nat} {c0 c1 c2 c3 c4 c5 c6 c7 : Value} {x : DataW H × List MemPlace} (h : DataW.trod enc Try.prog w base spare held fuel 22 [c0, c1, c2, c3, c4, c5, c6, c7] = some x) :
    ∃ l : List Int, l.length = 8 ∧ (∀ z ∈ l, 0 ≤ z ∧ z < 256) ∧ [c0, c1, c2, c3, c4, c5, c6, c7] = bC l := by
  obtain ⟨xs, n, _, _, _, hx, hf⟩ := DataW.trod_array Try.underlying22 h
  match xs, hx with
  | [y0, y1, y2, y3, y4, y5, y6, y7], _ =>
    have key : ∀ (i : Nat) (c : Value) (y : DataW H × List MemPlace), DataW.trod enc Try.prog w base spare held n 5 [c] = some y → ∃ z : Int, c = .int .u8 z ∧ 0 ≤ z ∧ z < 256 := fun i c y hy => by
      obtain ⟨z, e, _, wz⟩ := DataW.trod_int (k := .u8) Try.underlying5 hy
      obtain rfl := (List.cons.inj e).1
      exact ⟨z, rfl, bd_u8 wz⟩
    have f0 := hf 0 (by decide)
    have f1 := hf 1 (by decide)
    have f2 := hf 2 (by decide)
    have f3 := hf 3 (by decide)
    have f4 := hf 4 (by decide)
    have f5 := hf 5 (by decide)
    have f6 := hf 6 (by decide)
    have f7 := hf 7 (by decide)
    rw [k5] at f0 f1 f2 f3 f4 f5 f6 f7
    obtain ⟨z0, rfl, p0⟩ := key 0 c0 y0 f0
    obtain ⟨z1, rfl, p1⟩ := key 1 c1 y1 f1
    obtain ⟨z2, rfl, p2⟩ := key 2 c2 y2 f2
    obtain ⟨z3, rfl, p3⟩ := key 3 c3 y3 f3
    obtain ⟨z4, rfl, p4⟩ := key 4 c4 y4 f4
    obtain ⟨z5, rfl, p5⟩ := key 5 c5 y5 f5
    obtain ⟨z6, rfl, p6⟩ := key 6 c6 y6 f6
    obtain ⟨z7, rfl, p7⟩ := key 7 c7 y7 f7
    refine ⟨[z0, z1, z2, z3, z4, z5, z6, z7], rfl, fun z hz => ?_, rfl⟩
    simp only [List.mem_cons, List.not_mem_nil, or_false] at hz
    rcases hz with rfl | rfl | rfl | rfl | rfl | rfl | rfl | rfl <;> assumption
theorem open_slot {fuel : Nat} {cs : List Value} {x : DataW H × List MemPlace} (h : DataW.trod enc Try.prog w base spare held fuel 27 cs = some x) : ∃ s : Sl, SOk s ∧ cs = sC s := by
  obtain ⟨xs, n, _, _, hl, hx, hf⟩ := DataW.trod_struct Try.underlying27 h
  rw [k27] at hl
  match cs, hl with
  | [c0, c1, c2, c3, c4, c5, c6, c7, c8, c9, c10, c11, c12], _ =>
    have f0 := hf 0 _ rfl
    have f1 : DataW.trod enc Try.prog w base spare held n 22 (([c0, c1, c2, c3, c4, c5, c6, c7, c8, c9, c10, c11, c12].drop 1).take (Try.prog.cellsOf 22)) = xs[1]? := hf 1 _ rfl
    have f2 : DataW.trod enc Try.prog w base spare held n 25 (([c0, c1, c2, c3, c4, c5, c6, c7, c8, c9, c10, c11, c12].drop 9).take (Try.prog.cellsOf 25)) = xs[2]? := hf 2 _ rfl
    rw [k22] at f1
    rw [k25] at f2
    match xs, hx with
    | [y0, y1, y2], _ =>
      simp only [k5, List.drop, List.take, List.getElem?_cons_zero, List.getElem?_cons_succ] at f0 f1 f2
      obtain ⟨n0, e0, _, w0⟩ := DataW.trod_int (k := .u8) Try.underlying5 f0
      obtain ⟨l, hl8, hlb, el⟩ := open_b8 f1
      obtain ⟨v, hv, ev⟩ := open_v f2
      obtain rfl := (List.cons.inj e0).1
      refine ⟨⟨n0, l, v⟩, ⟨bd_u8 w0, hl8, hlb, hv⟩, ?_⟩
      show Value.int .u8 n0 :: ([c1, c2, c3, c4, c5, c6, c7, c8] ++ [c9, c10, c11, c12]) = _
      rw [el, ev]
      rfl
theorem open_frame {r : Reach} {b0 : Nat} {v : Value} {d : DataW H} {p : List MemPlace} (hv : Value.okWide Try.prog w r b0 29 v) (h : DataW.Trod enc Try.prog w base spare held 29 v d p) :
    ∃ F : Nat → Sl, FOk F ∧ v = fV F := by
  simp only [Value.okWide, Try.underlying29] at hv
  obtain ⟨cs, rfl, hsz, _⟩ := hv
  rw [k29] at hsz
  obtain ⟨fuel, hf⟩ := h
  obtain ⟨xs, m, _, _, hlc, hx, hg⟩ := DataW.trod_array Try.underlying29 hf
  have hc : (Value.agg cs).cells.toList = cs.toList := rfl
  rw [hc] at hg
  have hlen : cs.toList.length = 832 := by simpa using hsz
  have hch := choose_list (fun i (s : Sl) => SOk s ∧ (cs.toList.drop (i * 13)).take 13 = sC s) 64 (fun i hi => by
    have h1 := hg i hi
    rw [k27] at h1
    rw [List.getElem?_eq_getElem (by omega)] at h1
    exact open_slot h1)
  obtain ⟨l, hll, hlp⟩ := hch
  refine ⟨fun k => l.getD k s0, fun k hk => ?_, ?_⟩
  · have := (hlp k (by omega)).1
    show SOk (l.getD k s0)
    rw [List.getD_eq_getElem?_getD, List.getElem?_eq_getElem (by omega)]
    exact this
  · have hF : FOk (fun k => l.getD k s0) := fun k hk => by
      have := (hlp k (by omega)).1
      show SOk (l.getD k s0)
      rw [List.getD_eq_getElem?_getD, List.getElem?_eq_getElem (by omega)]
      exact this
    unfold fV
    congr 1
    apply Array.ext'
    simp only [List.toList_toArray]
    apply List.ext_getElem?
    intro q
    by_cases hq : q < 832
    · have hd : q / 13 * 13 + q % 13 = q := by omega
      have hi : q / 13 < 64 := by omega
      have hm : q % 13 < 13 := by omega
      generalize q / 13 = i at *
      generalize q % 13 = j at *
      subst hd
      rw [fC_at hF i j hi hm]
      have h2 := (hlp i (by omega)).2
      have h3 : l.getD i s0 = l[i]'(by omega) := by
        skip
        rw [List.getD_eq_getElem?_getD, List.getElem?_eq_getElem (by omega)]
        rfl
      rw [h3, ← h2, List.getElem?_take_of_lt hm, List.getElem?_drop]
    · rw [List.getElem?_eq_none (by omega), List.getElem?_eq_none (by rw [fC_len hF]; omega)]
end

end Go.Proofs.Ytjlaenkfjejbkaa
