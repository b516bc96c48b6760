/-
  The laws' arguments opened: a store by value, a slice of stores.
-/
import Derived.Test.YtjlaenkfjejbkaaMbK
import Derived.Test.YtjlaenkfjejbkaaMeR
import Derived.Deep.Slices
import Derived.Deep.Fields
import Derived.ChangeSame
namespace Go.Proofs.Ytjlaenkfjejbkaa
set_option linter.unusedSimpArgs false
set_option linter.unusedVariables false
open Go.ChangeShapes Go.WideShapes Go.ChangeAt Go.RowKit Go.Deep

theorem bd_i64 {n : Int} (h : (Lit.int .i64 n).wf = true) : -9223372036854775808 ≤ n ∧ n < 9223372036854775808 := by
  simp [Lit.wf, IntKind.min, IntKind.max, IntKind.signed, IntKind.bits] at h
  omega
theorem bd_u64 {n : Int} (h : (Lit.int .u64 n).wf = true) : 0 ≤ n ∧ n < 18446744073709551616 := by
  simp [Lit.wf, IntKind.min, IntKind.max, IntKind.signed, IntKind.bits] at h
  omega
theorem bd_u8 {n : Int} (h : (Lit.int .u8 n).wf = true) : 0 ≤ n ∧ n < 256 := by
  simp [Lit.wf, IntKind.min, IntKind.max, IntKind.signed, IntKind.bits] at h
  omega
section
variable {H : Type} {enc : TypeId × Value → H} {w : World} {base : Nat} {spare : Nat → Bool} {held : Bool}
theorem c45 : Try.prog.cellsOf 45 = 6 := by kernel_rfl
theorem k2 : Try.prog.cellsOf 2 = 1 := by kernel_rfl
theorem k3 : Try.prog.cellsOf 3 = 1 := by kernel_rfl
theorem k5 : Try.prog.cellsOf 5 = 1 := by kernel_rfl
theorem k23 : Try.prog.cellsOf 23 = 1 := by kernel_rfl
theorem k25 : Try.prog.cellsOf 25 = 4 := by kernel_rfl
theorem open_v {fuel : Nat} {cs : List Value} {x : DataW H × List MemPlace} (h : DataW.trod enc Try.prog w base spare held fuel 25 cs = some x) : ∃ v : Vl, VOk v ∧ cs = vC v := by
  obtain ⟨xs, n, _, _, hl, hx, hf⟩ := DataW.trod_struct Try.underlying25 h
  rw [k25] at hl
  match cs, hl with
  | [c0, c1, c2, c3], _ =>
    have f0 := hf 0 _ rfl
    have f1 := hf 1 _ rfl
    have f2 := hf 2 _ rfl
    have f3 := hf 3 _ rfl
    match xs, hx with
    | [y0, y1, y2, y3], _ =>
      simp only [k5, k3, k23, k2, List.drop, List.take, List.getElem?_cons_zero, List.getElem?_cons_succ] at f0 f1 f2 f3
      obtain ⟨n0, e0, _, w0⟩ := DataW.trod_int (k := .u8) Try.underlying5 f0
      obtain ⟨n1, e1, _, w1⟩ := DataW.trod_int (k := .i64) Try.underlying3 f1
      obtain ⟨n2, e2, _, w2⟩ := DataW.trod_int (k := .u64) Try.underlying23 f2
      obtain ⟨n3, e3, _, w3⟩ := DataW.trod_int (k := .i64) Try.underlying2 f3
      obtain rfl := (List.cons.inj e0).1
      obtain rfl := (List.cons.inj e1).1
      obtain rfl := (List.cons.inj e2).1
      obtain rfl := (List.cons.inj e3).1
      exact ⟨⟨n0, n1, n2, n3⟩, ⟨bd_u8 w0, bd_i64 w1, bd_u64 w2, bd_i64 w3⟩, rfl⟩
theorem open_act {fuel : Nat} {cs : List Value} {x : DataW H × List MemPlace} (h : DataW.trod enc Try.prog w base spare held fuel 45 cs = some x) : ∃ y : Ac, AOk y ∧ cs = aC y := by
  obtain ⟨xs, n, _, _, hl, hx, hf⟩ := DataW.trod_struct Try.underlying45 h
  rw [c45] at hl
  match cs, hl with
  | [c0, c1, c2, c3, c4, c5], _ =>
    have f0 := hf 0 _ rfl
    have f1 := hf 1 _ rfl
    have f2 : DataW.trod enc Try.prog w base spare held n 25 (([c0, c1, c2, c3, c4, c5].drop 2).take (Try.prog.cellsOf 25)) = xs[2]? := hf 2 _ rfl
    rw [k25] at f2
    match xs, hx with
    | [y0, y1, y2], _ =>
      simp only [k3, k2, List.drop, List.take, List.getElem?_cons_zero, List.getElem?_cons_succ] at f0 f1 f2
      obtain ⟨n0, e0, _, w0⟩ := DataW.trod_int (k := .i64) Try.underlying2 f0
      obtain ⟨n1, e1, _, w1⟩ := DataW.trod_int (k := .i64) Try.underlying3 f1
      obtain ⟨v, hv, ev⟩ := open_v f2
      obtain rfl := (List.cons.inj e0).1
      obtain rfl := (List.cons.inj e1).1
      refine ⟨⟨n0, n1, v⟩, ⟨bd_i64 w0, bd_i64 w1, hv⟩, ?_⟩
      show Value.int .i64 n0 :: Value.int .i64 n1 :: [c2, c3, c4, c5] = _
      rw [ev]
      rfl
theorem open_act_val {r : Reach} {b0 : Nat} {v : Value} {d : DataW H} {p : List MemPlace} (hv : Value.okWide Try.prog w r b0 45 v) (h : DataW.Trod enc Try.prog w base spare held 45 v d p) : ∃ y : Ac, AOk y ∧ v = .agg (aC y).toArray := by
  obtain ⟨cs, rfl, hsz⟩ := okWide_struct Try.underlying45 hv
  obtain ⟨fuel, hf⟩ := h
  obtain ⟨y, hy, e⟩ := open_act hf
  exact ⟨y, hy, by congr 1; apply Array.ext'; simpa [Value.cells] using e⟩
theorem choose_list {α : Type} (P : Nat → α → Prop) : ∀ n, (∀ i, i < n → ∃ y, P i y) → ∃ l : List α, l.length = n ∧ ∀ i (h : i < l.length), P i l[i]
  | 0, _ => ⟨[], rfl, fun i h => absurd h (Nat.not_lt_zero _)⟩
  | n + 1, h => by
    obtain ⟨l, hl, hp⟩ := choose_list P n (fun i hi => h i (by omega))
    obtain ⟨y, hy⟩ := h n (by omega)
    refine ⟨l ++ [y], by simp [hl], fun i hi => ?_⟩
    by_cases e : i < l.length
    · rw [List.getElem_append_left e]; exact hp i e
    · have : i = l.length := by simp at hi; omega
      subst this
      rw [List.getElem_append_right (Nat.le_refl _)]
      simpa [hl] using hy
theorem slice_cells {r : Reach} {b0 : Nat} {v : Value} {p : Option Addr} {n c : Nat} (hv : Value.okWide Try.prog w r b0 43 v) (h : v.cells.toList = [.slice p n c]) : v = .slice p n c := by
  cases v with
  | agg cs =>
    exfalso
    simp [Value.okWide, Cell.okWide, Cell.ok, Try.underlying43] at hv
  | slice a b c => simpa [Value.cells] using h
  | _ => simp [Value.cells] at h
theorem open_acts {r : Reach} {b0 : Nat} {v : Value} {d : DataW H} {p : List MemPlace} (hv : Value.okWide Try.prog w r b0 43 v) (h : DataW.Trod enc Try.prog w base (fun _ => true) held 43 v d p) :
    ∃ l : List Ac, ASl v l w ∧ (∀ x ∈ l, AOk x) ∧ (l.length : Int) < 9223372036854775808 := by
  obtain ⟨fuel, hf⟩ := h
  rcases open_slice Try.underlying43 hf with ⟨hcs, _⟩ | ⟨a, len, cap, m, n, D, Pl, hcs, hb, hl, hm, hmm, _, hi⟩
  · refine ⟨[], .inr ⟨⟨none, 0, slice_cells hv hcs⟩, rfl⟩, (fun x hx => by cases hx), by decide⟩
  · have hve : v = .slice (some a) len cap := slice_cells hv hcs
    subst hve
    have hmc : m = cap := by simpa using hmm
    have hch := choose_list (fun i (y : Ac) => AOk y ∧ ∀ j u, (aC y)[j]? = some u → w.cell? ((a.add (i * 6)).add j) = some u) len (fun i hil => by
      obtain ⟨cs', hc, ht⟩ := hi i (by omega)
      rw [c45] at hc
      obtain ⟨y, hy, rfl⟩ := open_act ht
      obtain ⟨_, _, hat⟩ := World.cells?_some hc
      refine ⟨y, hy, fun j u hu => ?_⟩
      have hj : j < 6 := (List.getElem?_eq_some_iff.1 hu).1
      rw [hat j hj, hu])
    obtain ⟨l, hll, hlp⟩ := hch
    refine ⟨l, ?_, fun x hx => ?_, ?_⟩
    · by_cases h0 : len = 0
      · subst h0
        have : l = [] := List.length_eq_zero_iff.1 hll
        exact .inr ⟨⟨some a, cap, rfl⟩, this⟩
      · obtain ⟨b, o, sp⟩ := a
        have hc0 := (hlp 0 (by omega)).2 0 _ rfl
        have e0 : ((⟨b, o, sp⟩ : Addr).add (0 * 6)).add 0 = ⟨b, o, sp⟩ := by simp [Addr.add]
        rw [e0] at hc0
        have hsp : sp = none := by
          cases sp with
          | none => rfl
          | some s =>
            unfold World.cell? at hc0
            simp at hc0
            split at hc0 <;> simp_all
        subst hsp
        refine .inl ⟨b, o, cap, by rw [hll], World.block_lt_of_cell? w _ hc0, fun j hj i u hu => ?_⟩
        have := (hlp j hj).2 i u hu
        rw [Addr.add_mid, Addr.add_mid] at this
        exact this
    · obtain ⟨i, hi', rfl⟩ := List.mem_iff_getElem.1 hx
      exact (hlp i hi').1
    · unfold maxLen at hm
      rw [hll]
      omega
end

end Go.Proofs.Ytjlaenkfjejbkaa
