/-
  Lists that are taken over whole into memory of the call's own: helpers of the laws' twin.
-/
import Derived.Test.YtodmikjpmcabiabDoorDShW
import Derived.Maps.AppendAt
import Derived.Deep.AppendLies
import Derived.Deep.RegionHeld3
import Derived.OwnWalk
namespace Go.Proofs.YtodmikjpmcabiabDoor
set_option linter.unusedSimpArgs false
set_option linter.unusedVariables false
set_option maxRecDepth 100000
open Go.ChangeShapes Go.WideShapes Go.ChangeAt Go.RowKit

theorem flat5_len (l : List I5) : (l.flatMap cellsI).length = l.length * 5 := by
  induction l with
  | nil => rfl
  | cons x l ih => rw [List.flatMap_cons, List.length_append, ih]; simp [cellsI]; omega
/-- A slice whose cells, in memory below n₀, are these. -/
def SrcP (n₀ : Nat) (w : World) (p : Option Addr) (news : List Value) : Prop :=
  news = [] ∨ ∃ b off, p = some ⟨b, off, none⟩ ∧ b < n₀ ∧ ∀ j u, news[j]? = some u → w.cell? ⟨b, off + j, none⟩ = some u
theorem SrcP.kept {n₀ m : Nat} {w w' : World} {p : Option Addr} {news : List Value} (h : SrcP n₀ w p news) (hb : Below m w w') (hm : n₀ ≤ m) : SrcP n₀ w' p news := by
  refine h.imp id ?_
  rintro ⟨b, off, e, hl, hc⟩
  exact ⟨b, off, e, hl, fun j u hu => (hb.cell (p := ⟨b, off + j, none⟩) (by show b < m; omega)).trans (hc j u hu)⟩
theorem src_code {n₀ : Nat} {w : World} {p : Option Addr} {n : Nat} {c : List I5} (h : CdSl n₀ w p n c) : SrcP n₀ w p (c.flatMap cellsI) := by
  obtain ⟨rfl, _, _, h4⟩ := h
  rcases h4 with h0 | ⟨b, off, rfl, hb, hc⟩
  · exact .inl (by rw [List.eq_nil_of_length_eq_zero h0]; rfl)
  · refine .inr ⟨b, off, rfl, hb, fun j u hu => ?_⟩
    have hj : j < c.length * 5 := by rw [← flat5_len]; exact (List.getElem?_eq_some_iff.1 hu).1
    have hq : j / 5 < c.length := by omega
    obtain ⟨a0, a1, a2, a3, a4⟩ := hc (j / 5) hq
    have hr := flat5_get c (j / 5) hq (j % 5) (by omega)
    rw [show j / 5 * 5 + j % 5 = j by omega, hu] at hr
    rcases (show j % 5 = 0 ∨ j % 5 = 1 ∨ j % 5 = 2 ∨ j % 5 = 3 ∨ j % 5 = 4 by omega) with e | e | e | e | e
    · rw [e] at hr; rw [show off + j = off + j / 5 * 5 by omega, a0]; exact hr.symm
    · rw [e] at hr; rw [show off + j = off + j / 5 * 5 + 1 by omega, a1]; exact hr.symm
    · rw [e] at hr; rw [show off + j = off + j / 5 * 5 + 2 by omega, a2]; exact hr.symm
    · rw [e] at hr; rw [show off + j = off + j / 5 * 5 + 3 by omega, a3]; exact hr.symm
    · rw [e] at hr; rw [show off + j = off + j / 5 * 5 + 4 by omega, a4]; exact hr.symm
theorem add_none (b off j : Nat) : ((⟨b, off, none⟩ : Addr).add j) = ⟨b, off + j, none⟩ := by simp only [Addr.add]; split <;> simp_all

section
variable {P : Program} (w : World)
theorem run_app (base : Nat) (t ty e : TypeId) (i : TypeInfo) (z : Value) (size bytes : Nat) (ht : P.underlying t = some (.slice e)) (hi : P.info? e = some i) (hz : i.zero = some z)
    (hsize : i.size = size) (hby : i.bytes = bytes) (hzs : z.cells.size = size) (hsz : 0 < size) (v : Value) (n : Nat) (xs : List Value) (hown : w.ownsRow base e size v n xs)
    (n₀ : Nat) (p : Option Addr) (m c : Nat) (news : List Value) (hl : news.length = m * size) (hs : SrcP n₀ w p news) (h1 : ∀ u ∈ news, u.oneCell' = true)
    (h63 : n + m ≤ maxLen) (hbytes : (n + m) * bytes ≤ 140737488355328) (hbase : base ≤ w.heap.size) :
    ∃ v' w', (Builtin.append_ #[t, t] ty #[v, .slice p m c]).run P w = .ok v' w' ∧ w'.ownsRow base e size v' (n + m) (xs ++ news) ∧ w.grownBy w' v.ownBlock ∧ (v'.ownBlock = v.ownBlock ∨ v'.ownBlock = some w.heap.size) := by
  cases p with
  | none =>
    have hn : news = [] := hs.resolve_right (by rintro ⟨_, _, h, _⟩; cases h)
    subst hn
    have hm : m = 0 := by
      rcases Nat.eq_zero_or_pos m with h | h
      · exact h
      · have := Nat.mul_pos h hsz
        simp at hl
        omega
    subst hm
    refine ⟨v, w, ?_, by simpa using hown, ⟨rfl, rfl, rfl, Nat.le_refl _, fun _ _ _ => rfl⟩, .inl rfl⟩
    rcases hown.2 with ⟨rfl, rfl⟩ | ⟨g, cap, cur, rfl, _, _, hnc, _⟩
    · simp [Builtin.append_, run_underlying ht, sizeOf, typeInfo, hi, Builtin.lenOf, Builtin.firstCells]
    · simp [Builtin.append_, run_underlying ht, sizeOf, typeInfo, hi, Builtin.lenOf, Builtin.firstCells, hnc, storeCells]
  | some ad =>
    have hnews : ∀ j u, news[j]? = some u → w.cell? (ad.add j) = some u := by
      intro j u hu
      rcases hs with rfl | ⟨b, off, h, _, hc⟩
      · simp at hu
      · injection h with h
        subst h
        rw [add_none]
        exact hc j u hu
    obtain ⟨v', w', h2, h3, h4, _, h5⟩ := run_append_own_at (P := P) w base t ty e i z size bytes ht hi hz hsize hby hzs hsz v n xs hown ad m c news hl hnews h1 h63 hbytes hbase
    exact ⟨v', w', h2, h3, h4, h5⟩
end
theorem insInfo : (Tryd.prog.info? 45).map (fun i => (i.zero, i.size, i.bytes)) = some (some (.agg #[.int .u8 0, .int .u8 0, .int .u8 0, .int .i16 0, .int .i32 0]), 5, 12) := by kernel_rfl
end Go.Proofs.YtodmikjpmcabiabDoor
