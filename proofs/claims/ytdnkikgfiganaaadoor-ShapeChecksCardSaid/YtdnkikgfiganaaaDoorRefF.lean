/-
  The contract of the document's own Find.
-/
import Derived.Test.YtdnkikgfiganaaaDoorRefR
import Derived.Test.YtdnkikgfiganaaaDoorInsnT
namespace Go.Proofs.YtdnkikgfiganaaaDoor
set_option linter.unusedSimpArgs false
set_option linter.unusedVariables false
open Go.ChangeShapes Go.WideShapes Go.ChangeAt Go.RowKit

def rrV (r : RR) : Value := .agg #[.int .u8 r.op, .int .i64 r.cls, .int .i64 r.o, .int .i64 r.size, .bool r.wide, .bool r.reg, .int .i64 r.dst, .int .i64 r.src, .int .i64 r.off, .int .i64 r.imm, .int .i64 r.at_]
def rrz : RR := ⟨0, 0, 0, 0, false, false, 0, 0, 0, 0, 0⟩
def fdR (o : Option RR) : RR := match o with | some r => r | none => rrz
theorem rowsI_len : rowsI.length = 114 := by kernel_rfl

/-- A row's cells lie where they should. -/
def RowAt (w : World) (g k : Nat) (r : RR) : Prop := ∀ j u, (rrCells r)[j]? = some u → w.cell? ⟨g, k * 11 + j, none⟩ = some u
theorem flat_get (L : List RR) (k : Nat) (r : RR) (hk : L[k]? = some r) (j : Nat) (hj : j < 11) : (L.flatMap rrCells)[k * 11 + j]? = (rrCells r)[j]? := by
  induction L generalizing k with
  | nil => simp at hk
  | cons a L ih =>
    rw [List.flatMap_cons]
    cases k with
    | zero =>
      simp at hk
      subst hk
      rw [List.getElem?_append_left (by show _ < 11; omega)]
      simp
    | succ k =>
      rw [List.getElem?_append_right (by show 11 ≤ _; omega)]
      have h : (k + 1) * 11 + j - (rrCells a).length = k * 11 + j := by show _ - 11 = _; omega
      rw [h]
      exact ih k (by simpa using hk)
theorem own_form {w0 w : World} {v : Value} (h : OwnR w0 w v rowsI) : ∃ g cap, v = .slice (some ⟨g, 0, none⟩) 114 cap ∧ w0.heap.size ≤ g ∧ g < w.heap.size ∧ ∀ k r, rowsI[k]? = some r → RowAt w g k r := by
  obtain ⟨h1, hb⟩ := h
  rcases h1.2 with ⟨_, hn⟩ | ⟨g, cap, cur, rfl, hg, hh, _⟩
  · rw [rowsI_len] at hn; cases hn
  · rw [rowsI_len] at h1 ⊢
    refine ⟨g, cap, rfl, hg, ?_, ?_⟩
    · exact (h1.lt g rfl).2
    · intro k r hk j u hu
      have hj : j < 11 := by
        have := (List.getElem?_eq_some_iff.1 hu).1
        exact this
      have hc := h1.cells (g := g) rfl (k * 11 + j) u (by rw [flat_get _ k r hk j hj]; exact hu)
      have e : ((⟨g, 0, none⟩ : Addr).add (k * 11 + j)) = ⟨g, k * 11 + j, none⟩ := by simp only [Addr.add]; split <;> simp_all
      rwa [e] at hc

theorem below_drewN_at {B : Nat} {a w : World} (h : Below B a w) (n : Nat) : Below B a (w.drewN n) := ⟨h.os, h.tape, h.output, h.size, h.block⟩

theorem find_next {p : RR → Bool} {k : Nat} {r : RR} {F : Option RR} (h : (rowsI.drop k).find? p = F) (hr : rowsI[k]? = some r) (hp : p r = false) : (rowsI.drop (k + 1)).find? p = F := by
  have hk : k < rowsI.length := (List.getElem?_eq_some_iff.1 hr).1
  have he : rowsI[k] = r := (List.getElem?_eq_some_iff.1 hr).2
  rw [List.drop_eq_getElem_cons hk, he, List.find?_cons, hp] at h
  exact h
theorem find_here {p : RR → Bool} {k : Nat} {r : RR} {F : Option RR} (h : (rowsI.drop k).find? p = F) (hr : rowsI[k]? = some r) (hp : p r = true) : F = some r := by
  have hk : k < rowsI.length := (List.getElem?_eq_some_iff.1 hr).1
  have he : rowsI[k] = r := (List.getElem?_eq_some_iff.1 hr).2
  rw [List.drop_eq_getElem_cons hk, he, List.find?_cons, hp] at h
  exact h.symm
theorem find_over {p : RR → Bool} {F : Option RR} (h : (rowsI.drop 114).find? p = F) : F = none := by
  rw [List.drop_of_length_le (by rw [rowsI_len]; omega)] at h
  exact h.symm
theorem RowAt.below {w w' : World} {g k : Nat} {r : RR} (h : RowAt w g k r) (hb : Below w.heap.size w w') (hg : g < w.heap.size) : RowAt w' g k r := fun j u hu => (hb.cell (p := ⟨g, k * 11 + j, none⟩) hg).trans (h j u hu)

set_option maxHeartbeats 4000000 in
theorem find_any (op dst src off imm : Int) (w : World) (s0 : 0 ≤ src) (s1 : src < 256) (m0 : -2147483648 ≤ imm) (m1 : imm < 2147483648) :
    Calls Tryd.prog 67 #[.agg #[.int .u8 op, .int .u8 dst, .int .u8 src, .int .i16 off, .int .i32 imm]] w fun e w' =>
      e = .returned (.tuple #[rrV (fdR (findI op src imm)), .bool (findI op src imm).isSome]) ∧ Below w.heap.size w w' := by
  have hst : (rowsI.drop 0).find? (hit op src imm) = findI op src imm := rfl
  generalize findI op src imm = F at hst ⊢
  have HST := hid hst
  clear hst
  go_enter Tryd.func67, Tryd.ntmps67
  go_wp2_with fail
  refine (rows_any _).mono ?_
  rintro e w1 ⟨v, rfl, hown⟩
  have b1 := hid hown.2
  obtain ⟨g, cap, rfl, hg1, hg2, hrow⟩ := own_form hown
  clear hown hg1
  obtain ⟨hc, hf⟩ := bcell b1.out
  have hb1 : Below w.heap.size w w1 := (((Below.refl _ _).alloc (Nat.le_refl _) _).alloc (by simp) _).trans (b1.out.mono (by simp; omega))
  have hz : w.heap.size + 1 < w1.heap.size := by have := b1.out.size; simp at this; omega
  have hz' : w.heap.size < w1.heap.size := by omega
  have co : w1.cell? ⟨w.heap.size, 0, none⟩ = some (.int .u8 op) := by rw [hc _ _ (by simp; omega)]; simp
  have cs : w1.cell? ⟨w.heap.size, 2, none⟩ = some (.int .u8 src) := by rw [hc _ _ (by simp; omega)]; simp
  have cm : w1.cell? ⟨w.heap.size, 4, none⟩ = some (.int .i32 imm) := by rw [hc _ _ (by simp; omega)]; simp
  have HR := hid hrow
  clear hc hf hrow
  go_wp2
  go_loopw [5] (fun i wr => ∃ k : Nat, k ≤ 114 ∧ i = .int .i64 k ∧ Hid ((rowsI.drop k).find? (hit op src imm) = F) ∧ Below w1.heap.size w1 wr) (fun i _ => 114 - (intOf i).toNat)
  case atStart => exact ⟨0, by omega, rfl, HST, Below.refl _ _⟩
  case round =>
    clear HST
    obtain ⟨k, hk, rfl, HST, hbr⟩ := hrel
    by_cases hlt : k < 114
    · have co' := (hbr.cell (p := ⟨w.heap.size, 0, none⟩) hz').trans co
      have cs' := (hbr.cell (p := ⟨w.heap.size, 2, none⟩) hz').trans cs
      have cm' := (hbr.cell (p := ⟨w.heap.size, 4, none⟩) hz').trans cm
      clear co cs cm
      obtain ⟨r, hr⟩ : ∃ r, rowsI[k]? = some r := ⟨rowsI[k]'(by rw [rowsI_len]; exact hlt), by simp⟩
      have HW := hid ((HR.out k r hr).below hbr hg2)
      have HK := hid hr
      clear hr HR
      have hli : (k : Int) < 114 := by omega
      have hl0 : 0 ≤ (k : Int) := by omega
      have r0 : wr.cell? ⟨g, k * 11, none⟩ = some (.int .u8 r.op) := HW.out 0 _ rfl
      have r3 : wr.cell? ⟨g, k * 11 + 7, none⟩ = some (.int .i64 r.src) := HW.out 7 _ rfl
      have r5 : wr.cell? ⟨g, k * 11 + 9, none⟩ = some (.int .i64 r.imm) := HW.out 9 _ rfl
      have r6 : wr.cell? ⟨g, k * 11 + 10, none⟩ = some (.int .i64 r.at_) := HW.out 10 _ rfl
      cases a : (r.op != op)
      · cases s : (r.src == 4)
        · cases m : (r.imm == 4)
          · have hh := hid (show hit op src imm r = true by unfold hit; rw [a, s, m]; rfl)
            have q1 : wr.cell? ⟨g, k * 11 + 1, none⟩ = some (.int .i64 r.cls) := HW.out 1 _ rfl
            have q2 : wr.cell? ⟨g, k * 11 + 2, none⟩ = some (.int .i64 r.o) := HW.out 2 _ rfl
            have q3 : wr.cell? ⟨g, k * 11 + 3, none⟩ = some (.int .i64 r.size) := HW.out 3 _ rfl
            have q4 : wr.cell? ⟨g, k * 11 + 4, none⟩ = some (.bool r.wide) := HW.out 4 _ rfl
            have q5 : wr.cell? ⟨g, k * 11 + 5, none⟩ = some (.bool r.reg) := HW.out 5 _ rfl
            have q6 : wr.cell? ⟨g, k * 11 + 6, none⟩ = some (.int .i64 r.dst) := HW.out 6 _ rfl
            have q8 : wr.cell? ⟨g, k * 11 + 8, none⟩ = some (.int .i64 r.off) := HW.out 8 _ rfl
            obtain rfl := find_here HST.out HK.out hh.out
            obtain ⟨hc, hf⟩ := bcell (b1.out.trans (hbr.mono b1.out.size))
            have hz2 : w.heap.size + 1 < wr.heap.size := by have := hbr.size; omega
            have hb2 := hb1.trans (hbr.mono (Nat.le_of_lt hz'))
            go_wp2
            go_quiet (fail)
            go_wp2
            exact bodyPost_ret (v := .tuple #[rrV r, .bool true]) (by simp [results, Tryd.results67, go_sem, hc, hz]; rfl) rfl ⟨rfl, ((((((((((((below_drewN_at hb2 _).setCell (by simp) _).setCell (by simp) _).setCell (by simp) _).setCell (by simp) _).setCell (by simp) _).setCell (by simp) _).setCell (by simp) _).setCell (by simp) _).setCell (by simp) _).setCell (by simp) _).setCell (by simp) _)⟩
          · cases c : (imm != r.at_)
            · have hh := hid (show hit op src imm r = true by unfold hit; rw [a, s, m, c]; rfl)
              have q1 : wr.cell? ⟨g, k * 11 + 1, none⟩ = some (.int .i64 r.cls) := HW.out 1 _ rfl
              have q2 : wr.cell? ⟨g, k * 11 + 2, none⟩ = some (.int .i64 r.o) := HW.out 2 _ rfl
              have q3 : wr.cell? ⟨g, k * 11 + 3, none⟩ = some (.int .i64 r.size) := HW.out 3 _ rfl
              have q4 : wr.cell? ⟨g, k * 11 + 4, none⟩ = some (.bool r.wide) := HW.out 4 _ rfl
              have q5 : wr.cell? ⟨g, k * 11 + 5, none⟩ = some (.bool r.reg) := HW.out 5 _ rfl
              have q6 : wr.cell? ⟨g, k * 11 + 6, none⟩ = some (.int .i64 r.dst) := HW.out 6 _ rfl
              have q8 : wr.cell? ⟨g, k * 11 + 8, none⟩ = some (.int .i64 r.off) := HW.out 8 _ rfl
              obtain rfl := find_here HST.out HK.out hh.out
              obtain ⟨hc, hf⟩ := bcell (b1.out.trans (hbr.mono b1.out.size))
              have hz2 : w.heap.size + 1 < wr.heap.size := by have := hbr.size; omega
              have hb2 := hb1.trans (hbr.mono (Nat.le_of_lt hz'))
              go_wp2
              go_quiet (fail)
              go_wp2
              exact bodyPost_ret (v := .tuple #[rrV r, .bool true]) (by simp [results, Tryd.results67, go_sem, hc, hz]; rfl) rfl ⟨rfl, ((((((((((((below_drewN_at hb2 _).setCell (by simp) _).setCell (by simp) _).setCell (by simp) _).setCell (by simp) _).setCell (by simp) _).setCell (by simp) _).setCell (by simp) _).setCell (by simp) _).setCell (by simp) _).setCell (by simp) _).setCell (by simp) _)⟩
            · have hh := hid (show hit op src imm r = false by unfold hit; rw [a, s, m, c]; rfl)
              go_wp2
              go_quiet (fail)
              go_wp2
              exact ⟨⟨k + 1, by omega, by go_num, hid (find_next HST.out HK.out hh.out), hbr.trans (below_drewN _ _ _)⟩, by simp [intOf]; omega⟩
        · cases b : (src != r.at_)
          · cases m : (r.imm == 4)
            · have hh := hid (show hit op src imm r = true by unfold hit; rw [a, s, b, m]; rfl)
              have q1 : wr.cell? ⟨g, k * 11 + 1, none⟩ = some (.int .i64 r.cls) := HW.out 1 _ rfl
              have q2 : wr.cell? ⟨g, k * 11 + 2, none⟩ = some (.int .i64 r.o) := HW.out 2 _ rfl
              have q3 : wr.cell? ⟨g, k * 11 + 3, none⟩ = some (.int .i64 r.size) := HW.out 3 _ rfl
              have q4 : wr.cell? ⟨g, k * 11 + 4, none⟩ = some (.bool r.wide) := HW.out 4 _ rfl
              have q5 : wr.cell? ⟨g, k * 11 + 5, none⟩ = some (.bool r.reg) := HW.out 5 _ rfl
              have q6 : wr.cell? ⟨g, k * 11 + 6, none⟩ = some (.int .i64 r.dst) := HW.out 6 _ rfl
              have q8 : wr.cell? ⟨g, k * 11 + 8, none⟩ = some (.int .i64 r.off) := HW.out 8 _ rfl
              obtain rfl := find_here HST.out HK.out hh.out
              obtain ⟨hc, hf⟩ := bcell (b1.out.trans (hbr.mono b1.out.size))
              have hz2 : w.heap.size + 1 < wr.heap.size := by have := hbr.size; omega
              have hb2 := hb1.trans (hbr.mono (Nat.le_of_lt hz'))
              go_wp2
              go_quiet (fail)
              go_wp2
              exact bodyPost_ret (v := .tuple #[rrV r, .bool true]) (by simp [results, Tryd.results67, go_sem, hc, hz]; rfl) rfl ⟨rfl, ((((((((((((below_drewN_at hb2 _).setCell (by simp) _).setCell (by simp) _).setCell (by simp) _).setCell (by simp) _).setCell (by simp) _).setCell (by simp) _).setCell (by simp) _).setCell (by simp) _).setCell (by simp) _).setCell (by simp) _).setCell (by simp) _)⟩
            · cases c : (imm != r.at_)
              · have hh := hid (show hit op src imm r = true by unfold hit; rw [a, s, b, m, c]; rfl)
                have q1 : wr.cell? ⟨g, k * 11 + 1, none⟩ = some (.int .i64 r.cls) := HW.out 1 _ rfl
                have q2 : wr.cell? ⟨g, k * 11 + 2, none⟩ = some (.int .i64 r.o) := HW.out 2 _ rfl
                have q3 : wr.cell? ⟨g, k * 11 + 3, none⟩ = some (.int .i64 r.size) := HW.out 3 _ rfl
                have q4 : wr.cell? ⟨g, k * 11 + 4, none⟩ = some (.bool r.wide) := HW.out 4 _ rfl
                have q5 : wr.cell? ⟨g, k * 11 + 5, none⟩ = some (.bool r.reg) := HW.out 5 _ rfl
                have q6 : wr.cell? ⟨g, k * 11 + 6, none⟩ = some (.int .i64 r.dst) := HW.out 6 _ rfl
                have q8 : wr.cell? ⟨g, k * 11 + 8, none⟩ = some (.int .i64 r.off) := HW.out 8 _ rfl
                obtain rfl := find_here HST.out HK.out hh.out
                obtain ⟨hc, hf⟩ := bcell (b1.out.trans (hbr.mono b1.out.size))
                have hz2 : w.heap.size + 1 < wr.heap.size := by have := hbr.size; omega
                have hb2 := hb1.trans (hbr.mono (Nat.le_of_lt hz'))
                go_wp2
                go_quiet (fail)
                go_wp2
                exact bodyPost_ret (v := .tuple #[rrV r, .bool true]) (by simp [results, Tryd.results67, go_sem, hc, hz]; rfl) rfl ⟨rfl, ((((((((((((below_drewN_at hb2 _).setCell (by simp) _).setCell (by simp) _).setCell (by simp) _).setCell (by simp) _).setCell (by simp) _).setCell (by simp) _).setCell (by simp) _).setCell (by simp) _).setCell (by simp) _).setCell (by simp) _).setCell (by simp) _)⟩
              · have hh := hid (show hit op src imm r = false by unfold hit; rw [a, s, b, m, c]; rfl)
                go_wp2
                go_quiet (fail)
                go_wp2
                exact ⟨⟨k + 1, by omega, by go_num, hid (find_next HST.out HK.out hh.out), hbr.trans (below_drewN _ _ _)⟩, by simp [intOf]; omega⟩
          · have hh := hid (show hit op src imm r = false by unfold hit; rw [a, s, b]; rfl)
            go_wp2
            go_quiet (fail)
            go_wp2
            exact ⟨⟨k + 1, by omega, by go_num, hid (find_next HST.out HK.out hh.out), hbr.trans (below_drewN _ _ _)⟩, by simp [intOf]; omega⟩
      · have hh := hid (show hit op src imm r = false by unfold hit; rw [a]; rfl)
        go_wp2
        go_quiet (fail)
        go_wp2
        exact ⟨⟨k + 1, by omega, by go_num, hid (find_next HST.out HK.out hh.out), hbr.trans (below_drewN _ _ _)⟩, by simp [intOf]; omega⟩

    · obtain rfl : k = 114 := by omega
      obtain rfl := find_over HST.out
      obtain ⟨hc, hf⟩ := bcell (b1.out.trans (hbr.mono b1.out.size))
      have hz2 : w.heap.size + 1 < wr.heap.size := by have := hbr.size; omega
      have hb2 := hb1.trans (hbr.mono (Nat.le_of_lt hz'))
      clear co cs cm hlt
      go_wp2
      exact bodyPost_ret (v := .tuple #[rrV rrz, .bool false]) (by simp [results, Tryd.results67, go_sem, hc, hz]; rfl) rfl ⟨rfl, (((((((((((hb2.setCell (by simp) _).setCell (by simp) _).setCell (by simp) _).setCell (by simp) _).setCell (by simp) _).setCell (by simp) _).setCell (by simp) _).setCell (by simp) _).setCell (by simp) _).setCell (by simp) _).setCell (by simp) _)⟩
end Go.Proofs.YtdnkikgfiganaaaDoor

