/-
  Contracts of Store where the slot is asked, as the landed code has it.
-/
import Derived.Test.YtjlaenkfjejbkaaMeZ
import Derived.Deep.RegionHeld3
import Derived.Deep.RegionLaw
namespace Go.Proofs.Ytjlaenkfjejbkaa
set_option linter.unusedSimpArgs false
set_option linter.unusedVariables false
open Go.ChangeShapes Go.WideShapes Go.ChangeAt Go.RowKit

theorem cn {w w' : World} (hb : Below w.heap.size w w') {p : Addr} {c : Value} (h : w.cell? p = some c) : w'.cell? p = some c :=
  (hb.cell (World.block_lt_of_cell? w _ h)).trans h
theorem cna {w : World} (o : Obj) {p : Addr} {c : Value} (h : w.cell? p = some c) : (w.alloc o).cell? p = some c := cn ((Below.refl w.heap.size w).alloc (Nat.le_refl _) o) h
theorem below_dr (w : World) : Below w.heap.size w w.drew := ⟨rfl, rfl, rfl, Nat.le_refl _, fun _ _ => rfl⟩
theorem quo8 (off : Int) (K : Nat) (h0 : 0 ≤ off) (h1 : off < 512) (e : off / 8 = (K : Int)) (W : World) : (binOp .quo 2 (.int .i64 off) (.int .i64 8)).run Try.prog W = .ok (.int .i64 (K : Int)) W := by
  have hw : IntKind.i64.wrap (K : Int) = (K : Int) := by
    rw [IntKind.wrap_i64]
    omega
  simp [go_sem, Int.tdiv_eq_ediv_of_nonneg h0, e, hw]
theorem rem8 (off : Int) (K : Nat) (h0 : 0 ≤ off) (h1 : off < 512) (e : off % 8 = (K : Int)) (W : World) : (binOp .rem 2 (.int .i64 off) (.int .i64 8)).run Try.prog W = .ok (.int .i64 (K : Int)) W := by
  simp [go_sem, Int.tmod_eq_emod_of_nonneg h0, e]
theorem idx64 (g K : Nat) (h : K < 64) (W : World) : (Instr.indexAt 35 (.pointer (some ⟨g, 0, none⟩)) (.int .i64 (K : Int))).run Try.prog W = .ok (.pointer (some ⟨g, K * 13, none⟩)) W := by
  have h0 : (0 : Int) ≤ (K : Int) := by omega
  simp [go_sem, Instr.indexAt, Instr.sureAddr, h0]
  intro h'
  omega
theorem alloc13 {n : Nat} {W w2 w9 : World} {T : TypeId} (ht : w2.there n 0 832) (hn : n < w2.heap.size) (b9 : Below (W.alloc (.cells #[.int .u8 0, .int .u8 0, .int .u8 0, .int .u8 0, .int .u8 0, .int .u8 0, .int .u8 0, .int .u8 0, .int .u8 0, .int .u8 0, .int .i64 0, .int .u64 0, .int .i64 0] T)).heap.size (W.alloc (.cells #[.int .u8 0, .int .u8 0, .int .u8 0, .int .u8 0, .int .u8 0, .int .u8 0, .int .u8 0, .int .u8 0, .int .u8 0, .int .u8 0, .int .i64 0, .int .u64 0, .int .i64 0] T)) w9) (h : Below (n + 1) w2 (W.alloc (.cells #[.int .u8 0, .int .u8 0, .int .u8 0, .int .u8 0, .int .u8 0, .int .u8 0, .int .u8 0, .int .u8 0, .int .u8 0, .int .u8 0, .int .i64 0, .int .u64 0, .int .i64 0] T))) :
    n + 1 ≤ W.heap.size ∧ w9.cell? ⟨W.heap.size, 0, none⟩ = some (.int .u8 0) ∧ w9.frozen? ⟨W.heap.size, 0, none⟩ = false ∧ w9.cell? ⟨W.heap.size, 1, none⟩ = some (.int .u8 0) ∧ w9.frozen? ⟨W.heap.size, 1, none⟩ = false ∧ w9.cell? ⟨W.heap.size, 2, none⟩ = some (.int .u8 0) ∧ w9.frozen? ⟨W.heap.size, 2, none⟩ = false ∧ w9.cell? ⟨W.heap.size, 3, none⟩ = some (.int .u8 0) ∧ w9.frozen? ⟨W.heap.size, 3, none⟩ = false ∧ w9.cell? ⟨W.heap.size, 4, none⟩ = some (.int .u8 0) ∧ w9.frozen? ⟨W.heap.size, 4, none⟩ = false ∧ w9.cell? ⟨W.heap.size, 5, none⟩ = some (.int .u8 0) ∧ w9.frozen? ⟨W.heap.size, 5, none⟩ = false ∧ w9.cell? ⟨W.heap.size, 6, none⟩ = some (.int .u8 0) ∧ w9.frozen? ⟨W.heap.size, 6, none⟩ = false ∧ w9.cell? ⟨W.heap.size, 7, none⟩ = some (.int .u8 0) ∧ w9.frozen? ⟨W.heap.size, 7, none⟩ = false ∧ w9.cell? ⟨W.heap.size, 8, none⟩ = some (.int .u8 0) ∧ w9.frozen? ⟨W.heap.size, 8, none⟩ = false ∧ w9.cell? ⟨W.heap.size, 9, none⟩ = some (.int .u8 0) ∧ w9.frozen? ⟨W.heap.size, 9, none⟩ = false ∧ w9.cell? ⟨W.heap.size, 10, none⟩ = some (.int .i64 0) ∧ w9.frozen? ⟨W.heap.size, 10, none⟩ = false ∧ w9.cell? ⟨W.heap.size, 11, none⟩ = some (.int .u64 0) ∧ w9.frozen? ⟨W.heap.size, 11, none⟩ = false ∧ w9.cell? ⟨W.heap.size, 12, none⟩ = some (.int .i64 0) ∧ w9.frozen? ⟨W.heap.size, 12, none⟩ = false := by
  obtain ⟨hc, hf⟩ := bcell b9
  have hl : W.heap.size < (W.alloc (.cells #[.int .u8 0, .int .u8 0, .int .u8 0, .int .u8 0, .int .u8 0, .int .u8 0, .int .u8 0, .int .u8 0, .int .u8 0, .int .u8 0, .int .i64 0, .int .u64 0, .int .i64 0] T)).heap.size := by simp
  refine ⟨?_, by rw [hc _ _ hl]; simp [go_sem], by rw [hf _ _ hl]; simp [go_sem], by rw [hc _ _ hl]; simp [go_sem], by rw [hf _ _ hl]; simp [go_sem], by rw [hc _ _ hl]; simp [go_sem], by rw [hf _ _ hl]; simp [go_sem], by rw [hc _ _ hl]; simp [go_sem], by rw [hf _ _ hl]; simp [go_sem], by rw [hc _ _ hl]; simp [go_sem], by rw [hf _ _ hl]; simp [go_sem], by rw [hc _ _ hl]; simp [go_sem], by rw [hf _ _ hl]; simp [go_sem], by rw [hc _ _ hl]; simp [go_sem], by rw [hf _ _ hl]; simp [go_sem], by rw [hc _ _ hl]; simp [go_sem], by rw [hf _ _ hl]; simp [go_sem], by rw [hc _ _ hl]; simp [go_sem], by rw [hf _ _ hl]; simp [go_sem], by rw [hc _ _ hl]; simp [go_sem], by rw [hf _ _ hl]; simp [go_sem], by rw [hc _ _ hl]; simp [go_sem], by rw [hf _ _ hl]; simp [go_sem], by rw [hc _ _ hl]; simp [go_sem], by rw [hf _ _ hl]; simp [go_sem], by rw [hc _ _ hl]; simp [go_sem], by rw [hf _ _ hl]; simp [go_sem]⟩
  have hs := h.size
  rw [World.size_alloc] at hs
  by_cases e : W.heap.size = n
  · exfalso
    have h1 := (ht 831 (by decide)).1
    rw [← h.cell (p := ⟨n, 0 + 831, none⟩) (Nat.lt_succ_self n), ← e, cell_of_row _ _ _ _ _ _ (heap_alloc_last W _)] at h1
    simp at h1
  · omega
theorem alloc13d {n : Nat} {W w2 w9 : World} {T : TypeId} (ht : w2.there n 0 832) (hn : n < w2.heap.size) (b9 : Below ((W.alloc (.cells #[.int .u8 0, .int .u8 0, .int .u8 0, .int .u8 0, .int .u8 0, .int .u8 0, .int .u8 0, .int .u8 0, .int .u8 0, .int .u8 0, .int .i64 0, .int .u64 0, .int .i64 0] T)).drew).heap.size ((W.alloc (.cells #[.int .u8 0, .int .u8 0, .int .u8 0, .int .u8 0, .int .u8 0, .int .u8 0, .int .u8 0, .int .u8 0, .int .u8 0, .int .u8 0, .int .i64 0, .int .u64 0, .int .i64 0] T)).drew) w9) (h : Below (n + 1) w2 ((W.alloc (.cells #[.int .u8 0, .int .u8 0, .int .u8 0, .int .u8 0, .int .u8 0, .int .u8 0, .int .u8 0, .int .u8 0, .int .u8 0, .int .u8 0, .int .i64 0, .int .u64 0, .int .i64 0] T)).drew)) :
    n + 1 ≤ W.heap.size ∧ w9.cell? ⟨W.heap.size, 0, none⟩ = some (.int .u8 0) ∧ w9.frozen? ⟨W.heap.size, 0, none⟩ = false ∧ w9.cell? ⟨W.heap.size, 1, none⟩ = some (.int .u8 0) ∧ w9.frozen? ⟨W.heap.size, 1, none⟩ = false ∧ w9.cell? ⟨W.heap.size, 2, none⟩ = some (.int .u8 0) ∧ w9.frozen? ⟨W.heap.size, 2, none⟩ = false ∧ w9.cell? ⟨W.heap.size, 3, none⟩ = some (.int .u8 0) ∧ w9.frozen? ⟨W.heap.size, 3, none⟩ = false ∧ w9.cell? ⟨W.heap.size, 4, none⟩ = some (.int .u8 0) ∧ w9.frozen? ⟨W.heap.size, 4, none⟩ = false ∧ w9.cell? ⟨W.heap.size, 5, none⟩ = some (.int .u8 0) ∧ w9.frozen? ⟨W.heap.size, 5, none⟩ = false ∧ w9.cell? ⟨W.heap.size, 6, none⟩ = some (.int .u8 0) ∧ w9.frozen? ⟨W.heap.size, 6, none⟩ = false ∧ w9.cell? ⟨W.heap.size, 7, none⟩ = some (.int .u8 0) ∧ w9.frozen? ⟨W.heap.size, 7, none⟩ = false ∧ w9.cell? ⟨W.heap.size, 8, none⟩ = some (.int .u8 0) ∧ w9.frozen? ⟨W.heap.size, 8, none⟩ = false ∧ w9.cell? ⟨W.heap.size, 9, none⟩ = some (.int .u8 0) ∧ w9.frozen? ⟨W.heap.size, 9, none⟩ = false ∧ w9.cell? ⟨W.heap.size, 10, none⟩ = some (.int .i64 0) ∧ w9.frozen? ⟨W.heap.size, 10, none⟩ = false ∧ w9.cell? ⟨W.heap.size, 11, none⟩ = some (.int .u64 0) ∧ w9.frozen? ⟨W.heap.size, 11, none⟩ = false ∧ w9.cell? ⟨W.heap.size, 12, none⟩ = some (.int .i64 0) ∧ w9.frozen? ⟨W.heap.size, 12, none⟩ = false := alloc13 ht hn (below_next (below_dr _) b9) ⟨h.os, h.tape, h.output, h.size, h.block⟩
theorem cnb {n : Nat} {w w' : World} (hb : Below n w w') {p : Addr} {c : Value} (hp : p.block < n) (h : w.cell? p = some c) : w'.cell? p = some c := (hb.cell hp).trans h
theorem belowA {n : Nat} {w2 W : World} {o : Obj} (h : Below (n + 1) w2 W) (hn : n < w2.heap.size) : Below (n + 1) w2 (W.alloc o) := h.alloc (Nat.le_trans hn h.size) o
theorem belowN {n : Nat} {w2 W V : World} (k : Below W.heap.size W V) (h : Below (n + 1) w2 W) (hn : n < w2.heap.size) : Below (n + 1) w2 V := h.trans (k.mono (Nat.le_trans hn h.size))
theorem sz9 {n : Nat} {w2 V W : World} (h : Below (n + 1) w2 V) (hn : n < w2.heap.size) (k : Below V.heap.size V W) : n + 1 ≤ W.heap.size := Nat.le_trans (Nat.le_trans hn h.size) k.size
theorem realloc {n : Nat} {w2 W : World} {o o' : Obj} (h : Below (n + 1) w2 (W.alloc o)) (hs : n + 1 ≤ W.heap.size) (hn : n < w2.heap.size) : Below (n + 1) w2 (W.alloc o') := by
  refine ⟨h.os, h.tape, h.output, ?_, fun k hk => ?_⟩
  · have := h.size
    simp at this ⊢
    exact this
  · have h1 := h.block k hk
    rw [Below.heap_alloc _ _ _ (by omega)] at h1 ⊢
    exact h1
theorem keep17 {g o : Nat} {w2 W : World} {x0 x1 x2 x3 x4 x5 x6 x7 x8 x9 x10 x11 x12 r0 r1 r2 r3 : Int} (n : Nat) (hn : g + 1 < n + 1) (hx0 : w2.cell? ⟨g, o, none⟩ = some (.int .u8 x0)) (hx1 : w2.cell? ⟨g, o + 1, none⟩ = some (.int .u8 x1)) (hx2 : w2.cell? ⟨g, o + 2, none⟩ = some (.int .u8 x2)) (hx3 : w2.cell? ⟨g, o + 3, none⟩ = some (.int .u8 x3)) (hx4 : w2.cell? ⟨g, o + 4, none⟩ = some (.int .u8 x4)) (hx5 : w2.cell? ⟨g, o + 5, none⟩ = some (.int .u8 x5)) (hx6 : w2.cell? ⟨g, o + 6, none⟩ = some (.int .u8 x6)) (hx7 : w2.cell? ⟨g, o + 7, none⟩ = some (.int .u8 x7)) (hx8 : w2.cell? ⟨g, o + 8, none⟩ = some (.int .u8 x8)) (hx9 : w2.cell? ⟨g, o + 9, none⟩ = some (.int .u8 x9)) (hx10 : w2.cell? ⟨g, o + 10, none⟩ = some (.int .i64 x10)) (hx11 : w2.cell? ⟨g, o + 11, none⟩ = some (.int .u64 x11)) (hx12 : w2.cell? ⟨g, o + 12, none⟩ = some (.int .i64 x12)) (hr0 : w2.cell? ⟨g + 1, 0, none⟩ = some (.int .u8 r0)) (hr1 : w2.cell? ⟨g + 1, 1, none⟩ = some (.int .i64 r1)) (hr2 : w2.cell? ⟨g + 1, 2, none⟩ = some (.int .u64 r2)) (hr3 : w2.cell? ⟨g + 1, 3, none⟩ = some (.int .i64 r3)) (hb : Below (n + 1) w2 W) :
    W.cell? ⟨g, o, none⟩ = some (.int .u8 x0) ∧ W.cell? ⟨g, o + 1, none⟩ = some (.int .u8 x1) ∧ W.cell? ⟨g, o + 2, none⟩ = some (.int .u8 x2) ∧ W.cell? ⟨g, o + 3, none⟩ = some (.int .u8 x3) ∧ W.cell? ⟨g, o + 4, none⟩ = some (.int .u8 x4) ∧ W.cell? ⟨g, o + 5, none⟩ = some (.int .u8 x5) ∧ W.cell? ⟨g, o + 6, none⟩ = some (.int .u8 x6) ∧ W.cell? ⟨g, o + 7, none⟩ = some (.int .u8 x7) ∧ W.cell? ⟨g, o + 8, none⟩ = some (.int .u8 x8) ∧ W.cell? ⟨g, o + 9, none⟩ = some (.int .u8 x9) ∧ W.cell? ⟨g, o + 10, none⟩ = some (.int .i64 x10) ∧ W.cell? ⟨g, o + 11, none⟩ = some (.int .u64 x11) ∧ W.cell? ⟨g, o + 12, none⟩ = some (.int .i64 x12) ∧ W.cell? ⟨g + 1, 0, none⟩ = some (.int .u8 r0) ∧ W.cell? ⟨g + 1, 1, none⟩ = some (.int .i64 r1) ∧ W.cell? ⟨g + 1, 2, none⟩ = some (.int .u64 r2) ∧ W.cell? ⟨g + 1, 3, none⟩ = some (.int .i64 r3) ∧ Below (n + 1) w2 W := ⟨cnb hb (by show g < n + 1; omega) hx0, cnb hb (by show g < n + 1; omega) hx1, cnb hb (by show g < n + 1; omega) hx2, cnb hb (by show g < n + 1; omega) hx3, cnb hb (by show g < n + 1; omega) hx4, cnb hb (by show g < n + 1; omega) hx5, cnb hb (by show g < n + 1; omega) hx6, cnb hb (by show g < n + 1; omega) hx7, cnb hb (by show g < n + 1; omega) hx8, cnb hb (by show g < n + 1; omega) hx9, cnb hb (by show g < n + 1; omega) hx10, cnb hb (by show g < n + 1; omega) hx11, cnb hb (by show g < n + 1; omega) hx12, cnb hb (by show g + 1 < n + 1; omega) hr0, cnb hb (by show g + 1 < n + 1; omega) hr1, cnb hb (by show g + 1 < n + 1; omega) hr2, cnb hb (by show g + 1 < n + 1; omega) hr3, hb⟩
theorem set13 {n b : Nat} {w2 W : World} {q0 q1 q2 q3 q4 q5 q6 q7 q8 q9 q10 q11 q12 : Value} (hb : Below n w2 W) (hn : n ≤ b) : Below n w2 (((((((((((((W.setCell ⟨b, 0, none⟩ q0).setCell ⟨b, 1, none⟩ q1).setCell ⟨b, 2, none⟩ q2).setCell ⟨b, 3, none⟩ q3).setCell ⟨b, 4, none⟩ q4).setCell ⟨b, 5, none⟩ q5).setCell ⟨b, 6, none⟩ q6).setCell ⟨b, 7, none⟩ q7).setCell ⟨b, 8, none⟩ q8).setCell ⟨b, 9, none⟩ q9).setCell ⟨b, 10, none⟩ q10).setCell ⟨b, 11, none⟩ q11).setCell ⟨b, 12, none⟩ q12) := (((((((((((((hb.setCell (p := ⟨b, 0, none⟩) hn q0).setCell (p := ⟨b, 1, none⟩) hn q1).setCell (p := ⟨b, 2, none⟩) hn q2).setCell (p := ⟨b, 3, none⟩) hn q3).setCell (p := ⟨b, 4, none⟩) hn q4).setCell (p := ⟨b, 5, none⟩) hn q5).setCell (p := ⟨b, 6, none⟩) hn q6).setCell (p := ⟨b, 7, none⟩) hn q7).setCell (p := ⟨b, 8, none⟩) hn q8).setCell (p := ⟨b, 9, none⟩) hn q9).setCell (p := ⟨b, 10, none⟩) hn q10).setCell (p := ⟨b, 11, none⟩) hn q11).setCell (p := ⟨b, 12, none⟩) hn q12)
theorem StF.next3 {g : Nat} {w w2 W : World} {F : Nat → Sl} (h : StF g w w2 F) (hb : Below (g + 1 + 1 + 1) w2 W) : StF g w W F := by
  have hz := h.sz
  have hz' := hb.size
  have hc : ∀ b o, b < g + 1 + 1 + 1 → W.cell? ⟨b, o, none⟩ = w2.cell? ⟨b, o, none⟩ := fun b o hl => hb.cell (p := ⟨b, o, none⟩) hl
  have hf : ∀ b o, b < g + 1 + 1 + 1 → W.frozen? ⟨b, o, none⟩ = w2.frozen? ⟨b, o, none⟩ := fun b o hl => hb.frozen (p := ⟨b, o, none⟩) hl
  exact ⟨h.bel.trans (hb.mono (by omega)), by omega, fun j v hv => (hc _ _ (by omega)).trans (h.r0 j v hv), fun j hj => by rw [hc _ _ (by omega), hf _ _ (by omega)]; exact h.t0 j hj, fun j hj => by rw [hc _ _ (by omega), hf _ _ (by omega)]; exact h.t2 j hj⟩
theorem storeS_b {s : Sl} {i n : Nat} {v : Vl} (hs : SOk s) (hp : SzP i n) (hv : VOk v) : (storeS s i n v).1.b.length = 8 := by
  unfold storeS
  split
  · split <;> rfl
  · have : (baseS s).b.length = 8 := by unfold baseS; split; exact hs.2.1; rfl
    show (putL (baseS s).b i (layL v.n n)).length = 8
    rw [putL_len (by rw [layL_len, this]; exact hp.2), this]
theorem eight' (s : Sl) (h : s.b.length = 8) : ∃ a0 a b c d e f g i k m n o, s = ⟨a0, [a, b, c, d, e, f, g, i], ⟨k, m, n, o⟩⟩ := by
  obtain ⟨h0, l, ⟨k, m, n, o⟩⟩ := s
  obtain ⟨a, b, c, d, e, f, g, i, rfl⟩ := eight h
  exact ⟨h0, a, b, c, d, e, f, g, i, k, m, n, o, rfl⟩
set_option maxHeartbeats 1600000 in
theorem store_f (F : Nat → Sl) (off size : Int) (v : Vl) (w : World) (hF : FOk F) (hv : VOk v) (ho : -9223372036854775808 ≤ off ∧ off < 9223372036854775808) (hr : rightF F = true) (hm : mayB v = true) (hs : sizeB size = true) (hk : v.k ≠ 0) (hp : placeE off size = 0) (hE : (storeS (F (off / 8).toNat) (off % 8).toNat size.toNat v).2 ≠ 0) :
    Calls Try.prog 17 #[fV F, .int .i64 off, .int .i64 size, vV v] w fun e w' => e = .returned (.tuple #[fV (storeF F off size v).1, .int .i64 (storeF F off size v).2]) ∧ Below w.heap.size w w' := by
  have HRt : Hid (∀ W, Calls Try.prog 15 #[.agg (fC F).toArray] W fun e w' => e = .returned (.bool true) ∧ Below W.heap.size W w') := fun W => hr ▸ Right_any F W hF
  have HI35 : Hid ((Try.prog.info? 35).map (·.size) = some (fC F).length) := hid (by rw [fC_len hF]; kernel_rfl)
  have I0 := hid (StF.first w F hF (.cells #[.int .u8 v.k, .int .i64 v.m, .int .u64 v.n, .int .i64 v.o] 25) 35 35)
  have HR0 := hid I0.out.r0
  have BF := bld_f0
  have ZF := (zero_of_info zf_info).1
  have hL : storeF F off size v = (f0, (storeS (F (off / 8).toNat) (off % 8).toNat size.toNat v).2) := by simp [storeF, hr, hm, hs, hk, hp, hE]
  have HM : Hid (∀ W, Calls Try.prog 20 #[vV v] W fun e w' => e = .returned (.bool true) ∧ Below W.heap.size W w') := fun W => hm ▸ may_any v W
  have HZ : Hid (∀ W, Calls Try.prog 29 #[.int .i64 size] W fun e w' => e = .returned (.bool true) ∧ W = w') := fun W => hs ▸ isSize_any size W
  have HO := hid (fun W => onStack_any off size W hs ho)
  rw [hp] at HO
  obtain ⟨h0, h1, hz, h2, e1, e2, e3⟩ := place_ok hs hp
  have HSt := hid (fun W => sstore_any (F (off / 8).toNat) (off % 8).toNat size.toNat v W (hF _ h2) hz hv)
  have hb8 := storeS_b (hF _ h2) hz hv
  rw [hL]
  generalize (off / 8).toNat = K at *
  generalize (off % 8).toNat = i at *
  generalize size.toNat = n at *
  subst e3
  have HF := hid hF
  have hK : (K : Int) < 64 := by omega
  generalize storeS (F K) i n v = R at HSt hE hb8 ⊢
  obtain ⟨s1, E⟩ := R
  dsimp only at hE hb8 HSt ⊢
  obtain ⟨a0, a, b, c, d, e, f, g, j, sk, sm, sn, so, rfl⟩ := eight' s1 hb8
  obtain ⟨q, m, x, o⟩ := v
  dsimp only at hk
  have hk' : (q == 0) = false := by simpa using hk
  have hE' : (E != 0) = true := by simpa using hE
  obtain ⟨u0, u1, u2, u3, u4, u5, u6, u7, u8, uk, um, un, uo, hFK⟩ := eight' (F K) (hF K h2).2.1
  rw [hFK] at HSt
  have HFK := hid hFK
  clear hFK
  unfold fV at BF ZF ⊢
  unfold sV at HSt
  unfold vV at HM HSt ⊢
  dsimp only [sC, bC, vC, List.map, List.append, HAppend.hAppend, Append.append] at HM HSt ⊢
  have h512 := h1
  clear hL hr hF hs hp hz hm hv hk h1 hE
  go_enter Try.func17, Try.ntmps17
  go_wp2_with (refine wpList_load_mid (op := ⟨_, .load 35 _, _, _, _, _⟩) rfl 35 _ rfl w.heap.size 0 rfl (fC F) _ HR0.out Try.underlying35 rfl HI35.out ?_)
  refine (HRt.out _).mono ?_
  rintro e w1 ⟨rfl, b1⟩
  have I1 := hid (I0.out.next b1)
  have p1 : w.heap.size + 1 + 1 < w1.heap.size := I1.out.sz
  have q1 : w.heap.size + 1 < w1.heap.size := by omega
  have r1 : w.heap.size < w1.heap.size := by omega
  obtain ⟨hc1, hf1⟩ := bcell b1
  clear b1
  clear HR0
  go_wp2_with fail
  refine (HM.out _).mono ?_
  rintro e w2 ⟨rfl, b2⟩
  have I2 := hid (I1.out.next b2)
  have p2 : w.heap.size + 1 + 1 < w2.heap.size := I2.out.sz
  have q2 : w.heap.size + 1 < w2.heap.size := by omega
  have r2 : w.heap.size < w2.heap.size := by omega
  obtain ⟨hc2, hf2⟩ := bcell b2
  clear b2
  go_wp2_with (first | (go_at_call 29; refine (HZ.out _).mono ?_; rintro e w9 ⟨rfl, rfl⟩) | (go_at_call 30; refine (HO.out _).mono ?_; rintro e w9 ⟨rfl, rfl⟩))
  have hrk : w2.rangeAt w.heap.size (K * 13) (sC (F K)) := by have := range_at HF.out I2.out.r0 K h2; rwa [Nat.zero_add] at this
  have s0_ : Hid (w2.cell? ⟨w.heap.size, K * 13, none⟩ = some (.int .u8 u0)) := hid (hrk 0 _ (by rw [HFK.out]; rfl))
  have s1_ : Hid (w2.cell? ⟨w.heap.size, K * 13 + 1, none⟩ = some (.int .u8 u1)) := hid (hrk 1 _ (by rw [HFK.out]; rfl))
  have s2_ : Hid (w2.cell? ⟨w.heap.size, K * 13 + 2, none⟩ = some (.int .u8 u2)) := hid (hrk 2 _ (by rw [HFK.out]; rfl))
  have s3_ : Hid (w2.cell? ⟨w.heap.size, K * 13 + 3, none⟩ = some (.int .u8 u3)) := hid (hrk 3 _ (by rw [HFK.out]; rfl))
  have s4_ : Hid (w2.cell? ⟨w.heap.size, K * 13 + 4, none⟩ = some (.int .u8 u4)) := hid (hrk 4 _ (by rw [HFK.out]; rfl))
  have s5_ : Hid (w2.cell? ⟨w.heap.size, K * 13 + 5, none⟩ = some (.int .u8 u5)) := hid (hrk 5 _ (by rw [HFK.out]; rfl))
  have s6_ : Hid (w2.cell? ⟨w.heap.size, K * 13 + 6, none⟩ = some (.int .u8 u6)) := hid (hrk 6 _ (by rw [HFK.out]; rfl))
  have s7_ : Hid (w2.cell? ⟨w.heap.size, K * 13 + 7, none⟩ = some (.int .u8 u7)) := hid (hrk 7 _ (by rw [HFK.out]; rfl))
  have s8_ : Hid (w2.cell? ⟨w.heap.size, K * 13 + 8, none⟩ = some (.int .u8 u8)) := hid (hrk 8 _ (by rw [HFK.out]; rfl))
  have s9_ : Hid (w2.cell? ⟨w.heap.size, K * 13 + 9, none⟩ = some (.int .u8 uk)) := hid (hrk 9 _ (by rw [HFK.out]; rfl))
  have s10_ : Hid (w2.cell? ⟨w.heap.size, K * 13 + 10, none⟩ = some (.int .i64 um)) := hid (hrk 10 _ (by rw [HFK.out]; rfl))
  have s11_ : Hid (w2.cell? ⟨w.heap.size, K * 13 + 11, none⟩ = some (.int .u64 un)) := hid (hrk 11 _ (by rw [HFK.out]; rfl))
  have s12_ : Hid (w2.cell? ⟨w.heap.size, K * 13 + 12, none⟩ = some (.int .i64 uo)) := hid (hrk 12 _ (by rw [HFK.out]; rfl))
  clear hrk
  have v0_ : Hid (w2.cell? ⟨w.heap.size + 1, 0, none⟩ = some (.int .u8 q)) := hid (by simp [hc2, hc1, q1, q2, go_sem])
  have v1_ : Hid (w2.cell? ⟨w.heap.size + 1, 1, none⟩ = some (.int .i64 m)) := hid (by simp [hc2, hc1, q1, q2, go_sem])
  have v2_ : Hid (w2.cell? ⟨w.heap.size + 1, 2, none⟩ = some (.int .u64 x)) := hid (by simp [hc2, hc1, q1, q2, go_sem])
  have v3_ : Hid (w2.cell? ⟨w.heap.size + 1, 3, none⟩ = some (.int .i64 o)) := hid (by simp [hc2, hc1, q1, q2, go_sem])
  clear hc1 hc2 hf1 hf2
  have HBF := hid BF
  have HZF := hid ZF
  clear BF ZF
  have hBB := Below.refl (w.heap.size + 1 + 1 + 1) w2
  have d1 : off.tdiv 8 = (K : Int) := by rw [Int.tdiv_eq_ediv_of_nonneg h0]; exact e1
  have d2 : off.tmod 8 = (i : Int) := by rw [Int.tmod_eq_emod_of_nonneg h0]; exact e2
  have d4 : IntKind.i64.wrap (K : Int) = (K : Int) := by rw [IntKind.wrap_i64]; omega
  have d5 : IntKind.i64.wrap (i : Int) = (i : Int) := by rw [IntKind.wrap_i64]; omega
  have d6 : ((K : Int)).toNat = K := by omega
  have hK0 : (0 : Int) ≤ (K : Int) := by omega
  clear e1 e2 h512 h0 ho
  go_region_held3 (fun w' => w'.cell? ⟨w.heap.size, K * 13, none⟩ = some (.int .u8 u0) ∧ w'.cell? ⟨w.heap.size, K * 13 + 1, none⟩ = some (.int .u8 u1) ∧ w'.cell? ⟨w.heap.size, K * 13 + 2, none⟩ = some (.int .u8 u2) ∧ w'.cell? ⟨w.heap.size, K * 13 + 3, none⟩ = some (.int .u8 u3) ∧ w'.cell? ⟨w.heap.size, K * 13 + 4, none⟩ = some (.int .u8 u4) ∧ w'.cell? ⟨w.heap.size, K * 13 + 5, none⟩ = some (.int .u8 u5) ∧ w'.cell? ⟨w.heap.size, K * 13 + 6, none⟩ = some (.int .u8 u6) ∧ w'.cell? ⟨w.heap.size, K * 13 + 7, none⟩ = some (.int .u8 u7) ∧ w'.cell? ⟨w.heap.size, K * 13 + 8, none⟩ = some (.int .u8 u8) ∧ w'.cell? ⟨w.heap.size, K * 13 + 9, none⟩ = some (.int .u8 uk) ∧ w'.cell? ⟨w.heap.size, K * 13 + 10, none⟩ = some (.int .i64 um) ∧ w'.cell? ⟨w.heap.size, K * 13 + 11, none⟩ = some (.int .u64 un) ∧ w'.cell? ⟨w.heap.size, K * 13 + 12, none⟩ = some (.int .i64 uo) ∧ w'.cell? ⟨w.heap.size + 1, 0, none⟩ = some (.int .u8 q) ∧ w'.cell? ⟨w.heap.size + 1, 1, none⟩ = some (.int .i64 m) ∧ w'.cell? ⟨w.heap.size + 1, 2, none⟩ = some (.int .u64 x) ∧ w'.cell? ⟨w.heap.size + 1, 3, none⟩ = some (.int .i64 o) ∧ Below (w.heap.size + 1 + 1 + 1) w2 w')
    ((refine keep17 (w.heap.size + 1 + 1) (by omega) s0_.out s1_.out s2_.out s3_.out s4_.out s5_.out s6_.out s7_.out s8_.out s9_.out s10_.out s11_.out s12_.out v0_.out v1_.out v2_.out v3_.out ?_; go_split_ands; first | (with_reducible assumption) | ((with_reducible refine Below.drew ?_); with_reducible assumption) | ((with_reducible refine belowA ?_ p2); with_reducible assumption) | ((with_reducible refine Below.drew ?_); (with_reducible refine belowA ?_ p2); with_reducible assumption) | ((with_reducible refine realloc (by with_reducible assumption) hge p2)) | ((with_reducible refine Below.drew ?_); (with_reducible refine realloc (by with_reducible assumption) hge p2)) | ((with_reducible refine set13 ?_ hge); with_reducible assumption) | ((with_reducible refine Below.drew ?_); (with_reducible refine set13 ?_ hge); with_reducible assumption)))
    ((go_at_call 37; go_split_ands; refine (HSt.out _).mono ?_; rintro e w9 ⟨rfl, b9⟩; have hB9 := belowN (n := w.heap.size + 1 + 1) (w2 := w2) b9 (by with_reducible assumption) p2; first | (have hh := alloc13 I2.out.t2 p2 b9 (by with_reducible assumption); obtain ⟨hge, z0, y0, z1, y1, z2, y2, z3, y3, z4, y4, z5, y5, z6, y6, z7, y7, z8, y8, z9, y9, z10, y10, z11, y11, z12, y12⟩ := hh) | (have hh := alloc13d I2.out.t2 p2 b9 (by with_reducible assumption); obtain ⟨hge, z0, y0, z1, y1, z2, y2, z3, y3, z4, y4, z5, y5, z6, y6, z7, y7, z8, y8, z9, y9, z10, y10, z11, y11, z12, y12⟩ := hh) | (have hge := sz9 (by with_reducible assumption) p2 b9)))
  · go_split_ands
    have hS : Below (w.heap.size + 1 + 1 + 1) w2 (w9.alloc (.cells #[.int .u8 a0, .int .u8 a, .int .u8 b, .int .u8 c, .int .u8 d, .int .u8 e, .int .u8 f, .int .u8 g, .int .u8 j, .int .u8 sk, .int .i64 sm, .int .u64 sn, .int .i64 so] 33)) := by with_reducible assumption
    have I3 := hid (I2.out.next3 hS)
    generalize w9.alloc (.cells #[.int .u8 a0, .int .u8 a, .int .u8 b, .int .u8 c, .int .u8 d, .int .u8 e, .int .u8 f, .int .u8 g, .int .u8 j, .int .u8 sk, .int .i64 sm, .int .u64 sn, .int .i64 so] 33) = w3 at I3 ⊢
    have BF := HBF.out
    have ZF := HZF.out
    have HT := hid I3.out.t2
    go_wp2_with (refine wpList_store_f (op := ⟨_, .store 35 _ _, _, _, _, _⟩) _ _ rfl rfl (w.heap.size + 1 + 1) f0 f0_ok rfl rfl HT.out ?_)
    exact bodyPost_ret (res_cell rfl _ _ (w.heap.size + 1 + 1) 0 (fC f0) _ _ rfl rfl (World.rangeAt_setCells_same w3 (w.heap.size + 1 + 1) 0 (fC f0) (by rw [fC_len f0_ok]; exact HT.out)) Try.underlying35 rfl (by rw [fC_len f0_ok]; exact info35)) rfl ⟨rfl, below_setCells (w.heap.size + 1 + 1) (by omega) (fC f0) 0 w3 I3.out.bel⟩
  · go_split_ands
    have hS : Below (w.heap.size + 1 + 1 + 1) w2 ((((((((((((((w9.setCell ⟨w2.heap.size, 0, none⟩ (.int .u8 a0)).setCell ⟨w2.heap.size, 1, none⟩ (.int .u8 a)).setCell ⟨w2.heap.size, 2, none⟩ (.int .u8 b)).setCell ⟨w2.heap.size, 3, none⟩ (.int .u8 c)).setCell ⟨w2.heap.size, 4, none⟩ (.int .u8 d)).setCell ⟨w2.heap.size, 5, none⟩ (.int .u8 e)).setCell ⟨w2.heap.size, 6, none⟩ (.int .u8 f)).setCell ⟨w2.heap.size, 7, none⟩ (.int .u8 g)).setCell ⟨w2.heap.size, 8, none⟩ (.int .u8 j)).setCell ⟨w2.heap.size, 9, none⟩ (.int .u8 sk)).setCell ⟨w2.heap.size, 10, none⟩ (.int .i64 sm)).setCell ⟨w2.heap.size, 11, none⟩ (.int .u64 sn)).setCell ⟨w2.heap.size, 12, none⟩ (.int .i64 so))) := by with_reducible assumption
    have I3 := hid (I2.out.next3 hS)
    generalize (((((((((((((w9.setCell ⟨w2.heap.size, 0, none⟩ (.int .u8 a0)).setCell ⟨w2.heap.size, 1, none⟩ (.int .u8 a)).setCell ⟨w2.heap.size, 2, none⟩ (.int .u8 b)).setCell ⟨w2.heap.size, 3, none⟩ (.int .u8 c)).setCell ⟨w2.heap.size, 4, none⟩ (.int .u8 d)).setCell ⟨w2.heap.size, 5, none⟩ (.int .u8 e)).setCell ⟨w2.heap.size, 6, none⟩ (.int .u8 f)).setCell ⟨w2.heap.size, 7, none⟩ (.int .u8 g)).setCell ⟨w2.heap.size, 8, none⟩ (.int .u8 j)).setCell ⟨w2.heap.size, 9, none⟩ (.int .u8 sk)).setCell ⟨w2.heap.size, 10, none⟩ (.int .i64 sm)).setCell ⟨w2.heap.size, 11, none⟩ (.int .u64 sn)).setCell ⟨w2.heap.size, 12, none⟩ (.int .i64 so)) = w3 at I3 ⊢
    have BF := HBF.out
    have ZF := HZF.out
    have HT := hid I3.out.t2
    go_wp2_with (refine wpList_store_f (op := ⟨_, .store 35 _ _, _, _, _, _⟩) _ _ rfl rfl (w.heap.size + 1 + 1) f0 f0_ok rfl rfl HT.out ?_)
    exact bodyPost_ret (res_cell rfl _ _ (w.heap.size + 1 + 1) 0 (fC f0) _ _ rfl rfl (World.rangeAt_setCells_same w3 (w.heap.size + 1 + 1) 0 (fC f0) (by rw [fC_len f0_ok]; exact HT.out)) Try.underlying35 rfl (by rw [fC_len f0_ok]; exact info35)) rfl ⟨rfl, below_setCells (w.heap.size + 1 + 1) (by omega) (fC f0) 0 w3 I3.out.bel⟩

end Go.Proofs.Ytjlaenkfjejbkaa
