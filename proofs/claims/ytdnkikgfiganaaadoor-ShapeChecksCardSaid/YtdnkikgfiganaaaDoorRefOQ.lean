/-
  Contracts of the document's own Of, ways Q.
-/
import Derived.Test.YtdnkikgfiganaaaDoorRefO
namespace Go.Proofs.YtdnkikgfiganaaaDoor
set_option linter.unusedSimpArgs false
set_option linter.unusedVariables false
open Go.ChangeShapes Go.WideShapes Go.ChangeAt Go.RowKit

set_option maxHeartbeats 1000000 in
theorem rof_z_nppp (r : RR) (op dst src off imm : Int) (w : World) (h0 : 0 ≤ op) (h1 : op < 256) (d0 : 0 ≤ dst) (d1 : dst < 256) (s0 : 0 ≤ src) (s1 : src < 256) (o0 : -32768 ≤ off) (o1 : off < 32768) (m0 : -2147483648 ≤ imm) (m1 : imm < 2147483648) (hF : Hid (findI op src imm = some r)) (a1 : Hid (rwB r.dst dst = false)) (a2 : Hid (rwB r.src src = false)) (z0 : (r.dst == 0) = false) (z1 : (r.src == 0) = true) (y1 : (src != 0) = false) (z2 : (r.off == 0) = true) (y2 : (off != 0) = false) (z3 : (r.imm == 0) = true) (y3 : (imm != 0) = false) :
    Calls Tryd.prog 48 #[.agg #[.int .u8 op, .int .u8 dst, .int .u8 src, .int .i16 off, .int .i32 imm]] w fun e w' => e = .returned (.tuple #[whV (toRw r), .int .i64 0]) ∧ Below w.heap.size w w' := by
  have hr := hid fun W => find_any op dst src off imm W s0 s1 m0 m1
  rw [hF.out] at hr
  clear hF
  go_enter Tryd.func48, Tryd.ntmps48
  go_wp2_with fail
  refine (hr.out _).mono ?_
  rintro e w1 ⟨rfl, b1⟩
  obtain ⟨hc, hf⟩ := bcell b1
  have hb1 : Below w.heap.size w w1 := (((Below.refl _ _).alloc (Nat.le_refl _) _).alloc (by simp) _).trans (b1.mono (by simp; omega))
  have hz : w.heap.size + 1 < w1.heap.size := by have := b1.size; simp at this; omega
  have hz' : w.heap.size < w1.heap.size := by omega
  clear b1 hr
  simp only [fdR, rrV, Option.isSome]
  go_wp2_with fail
  refine (wrong_is _ _ _ a1.out _).mono ?_
  rintro e w' ⟨rfl, rfl⟩
  go_wp2_with fail
  refine (wrong_is _ _ _ a2.out _).mono ?_
  rintro e w' ⟨rfl, rfl⟩
  go_wp2
  exact bodyPost_ret (v := .tuple #[whV (toRw r), .int .i64 0]) (by simp [results, Tryd.results48, go_sem, hc, hz]; rfl) rfl ⟨rfl, ((((((hb1.setCell (by simp) _).setCell (by simp) _).setCell (by simp) _).setCell (by simp) _).setCell (by simp) _).alloc (by simp; omega) _)⟩

set_option maxHeartbeats 1000000 in
theorem rof_z_nppf (r : RR) (op dst src off imm : Int) (w : World) (h0 : 0 ≤ op) (h1 : op < 256) (d0 : 0 ≤ dst) (d1 : dst < 256) (s0 : 0 ≤ src) (s1 : src < 256) (o0 : -32768 ≤ off) (o1 : off < 32768) (m0 : -2147483648 ≤ imm) (m1 : imm < 2147483648) (hF : Hid (findI op src imm = some r)) (a1 : Hid (rwB r.dst dst = false)) (a2 : Hid (rwB r.src src = false)) (z0 : (r.dst == 0) = false) (z1 : (r.src == 0) = true) (y1 : (src != 0) = false) (z2 : (r.off == 0) = true) (y2 : (off != 0) = false) (z3 : (r.imm == 0) = true) (y3 : (imm != 0) = true) :
    Calls Tryd.prog 48 #[.agg #[.int .u8 op, .int .u8 dst, .int .u8 src, .int .i16 off, .int .i32 imm]] w fun e w' => e = .returned (.tuple #[whV r0, .int .i64 22]) ∧ Below w.heap.size w w' := by
  have hr := hid fun W => find_any op dst src off imm W s0 s1 m0 m1
  rw [hF.out] at hr
  clear hF
  go_enter Tryd.func48, Tryd.ntmps48
  go_wp2_with fail
  refine (hr.out _).mono ?_
  rintro e w1 ⟨rfl, b1⟩
  obtain ⟨hc, hf⟩ := bcell b1
  have hb1 : Below w.heap.size w w1 := (((Below.refl _ _).alloc (Nat.le_refl _) _).alloc (by simp) _).trans (b1.mono (by simp; omega))
  have hz : w.heap.size + 1 < w1.heap.size := by have := b1.size; simp at this; omega
  have hz' : w.heap.size < w1.heap.size := by omega
  clear b1 hr
  simp only [fdR, rrV, Option.isSome]
  go_wp2_with fail
  refine (wrong_is _ _ _ a1.out _).mono ?_
  rintro e w' ⟨rfl, rfl⟩
  go_wp2_with fail
  refine (wrong_is _ _ _ a2.out _).mono ?_
  rintro e w' ⟨rfl, rfl⟩
  go_wp2
  exact bodyPost_ret (v := .tuple #[whV r0, .int .i64 22]) (by simp [results, Tryd.results48, go_sem, hc, hz]; rfl) rfl ⟨rfl, ((((((hb1.setCell (by simp) _).setCell (by simp) _).setCell (by simp) _).setCell (by simp) _).setCell (by simp) _).alloc (by simp; omega) _)⟩

set_option maxHeartbeats 1000000 in
theorem rof_z_npf (r : RR) (op dst src off imm : Int) (w : World) (h0 : 0 ≤ op) (h1 : op < 256) (d0 : 0 ≤ dst) (d1 : dst < 256) (s0 : 0 ≤ src) (s1 : src < 256) (o0 : -32768 ≤ off) (o1 : off < 32768) (m0 : -2147483648 ≤ imm) (m1 : imm < 2147483648) (hF : Hid (findI op src imm = some r)) (a1 : Hid (rwB r.dst dst = false)) (a2 : Hid (rwB r.src src = false)) (z0 : (r.dst == 0) = false) (z1 : (r.src == 0) = true) (y1 : (src != 0) = false) (z2 : (r.off == 0) = true) (y2 : (off != 0) = true) :
    Calls Tryd.prog 48 #[.agg #[.int .u8 op, .int .u8 dst, .int .u8 src, .int .i16 off, .int .i32 imm]] w fun e w' => e = .returned (.tuple #[whV r0, .int .i64 22]) ∧ Below w.heap.size w w' := by
  have hr := hid fun W => find_any op dst src off imm W s0 s1 m0 m1
  rw [hF.out] at hr
  clear hF
  go_enter Tryd.func48, Tryd.ntmps48
  go_wp2_with fail
  refine (hr.out _).mono ?_
  rintro e w1 ⟨rfl, b1⟩
  obtain ⟨hc, hf⟩ := bcell b1
  have hb1 : Below w.heap.size w w1 := (((Below.refl _ _).alloc (Nat.le_refl _) _).alloc (by simp) _).trans (b1.mono (by simp; omega))
  have hz : w.heap.size + 1 < w1.heap.size := by have := b1.size; simp at this; omega
  have hz' : w.heap.size < w1.heap.size := by omega
  clear b1 hr
  simp only [fdR, rrV, Option.isSome]
  go_wp2_with fail
  refine (wrong_is _ _ _ a1.out _).mono ?_
  rintro e w' ⟨rfl, rfl⟩
  go_wp2_with fail
  refine (wrong_is _ _ _ a2.out _).mono ?_
  rintro e w' ⟨rfl, rfl⟩
  go_wp2
  exact bodyPost_ret (v := .tuple #[whV r0, .int .i64 22]) (by simp [results, Tryd.results48, go_sem, hc, hz]; rfl) rfl ⟨rfl, ((((((hb1.setCell (by simp) _).setCell (by simp) _).setCell (by simp) _).setCell (by simp) _).setCell (by simp) _).alloc (by simp; omega) _)⟩

set_option maxHeartbeats 1000000 in
theorem rof_z_nf (r : RR) (op dst src off imm : Int) (w : World) (h0 : 0 ≤ op) (h1 : op < 256) (d0 : 0 ≤ dst) (d1 : dst < 256) (s0 : 0 ≤ src) (s1 : src < 256) (o0 : -32768 ≤ off) (o1 : off < 32768) (m0 : -2147483648 ≤ imm) (m1 : imm < 2147483648) (hF : Hid (findI op src imm = some r)) (a1 : Hid (rwB r.dst dst = false)) (a2 : Hid (rwB r.src src = false)) (z0 : (r.dst == 0) = false) (z1 : (r.src == 0) = true) (y1 : (src != 0) = true) :
    Calls Tryd.prog 48 #[.agg #[.int .u8 op, .int .u8 dst, .int .u8 src, .int .i16 off, .int .i32 imm]] w fun e w' => e = .returned (.tuple #[whV r0, .int .i64 22]) ∧ Below w.heap.size w w' := by
  have hr := hid fun W => find_any op dst src off imm W s0 s1 m0 m1
  rw [hF.out] at hr
  clear hF
  go_enter Tryd.func48, Tryd.ntmps48
  go_wp2_with fail
  refine (hr.out _).mono ?_
  rintro e w1 ⟨rfl, b1⟩
  obtain ⟨hc, hf⟩ := bcell b1
  have hb1 : Below w.heap.size w w1 := (((Below.refl _ _).alloc (Nat.le_refl _) _).alloc (by simp) _).trans (b1.mono (by simp; omega))
  have hz : w.heap.size + 1 < w1.heap.size := by have := b1.size; simp at this; omega
  have hz' : w.heap.size < w1.heap.size := by omega
  clear b1 hr
  simp only [fdR, rrV, Option.isSome]
  go_wp2_with fail
  refine (wrong_is _ _ _ a1.out _).mono ?_
  rintro e w' ⟨rfl, rfl⟩
  go_wp2_with fail
  refine (wrong_is _ _ _ a2.out _).mono ?_
  rintro e w' ⟨rfl, rfl⟩
  go_wp2
  exact bodyPost_ret (v := .tuple #[whV r0, .int .i64 22]) (by simp [results, Tryd.results48, go_sem, hc, hz]; rfl) rfl ⟨rfl, ((((((hb1.setCell (by simp) _).setCell (by simp) _).setCell (by simp) _).setCell (by simp) _).setCell (by simp) _).alloc (by simp; omega) _)⟩

set_option maxHeartbeats 1000000 in
theorem rof_z_pnnn (r : RR) (op dst src off imm : Int) (w : World) (h0 : 0 ≤ op) (h1 : op < 256) (d0 : 0 ≤ dst) (d1 : dst < 256) (s0 : 0 ≤ src) (s1 : src < 256) (o0 : -32768 ≤ off) (o1 : off < 32768) (m0 : -2147483648 ≤ imm) (m1 : imm < 2147483648) (hF : Hid (findI op src imm = some r)) (a1 : Hid (rwB r.dst dst = false)) (a2 : Hid (rwB r.src src = false)) (z0 : (r.dst == 0) = true) (y0 : (dst != 0) = false) (z1 : (r.src == 0) = false) (z2 : (r.off == 0) = false) (z3 : (r.imm == 0) = false) :
    Calls Tryd.prog 48 #[.agg #[.int .u8 op, .int .u8 dst, .int .u8 src, .int .i16 off, .int .i32 imm]] w fun e w' => e = .returned (.tuple #[whV (toRw r), .int .i64 0]) ∧ Below w.heap.size w w' := by
  have hr := hid fun W => find_any op dst src off imm W s0 s1 m0 m1
  rw [hF.out] at hr
  clear hF
  go_enter Tryd.func48, Tryd.ntmps48
  go_wp2_with fail
  refine (hr.out _).mono ?_
  rintro e w1 ⟨rfl, b1⟩
  obtain ⟨hc, hf⟩ := bcell b1
  have hb1 : Below w.heap.size w w1 := (((Below.refl _ _).alloc (Nat.le_refl _) _).alloc (by simp) _).trans (b1.mono (by simp; omega))
  have hz : w.heap.size + 1 < w1.heap.size := by have := b1.size; simp at this; omega
  have hz' : w.heap.size < w1.heap.size := by omega
  clear b1 hr
  simp only [fdR, rrV, Option.isSome]
  go_wp2_with fail
  refine (wrong_is _ _ _ a1.out _).mono ?_
  rintro e w' ⟨rfl, rfl⟩
  go_wp2_with fail
  refine (wrong_is _ _ _ a2.out _).mono ?_
  rintro e w' ⟨rfl, rfl⟩
  go_wp2
  exact bodyPost_ret (v := .tuple #[whV (toRw r), .int .i64 0]) (by simp [results, Tryd.results48, go_sem, hc, hz]; rfl) rfl ⟨rfl, ((((((hb1.setCell (by simp) _).setCell (by simp) _).setCell (by simp) _).setCell (by simp) _).setCell (by simp) _).alloc (by simp; omega) _)⟩

set_option maxHeartbeats 1000000 in
theorem rof_z_pnnp (r : RR) (op dst src off imm : Int) (w : World) (h0 : 0 ≤ op) (h1 : op < 256) (d0 : 0 ≤ dst) (d1 : dst < 256) (s0 : 0 ≤ src) (s1 : src < 256) (o0 : -32768 ≤ off) (o1 : off < 32768) (m0 : -2147483648 ≤ imm) (m1 : imm < 2147483648) (hF : Hid (findI op src imm = some r)) (a1 : Hid (rwB r.dst dst = false)) (a2 : Hid (rwB r.src src = false)) (z0 : (r.dst == 0) = true) (y0 : (dst != 0) = false) (z1 : (r.src == 0) = false) (z2 : (r.off == 0) = false) (z3 : (r.imm == 0) = true) (y3 : (imm != 0) = false) :
    Calls Tryd.prog 48 #[.agg #[.int .u8 op, .int .u8 dst, .int .u8 src, .int .i16 off, .int .i32 imm]] w fun e w' => e = .returned (.tuple #[whV (toRw r), .int .i64 0]) ∧ Below w.heap.size w w' := by
  have hr := hid fun W => find_any op dst src off imm W s0 s1 m0 m1
  rw [hF.out] at hr
  clear hF
  go_enter Tryd.func48, Tryd.ntmps48
  go_wp2_with fail
  refine (hr.out _).mono ?_
  rintro e w1 ⟨rfl, b1⟩
  obtain ⟨hc, hf⟩ := bcell b1
  have hb1 : Below w.heap.size w w1 := (((Below.refl _ _).alloc (Nat.le_refl _) _).alloc (by simp) _).trans (b1.mono (by simp; omega))
  have hz : w.heap.size + 1 < w1.heap.size := by have := b1.size; simp at this; omega
  have hz' : w.heap.size < w1.heap.size := by omega
  clear b1 hr
  simp only [fdR, rrV, Option.isSome]
  go_wp2_with fail
  refine (wrong_is _ _ _ a1.out _).mono ?_
  rintro e w' ⟨rfl, rfl⟩
  go_wp2_with fail
  refine (wrong_is _ _ _ a2.out _).mono ?_
  rintro e w' ⟨rfl, rfl⟩
  go_wp2
  exact bodyPost_ret (v := .tuple #[whV (toRw r), .int .i64 0]) (by simp [results, Tryd.results48, go_sem, hc, hz]; rfl) rfl ⟨rfl, ((((((hb1.setCell (by simp) _).setCell (by simp) _).setCell (by simp) _).setCell (by simp) _).setCell (by simp) _).alloc (by simp; omega) _)⟩

set_option maxHeartbeats 1000000 in
theorem rof_z_pnnf (r : RR) (op dst src off imm : Int) (w : World) (h0 : 0 ≤ op) (h1 : op < 256) (d0 : 0 ≤ dst) (d1 : dst < 256) (s0 : 0 ≤ src) (s1 : src < 256) (o0 : -32768 ≤ off) (o1 : off < 32768) (m0 : -2147483648 ≤ imm) (m1 : imm < 2147483648) (hF : Hid (findI op src imm = some r)) (a1 : Hid (rwB r.dst dst = false)) (a2 : Hid (rwB r.src src = false)) (z0 : (r.dst == 0) = true) (y0 : (dst != 0) = false) (z1 : (r.src == 0) = false) (z2 : (r.off == 0) = false) (z3 : (r.imm == 0) = true) (y3 : (imm != 0) = true) :
    Calls Tryd.prog 48 #[.agg #[.int .u8 op, .int .u8 dst, .int .u8 src, .int .i16 off, .int .i32 imm]] w fun e w' => e = .returned (.tuple #[whV r0, .int .i64 22]) ∧ Below w.heap.size w w' := by
  have hr := hid fun W => find_any op dst src off imm W s0 s1 m0 m1
  rw [hF.out] at hr
  clear hF
  go_enter Tryd.func48, Tryd.ntmps48
  go_wp2_with fail
  refine (hr.out _).mono ?_
  rintro e w1 ⟨rfl, b1⟩
  obtain ⟨hc, hf⟩ := bcell b1
  have hb1 : Below w.heap.size w w1 := (((Below.refl _ _).alloc (Nat.le_refl _) _).alloc (by simp) _).trans (b1.mono (by simp; omega))
  have hz : w.heap.size + 1 < w1.heap.size := by have := b1.size; simp at this; omega
  have hz' : w.heap.size < w1.heap.size := by omega
  clear b1 hr
  simp only [fdR, rrV, Option.isSome]
  go_wp2_with fail
  refine (wrong_is _ _ _ a1.out _).mono ?_
  rintro e w' ⟨rfl, rfl⟩
  go_wp2_with fail
  refine (wrong_is _ _ _ a2.out _).mono ?_
  rintro e w' ⟨rfl, rfl⟩
  go_wp2
  exact bodyPost_ret (v := .tuple #[whV r0, .int .i64 22]) (by simp [results, Tryd.results48, go_sem, hc, hz]; rfl) rfl ⟨rfl, ((((((hb1.setCell (by simp) _).setCell (by simp) _).setCell (by simp) _).setCell (by simp) _).setCell (by simp) _).alloc (by simp; omega) _)⟩

set_option maxHeartbeats 1000000 in
theorem rof_z_pnpn (r : RR) (op dst src off imm : Int) (w : World) (h0 : 0 ≤ op) (h1 : op < 256) (d0 : 0 ≤ dst) (d1 : dst < 256) (s0 : 0 ≤ src) (s1 : src < 256) (o0 : -32768 ≤ off) (o1 : off < 32768) (m0 : -2147483648 ≤ imm) (m1 : imm < 2147483648) (hF : Hid (findI op src imm = some r)) (a1 : Hid (rwB r.dst dst = false)) (a2 : Hid (rwB r.src src = false)) (z0 : (r.dst == 0) = true) (y0 : (dst != 0) = false) (z1 : (r.src == 0) = false) (z2 : (r.off == 0) = true) (y2 : (off != 0) = false) (z3 : (r.imm == 0) = false) :
    Calls Tryd.prog 48 #[.agg #[.int .u8 op, .int .u8 dst, .int .u8 src, .int .i16 off, .int .i32 imm]] w fun e w' => e = .returned (.tuple #[whV (toRw r), .int .i64 0]) ∧ Below w.heap.size w w' := by
  have hr := hid fun W => find_any op dst src off imm W s0 s1 m0 m1
  rw [hF.out] at hr
  clear hF
  go_enter Tryd.func48, Tryd.ntmps48
  go_wp2_with fail
  refine (hr.out _).mono ?_
  rintro e w1 ⟨rfl, b1⟩
  obtain ⟨hc, hf⟩ := bcell b1
  have hb1 : Below w.heap.size w w1 := (((Below.refl _ _).alloc (Nat.le_refl _) _).alloc (by simp) _).trans (b1.mono (by simp; omega))
  have hz : w.heap.size + 1 < w1.heap.size := by have := b1.size; simp at this; omega
  have hz' : w.heap.size < w1.heap.size := by omega
  clear b1 hr
  simp only [fdR, rrV, Option.isSome]
  go_wp2_with fail
  refine (wrong_is _ _ _ a1.out _).mono ?_
  rintro e w' ⟨rfl, rfl⟩
  go_wp2_with fail
  refine (wrong_is _ _ _ a2.out _).mono ?_
  rintro e w' ⟨rfl, rfl⟩
  go_wp2
  exact bodyPost_ret (v := .tuple #[whV (toRw r), .int .i64 0]) (by simp [results, Tryd.results48, go_sem, hc, hz]; rfl) rfl ⟨rfl, ((((((hb1.setCell (by simp) _).setCell (by simp) _).setCell (by simp) _).setCell (by simp) _).setCell (by simp) _).alloc (by simp; omega) _)⟩

set_option maxHeartbeats 1000000 in
theorem rof_z_pnpp (r : RR) (op dst src off imm : Int) (w : World) (h0 : 0 ≤ op) (h1 : op < 256) (d0 : 0 ≤ dst) (d1 : dst < 256) (s0 : 0 ≤ src) (s1 : src < 256) (o0 : -32768 ≤ off) (o1 : off < 32768) (m0 : -2147483648 ≤ imm) (m1 : imm < 2147483648) (hF : Hid (findI op src imm = some r)) (a1 : Hid (rwB r.dst dst = false)) (a2 : Hid (rwB r.src src = false)) (z0 : (r.dst == 0) = true) (y0 : (dst != 0) = false) (z1 : (r.src == 0) = false) (z2 : (r.off == 0) = true) (y2 : (off != 0) = false) (z3 : (r.imm == 0) = true) (y3 : (imm != 0) = false) :
    Calls Tryd.prog 48 #[.agg #[.int .u8 op, .int .u8 dst, .int .u8 src, .int .i16 off, .int .i32 imm]] w fun e w' => e = .returned (.tuple #[whV (toRw r), .int .i64 0]) ∧ Below w.heap.size w w' := by
  have hr := hid fun W => find_any op dst src off imm W s0 s1 m0 m1
  rw [hF.out] at hr
  clear hF
  go_enter Tryd.func48, Tryd.ntmps48
  go_wp2_with fail
  refine (hr.out _).mono ?_
  rintro e w1 ⟨rfl, b1⟩
  obtain ⟨hc, hf⟩ := bcell b1
  have hb1 : Below w.heap.size w w1 := (((Below.refl _ _).alloc (Nat.le_refl _) _).alloc (by simp) _).trans (b1.mono (by simp; omega))
  have hz : w.heap.size + 1 < w1.heap.size := by have := b1.size; simp at this; omega
  have hz' : w.heap.size < w1.heap.size := by omega
  clear b1 hr
  simp only [fdR, rrV, Option.isSome]
  go_wp2_with fail
  refine (wrong_is _ _ _ a1.out _).mono ?_
  rintro e w' ⟨rfl, rfl⟩
  go_wp2_with fail
  refine (wrong_is _ _ _ a2.out _).mono ?_
  rintro e w' ⟨rfl, rfl⟩
  go_wp2
  exact bodyPost_ret (v := .tuple #[whV (toRw r), .int .i64 0]) (by simp [results, Tryd.results48, go_sem, hc, hz]; rfl) rfl ⟨rfl, ((((((hb1.setCell (by simp) _).setCell (by simp) _).setCell (by simp) _).setCell (by simp) _).setCell (by simp) _).alloc (by simp; omega) _)⟩

set_option maxHeartbeats 1000000 in
theorem rof_z_pnpf (r : RR) (op dst src off imm : Int) (w : World) (h0 : 0 ≤ op) (h1 : op < 256) (d0 : 0 ≤ dst) (d1 : dst < 256) (s0 : 0 ≤ src) (s1 : src < 256) (o0 : -32768 ≤ off) (o1 : off < 32768) (m0 : -2147483648 ≤ imm) (m1 : imm < 2147483648) (hF : Hid (findI op src imm = some r)) (a1 : Hid (rwB r.dst dst = false)) (a2 : Hid (rwB r.src src = false)) (z0 : (r.dst == 0) = true) (y0 : (dst != 0) = false) (z1 : (r.src == 0) = false) (z2 : (r.off == 0) = true) (y2 : (off != 0) = false) (z3 : (r.imm == 0) = true) (y3 : (imm != 0) = true) :
    Calls Tryd.prog 48 #[.agg #[.int .u8 op, .int .u8 dst, .int .u8 src, .int .i16 off, .int .i32 imm]] w fun e w' => e = .returned (.tuple #[whV r0, .int .i64 22]) ∧ Below w.heap.size w w' := by
  have hr := hid fun W => find_any op dst src off imm W s0 s1 m0 m1
  rw [hF.out] at hr
  clear hF
  go_enter Tryd.func48, Tryd.ntmps48
  go_wp2_with fail
  refine (hr.out _).mono ?_
  rintro e w1 ⟨rfl, b1⟩
  obtain ⟨hc, hf⟩ := bcell b1
  have hb1 : Below w.heap.size w w1 := (((Below.refl _ _).alloc (Nat.le_refl _) _).alloc (by simp) _).trans (b1.mono (by simp; omega))
  have hz : w.heap.size + 1 < w1.heap.size := by have := b1.size; simp at this; omega
  have hz' : w.heap.size < w1.heap.size := by omega
  clear b1 hr
  simp only [fdR, rrV, Option.isSome]
  go_wp2_with fail
  refine (wrong_is _ _ _ a1.out _).mono ?_
  rintro e w' ⟨rfl, rfl⟩
  go_wp2_with fail
  refine (wrong_is _ _ _ a2.out _).mono ?_
  rintro e w' ⟨rfl, rfl⟩
  go_wp2
  exact bodyPost_ret (v := .tuple #[whV r0, .int .i64 22]) (by simp [results, Tryd.results48, go_sem, hc, hz]; rfl) rfl ⟨rfl, ((((((hb1.setCell (by simp) _).setCell (by simp) _).setCell (by simp) _).setCell (by simp) _).setCell (by simp) _).alloc (by simp; omega) _)⟩

end Go.Proofs.YtdnkikgfiganaaaDoor
