/-
  Contracts of the document's own Of, ways P. Contracts of the document's own Of, ways Q. Contracts of the document's own Of, ways S. Contracts of the document's own Of, ways U.
-/
import Derived.Test.YtodmikjpmcabiabDoorDRefO
namespace Go.Proofs.YtodmikjpmcabiabDoor
set_option linter.unusedSimpArgs false
set_option linter.unusedVariables false
set_option maxRecDepth 100000
open Go.ChangeShapes Go.WideShapes Go.ChangeAt Go.RowKit

set_option maxHeartbeats 1000000 in
theorem rof_z_nnnn (r : RR) (op dst src off imm : Int) (w : World) (h0 : 0 ≤ op) (h1 : op < 256) (d0 : 0 ≤ dst) (d1 : dst < 256) (s0 : 0 ≤ src) (s1 : src < 256) (o0 : -32768 ≤ off) (o1 : off < 32768) (m0 : -2147483648 ≤ imm) (m1 : imm < 2147483648) (hF : Hid (findI op src imm = some r)) (a1 : Hid (rwB r.dst dst = false)) (a2 : Hid (rwB r.src src = false)) (z0 : (r.dst == 0) = false) (z1 : (r.src == 0) = false) (z2 : (r.off == 0) = false) (z3 : (r.imm == 0) = false) :
    Calls Tryd.prog 41 #[.agg #[.int .u8 op, .int .u8 dst, .int .u8 src, .int .i16 off, .int .i32 imm]] w fun e w' => e = .returned (.tuple #[whV (toRw r), .int .i64 0]) ∧ Below w.heap.size w w' := by
  have hr := hid fun W => find_any op dst src off imm W s0 s1 m0 m1
  rw [hF.out] at hr
  clear hF
  go_enter Tryd.func41, Tryd.ntmps41
  go_wp2_with fail
  refine (hr.out _).mono ?_
  rintro e w1 ⟨rfl, b1⟩
  obtain ⟨hc, hf⟩ := bcell b1
  have hb1 : Below w.heap.size w w1 := (((Below.refl _ _).alloc (Nat.le_refl _) _).alloc (by simp) _).trans (b1.mono (by simp; omega))
  have hz : w.heap.size + 1 < w1.heap.size := by have := b1.size; simp at this; omega
  have hz' : w.heap.size < w1.heap.size := by omega
  clear b1 hr
  simp only [fdR, rrV, Option.isSome]
  go_wp2_with fail
  refine (wrong_is _ _ _ a1.out _).mono ?_
  rintro e w' ⟨rfl, rfl⟩
  go_wp2_with fail
  refine (wrong_is _ _ _ a2.out _).mono ?_
  rintro e w' ⟨rfl, rfl⟩
  go_wp2
  exact bodyPost_ret (v := .tuple #[whV (toRw r), .int .i64 0]) (by simp [results, Tryd.results41, go_sem, hc, hz]; rfl) rfl ⟨rfl, ((((((hb1.setCell (by simp) _).setCell (by simp) _).setCell (by simp) _).setCell (by simp) _).setCell (by simp) _).alloc (by simp; omega) _)⟩

set_option maxHeartbeats 1000000 in
theorem rof_z_nnnp (r : RR) (op dst src off imm : Int) (w : World) (h0 : 0 ≤ op) (h1 : op < 256) (d0 : 0 ≤ dst) (d1 : dst < 256) (s0 : 0 ≤ src) (s1 : src < 256) (o0 : -32768 ≤ off) (o1 : off < 32768) (m0 : -2147483648 ≤ imm) (m1 : imm < 2147483648) (hF : Hid (findI op src imm = some r)) (a1 : Hid (rwB r.dst dst = false)) (a2 : Hid (rwB r.src src = false)) (z0 : (r.dst == 0) = false) (z1 : (r.src == 0) = false) (z2 : (r.off == 0) = false) (z3 : (r.imm == 0) = true) (y3 : (imm != 0) = false) :
    Calls Tryd.prog 41 #[.agg #[.int .u8 op, .int .u8 dst, .int .u8 src, .int .i16 off, .int .i32 imm]] w fun e w' => e = .returned (.tuple #[whV (toRw r), .int .i64 0]) ∧ Below w.heap.size w w' := by
  have hr := hid fun W => find_any op dst src off imm W s0 s1 m0 m1
  rw [hF.out] at hr
  clear hF
  go_enter Tryd.func41, Tryd.ntmps41
  go_wp2_with fail
  refine (hr.out _).mono ?_
  rintro e w1 ⟨rfl, b1⟩
  obtain ⟨hc, hf⟩ := bcell b1
  have hb1 : Below w.heap.size w w1 := (((Below.refl _ _).alloc (Nat.le_refl _) _).alloc (by simp) _).trans (b1.mono (by simp; omega))
  have hz : w.heap.size + 1 < w1.heap.size := by have := b1.size; simp at this; omega
  have hz' : w.heap.size < w1.heap.size := by omega
  clear b1 hr
  simp only [fdR, rrV, Option.isSome]
  go_wp2_with fail
  refine (wrong_is _ _ _ a1.out _).mono ?_
  rintro e w' ⟨rfl, rfl⟩
  go_wp2_with fail
  refine (wrong_is _ _ _ a2.out _).mono ?_
  rintro e w' ⟨rfl, rfl⟩
  go_wp2
  exact bodyPost_ret (v := .tuple #[whV (toRw r), .int .i64 0]) (by simp [results, Tryd.results41, go_sem, hc, hz]; rfl) rfl ⟨rfl, ((((((hb1.setCell (by simp) _).setCell (by simp) _).setCell (by simp) _).setCell (by simp) _).setCell (by simp) _).alloc (by simp; omega) _)⟩

set_option maxHeartbeats 1000000 in
theorem rof_z_nnnf (r : RR) (op dst src off imm : Int) (w : World) (h0 : 0 ≤ op) (h1 : op < 256) (d0 : 0 ≤ dst) (d1 : dst < 256) (s0 : 0 ≤ src) (s1 : src < 256) (o0 : -32768 ≤ off) (o1 : off < 32768) (m0 : -2147483648 ≤ imm) (m1 : imm < 2147483648) (hF : Hid (findI op src imm = some r)) (a1 : Hid (rwB r.dst dst = false)) (a2 : Hid (rwB r.src src = false)) (z0 : (r.dst == 0) = false) (z1 : (r.src == 0) = false) (z2 : (r.off == 0) = false) (z3 : (r.imm == 0) = true) (y3 : (imm != 0) = true) :
    Calls Tryd.prog 41 #[.agg #[.int .u8 op, .int .u8 dst, .int .u8 src, .int .i16 off, .int .i32 imm]] w fun e w' => e = .returned (.tuple #[whV r0, .int .i64 22]) ∧ Below w.heap.size w w' := by
  have hr := hid fun W => find_any op dst src off imm W s0 s1 m0 m1
  rw [hF.out] at hr
  clear hF
  go_enter Tryd.func41, Tryd.ntmps41
  go_wp2_with fail
  refine (hr.out _).mono ?_
  rintro e w1 ⟨rfl, b1⟩
  obtain ⟨hc, hf⟩ := bcell b1
  have hb1 : Below w.heap.size w w1 := (((Below.refl _ _).alloc (Nat.le_refl _) _).alloc (by simp) _).trans (b1.mono (by simp; omega))
  have hz : w.heap.size + 1 < w1.heap.size := by have := b1.size; simp at this; omega
  have hz' : w.heap.size < w1.heap.size := by omega
  clear b1 hr
  simp only [fdR, rrV, Option.isSome]
  go_wp2_with fail
  refine (wrong_is _ _ _ a1.out _).mono ?_
  rintro e w' ⟨rfl, rfl⟩
  go_wp2_with fail
  refine (wrong_is _ _ _ a2.out _).mono ?_
  rintro e w' ⟨rfl, rfl⟩
  go_wp2
  exact bodyPost_ret (v := .tuple #[whV r0, .int .i64 22]) (by simp [results, Tryd.results41, go_sem, hc, hz]; rfl) rfl ⟨rfl, ((((((hb1.setCell (by simp) _).setCell (by simp) _).setCell (by simp) _).setCell (by simp) _).setCell (by simp) _).alloc (by simp; omega) _)⟩

set_option maxHeartbeats 1000000 in
theorem rof_z_nnpn (r : RR) (op dst src off imm : Int) (w : World) (h0 : 0 ≤ op) (h1 : op < 256) (d0 : 0 ≤ dst) (d1 : dst < 256) (s0 : 0 ≤ src) (s1 : src < 256) (o0 : -32768 ≤ off) (o1 : off < 32768) (m0 : -2147483648 ≤ imm) (m1 : imm < 2147483648) (hF : Hid (findI op src imm = some r)) (a1 : Hid (rwB r.dst dst = false)) (a2 : Hid (rwB r.src src = false)) (z0 : (r.dst == 0) = false) (z1 : (r.src == 0) = false) (z2 : (r.off == 0) = true) (y2 : (off != 0) = false) (z3 : (r.imm == 0) = false) :
    Calls Tryd.prog 41 #[.agg #[.int .u8 op, .int .u8 dst, .int .u8 src, .int .i16 off, .int .i32 imm]] w fun e w' => e = .returned (.tuple #[whV (toRw r), .int .i64 0]) ∧ Below w.heap.size w w' := by
  have hr := hid fun W => find_any op dst src off imm W s0 s1 m0 m1
  rw [hF.out] at hr
  clear hF
  go_enter Tryd.func41, Tryd.ntmps41
  go_wp2_with fail
  refine (hr.out _).mono ?_
  rintro e w1 ⟨rfl, b1⟩
  obtain ⟨hc, hf⟩ := bcell b1
  have hb1 : Below w.heap.size w w1 := (((Below.refl _ _).alloc (Nat.le_refl _) _).alloc (by simp) _).trans (b1.mono (by simp; omega))
  have hz : w.heap.size + 1 < w1.heap.size := by have := b1.size; simp at this; omega
  have hz' : w.heap.size < w1.heap.size := by omega
  clear b1 hr
  simp only [fdR, rrV, Option.isSome]
  go_wp2_with fail
  refine (wrong_is _ _ _ a1.out _).mono ?_
  rintro e w' ⟨rfl, rfl⟩
  go_wp2_with fail
  refine (wrong_is _ _ _ a2.out _).mono ?_
  rintro e w' ⟨rfl, rfl⟩
  go_wp2
  exact bodyPost_ret (v := .tuple #[whV (toRw r), .int .i64 0]) (by simp [results, Tryd.results41, go_sem, hc, hz]; rfl) rfl ⟨rfl, ((((((hb1.setCell (by simp) _).setCell (by simp) _).setCell (by simp) _).setCell (by simp) _).setCell (by simp) _).alloc (by simp; omega) _)⟩

set_option maxHeartbeats 1000000 in
theorem rof_z_nnpp (r : RR) (op dst src off imm : Int) (w : World) (h0 : 0 ≤ op) (h1 : op < 256) (d0 : 0 ≤ dst) (d1 : dst < 256) (s0 : 0 ≤ src) (s1 : src < 256) (o0 : -32768 ≤ off) (o1 : off < 32768) (m0 : -2147483648 ≤ imm) (m1 : imm < 2147483648) (hF : Hid (findI op src imm = some r)) (a1 : Hid (rwB r.dst dst = false)) (a2 : Hid (rwB r.src src = false)) (z0 : (r.dst == 0) = false) (z1 : (r.src == 0) = false) (z2 : (r.off == 0) = true) (y2 : (off != 0) = false) (z3 : (r.imm == 0) = true) (y3 : (imm != 0) = false) :
    Calls Tryd.prog 41 #[.agg #[.int .u8 op, .int .u8 dst, .int .u8 src, .int .i16 off, .int .i32 imm]] w fun e w' => e = .returned (.tuple #[whV (toRw r), .int .i64 0]) ∧ Below w.heap.size w w' := by
  have hr := hid fun W => find_any op dst src off imm W s0 s1 m0 m1
  rw [hF.out] at hr
  clear hF
  go_enter Tryd.func41, Tryd.ntmps41
  go_wp2_with fail
  refine (hr.out _).mono ?_
  rintro e w1 ⟨rfl, b1⟩
  obtain ⟨hc, hf⟩ := bcell b1
  have hb1 : Below w.heap.size w w1 := (((Below.refl _ _).alloc (Nat.le_refl _) _).alloc (by simp) _).trans (b1.mono (by simp; omega))
  have hz : w.heap.size + 1 < w1.heap.size := by have := b1.size; simp at this; omega
  have hz' : w.heap.size < w1.heap.size := by omega
  clear b1 hr
  simp only [fdR, rrV, Option.isSome]
  go_wp2_with fail
  refine (wrong_is _ _ _ a1.out _).mono ?_
  rintro e w' ⟨rfl, rfl⟩
  go_wp2_with fail
  refine (wrong_is _ _ _ a2.out _).mono ?_
  rintro e w' ⟨rfl, rfl⟩
  go_wp2
  exact bodyPost_ret (v := .tuple #[whV (toRw r), .int .i64 0]) (by simp [results, Tryd.results41, go_sem, hc, hz]; rfl) rfl ⟨rfl, ((((((hb1.setCell (by simp) _).setCell (by simp) _).setCell (by simp) _).setCell (by simp) _).setCell (by simp) _).alloc (by simp; omega) _)⟩

set_option maxHeartbeats 1000000 in
theorem rof_z_nnpf (r : RR) (op dst src off imm : Int) (w : World) (h0 : 0 ≤ op) (h1 : op < 256) (d0 : 0 ≤ dst) (d1 : dst < 256) (s0 : 0 ≤ src) (s1 : src < 256) (o0 : -32768 ≤ off) (o1 : off < 32768) (m0 : -2147483648 ≤ imm) (m1 : imm < 2147483648) (hF : Hid (findI op src imm = some r)) (a1 : Hid (rwB r.dst dst = false)) (a2 : Hid (rwB r.src src = false)) (z0 : (r.dst == 0) = false) (z1 : (r.src == 0) = false) (z2 : (r.off == 0) = true) (y2 : (off != 0) = false) (z3 : (r.imm == 0) = true) (y3 : (imm != 0) = true) :
    Calls Tryd.prog 41 #[.agg #[.int .u8 op, .int .u8 dst, .int .u8 src, .int .i16 off, .int .i32 imm]] w fun e w' => e = .returned (.tuple #[whV r0, .int .i64 22]) ∧ Below w.heap.size w w' := by
  have hr := hid fun W => find_any op dst src off imm W s0 s1 m0 m1
  rw [hF.out] at hr
  clear hF
  go_enter Tryd.func41, Tryd.ntmps41
  go_wp2_with fail
  refine (hr.out _).mono ?_
  rintro e w1 ⟨rfl, b1⟩
  obtain ⟨hc, hf⟩ := bcell b1
  have hb1 : Below w.heap.size w w1 := (((Below.refl _ _).alloc (Nat.le_refl _) _).alloc (by simp) _).trans (b1.mono (by simp; omega))
  have hz : w.heap.size + 1 < w1.heap.size := by have := b1.size; simp at this; omega
  have hz' : w.heap.size < w1.heap.size := by omega
  clear b1 hr
  simp only [fdR, rrV, Option.isSome]
  go_wp2_with fail
  refine (wrong_is _ _ _ a1.out _).mono ?_
  rintro e w' ⟨rfl, rfl⟩
  go_wp2_with fail
  refine (wrong_is _ _ _ a2.out _).mono ?_
  rintro e w' ⟨rfl, rfl⟩
  go_wp2
  exact bodyPost_ret (v := .tuple #[whV r0, .int .i64 22]) (by simp [results, Tryd.results41, go_sem, hc, hz]; rfl) rfl ⟨rfl, ((((((hb1.setCell (by simp) _).setCell (by simp) _).setCell (by simp) _).setCell (by simp) _).setCell (by simp) _).alloc (by simp; omega) _)⟩

set_option maxHeartbeats 1000000 in
theorem rof_z_nnf (r : RR) (op dst src off imm : Int) (w : World) (h0 : 0 ≤ op) (h1 : op < 256) (d0 : 0 ≤ dst) (d1 : dst < 256) (s0 : 0 ≤ src) (s1 : src < 256) (o0 : -32768 ≤ off) (o1 : off < 32768) (m0 : -2147483648 ≤ imm) (m1 : imm < 2147483648) (hF : Hid (findI op src imm = some r)) (a1 : Hid (rwB r.dst dst = false)) (a2 : Hid (rwB r.src src = false)) (z0 : (r.dst == 0) = false) (z1 : (r.src == 0) = false) (z2 : (r.off == 0) = true) (y2 : (off != 0) = true) :
    Calls Tryd.prog 41 #[.agg #[.int .u8 op, .int .u8 dst, .int .u8 src, .int .i16 off, .int .i32 imm]] w fun e w' => e = .returned (.tuple #[whV r0, .int .i64 22]) ∧ Below w.heap.size w w' := by
  have hr := hid fun W => find_any op dst src off imm W s0 s1 m0 m1
  rw [hF.out] at hr
  clear hF
  go_enter Tryd.func41, Tryd.ntmps41
  go_wp2_with fail
  refine (hr.out _).mono ?_
  rintro e w1 ⟨rfl, b1⟩
  obtain ⟨hc, hf⟩ := bcell b1
  have hb1 : Below w.heap.size w w1 := (((Below.refl _ _).alloc (Nat.le_refl _) _).alloc (by simp) _).trans (b1.mono (by simp; omega))
  have hz : w.heap.size + 1 < w1.heap.size := by have := b1.size; simp at this; omega
  have hz' : w.heap.size < w1.heap.size := by omega
  clear b1 hr
  simp only [fdR, rrV, Option.isSome]
  go_wp2_with fail
  refine (wrong_is _ _ _ a1.out _).mono ?_
  rintro e w' ⟨rfl, rfl⟩
  go_wp2_with fail
  refine (wrong_is _ _ _ a2.out _).mono ?_
  rintro e w' ⟨rfl, rfl⟩
  go_wp2
  exact bodyPost_ret (v := .tuple #[whV r0, .int .i64 22]) (by simp [results, Tryd.results41, go_sem, hc, hz]; rfl) rfl ⟨rfl, ((((((hb1.setCell (by simp) _).setCell (by simp) _).setCell (by simp) _).setCell (by simp) _).setCell (by simp) _).alloc (by simp; omega) _)⟩

set_option maxHeartbeats 1000000 in
theorem rof_z_npnn (r : RR) (op dst src off imm : Int) (w : World) (h0 : 0 ≤ op) (h1 : op < 256) (d0 : 0 ≤ dst) (d1 : dst < 256) (s0 : 0 ≤ src) (s1 : src < 256) (o0 : -32768 ≤ off) (o1 : off < 32768) (m0 : -2147483648 ≤ imm) (m1 : imm < 2147483648) (hF : Hid (findI op src imm = some r)) (a1 : Hid (rwB r.dst dst = false)) (a2 : Hid (rwB r.src src = false)) (z0 : (r.dst == 0) = false) (z1 : (r.src == 0) = true) (y1 : (src != 0) = false) (z2 : (r.off == 0) = false) (z3 : (r.imm == 0) = false) :
    Calls Tryd.prog 41 #[.agg #[.int .u8 op, .int .u8 dst, .int .u8 src, .int .i16 off, .int .i32 imm]] w fun e w' => e = .returned (.tuple #[whV (toRw r), .int .i64 0]) ∧ Below w.heap.size w w' := by
  have hr := hid fun W => find_any op dst src off imm W s0 s1 m0 m1
  rw [hF.out] at hr
  clear hF
  go_enter Tryd.func41, Tryd.ntmps41
  go_wp2_with fail
  refine (hr.out _).mono ?_
  rintro e w1 ⟨rfl, b1⟩
  obtain ⟨hc, hf⟩ := bcell b1
  have hb1 : Below w.heap.size w w1 := (((Below.refl _ _).alloc (Nat.le_refl _) _).alloc (by simp) _).trans (b1.mono (by simp; omega))
  have hz : w.heap.size + 1 < w1.heap.size := by have := b1.size; simp at this; omega
  have hz' : w.heap.size < w1.heap.size := by omega
  clear b1 hr
  simp only [fdR, rrV, Option.isSome]
  go_wp2_with fail
  refine (wrong_is _ _ _ a1.out _).mono ?_
  rintro e w' ⟨rfl, rfl⟩
  go_wp2_with fail
  refine (wrong_is _ _ _ a2.out _).mono ?_
  rintro e w' ⟨rfl, rfl⟩
  go_wp2
  exact bodyPost_ret (v := .tuple #[whV (toRw r), .int .i64 0]) (by simp [results, Tryd.results41, go_sem, hc, hz]; rfl) rfl ⟨rfl, ((((((hb1.setCell (by simp) _).setCell (by simp) _).setCell (by simp) _).setCell (by simp) _).setCell (by simp) _).alloc (by simp; omega) _)⟩

set_option maxHeartbeats 1000000 in
theorem rof_z_npnp (r : RR) (op dst src off imm : Int) (w : World) (h0 : 0 ≤ op) (h1 : op < 256) (d0 : 0 ≤ dst) (d1 : dst < 256) (s0 : 0 ≤ src) (s1 : src < 256) (o0 : -32768 ≤ off) (o1 : off < 32768) (m0 : -2147483648 ≤ imm) (m1 : imm < 2147483648) (hF : Hid (findI op src imm = some r)) (a1 : Hid (rwB r.dst dst = false)) (a2 : Hid (rwB r.src src = false)) (z0 : (r.dst == 0) = false) (z1 : (r.src == 0) = true) (y1 : (src != 0) = false) (z2 : (r.off == 0) = false) (z3 : (r.imm == 0) = true) (y3 : (imm != 0) = false) :
    Calls Tryd.prog 41 #[.agg #[.int .u8 op, .int .u8 dst, .int .u8 src, .int .i16 off, .int .i32 imm]] w fun e w' => e = .returned (.tuple #[whV (toRw r), .int .i64 0]) ∧ Below w.heap.size w w' := by
  have hr := hid fun W => find_any op dst src off imm W s0 s1 m0 m1
  rw [hF.out] at hr
  clear hF
  go_enter Tryd.func41, Tryd.ntmps41
  go_wp2_with fail
  refine (hr.out _).mono ?_
  rintro e w1 ⟨rfl, b1⟩
  obtain ⟨hc, hf⟩ := bcell b1
  have hb1 : Below w.heap.size w w1 := (((Below.refl _ _).alloc (Nat.le_refl _) _).alloc (by simp) _).trans (b1.mono (by simp; omega))
  have hz : w.heap.size + 1 < w1.heap.size := by have := b1.size; simp at this; omega
  have hz' : w.heap.size < w1.heap.size := by omega
  clear b1 hr
  simp only [fdR, rrV, Option.isSome]
  go_wp2_with fail
  refine (wrong_is _ _ _ a1.out _).mono ?_
  rintro e w' ⟨rfl, rfl⟩
  go_wp2_with fail
  refine (wrong_is _ _ _ a2.out _).mono ?_
  rintro e w' ⟨rfl, rfl⟩
  go_wp2
  exact bodyPost_ret (v := .tuple #[whV (toRw r), .int .i64 0]) (by simp [results, Tryd.results41, go_sem, hc, hz]; rfl) rfl ⟨rfl, ((((((hb1.setCell (by simp) _).setCell (by simp) _).setCell (by simp) _).setCell (by simp) _).setCell (by simp) _).alloc (by simp; omega) _)⟩

set_option maxHeartbeats 1000000 in
theorem rof_z_npnf (r : RR) (op dst src off imm : Int) (w : World) (h0 : 0 ≤ op) (h1 : op < 256) (d0 : 0 ≤ dst) (d1 : dst < 256) (s0 : 0 ≤ src) (s1 : src < 256) (o0 : -32768 ≤ off) (o1 : off < 32768) (m0 : -2147483648 ≤ imm) (m1 : imm < 2147483648) (hF : Hid (findI op src imm = some r)) (a1 : Hid (rwB r.dst dst = false)) (a2 : Hid (rwB r.src src = false)) (z0 : (r.dst == 0) = false) (z1 : (r.src == 0) = true) (y1 : (src != 0) = false) (z2 : (r.off == 0) = false) (z3 : (r.imm == 0) = true) (y3 : (imm != 0) = true) :
    Calls Tryd.prog 41 #[.agg #[.int .u8 op, .int .u8 dst, .int .u8 src, .int .i16 off, .int .i32 imm]] w fun e w' => e = .returned (.tuple #[whV r0, .int .i64 22]) ∧ Below w.heap.size w w' := by
  have hr := hid fun W => find_any op dst src off imm W s0 s1 m0 m1
  rw [hF.out] at hr
  clear hF
  go_enter Tryd.func41, Tryd.ntmps41
  go_wp2_with fail
  refine (hr.out _).mono ?_
  rintro e w1 ⟨rfl, b1⟩
  obtain ⟨hc, hf⟩ := bcell b1
  have hb1 : Below w.heap.size w w1 := (((Below.refl _ _).alloc (Nat.le_refl _) _).alloc (by simp) _).trans (b1.mono (by simp; omega))
  have hz : w.heap.size + 1 < w1.heap.size := by have := b1.size; simp at this; omega
  have hz' : w.heap.size < w1.heap.size := by omega
  clear b1 hr
  simp only [fdR, rrV, Option.isSome]
  go_wp2_with fail
  refine (wrong_is _ _ _ a1.out _).mono ?_
  rintro e w' ⟨rfl, rfl⟩
  go_wp2_with fail
  refine (wrong_is _ _ _ a2.out _).mono ?_
  rintro e w' ⟨rfl, rfl⟩
  go_wp2
  exact bodyPost_ret (v := .tuple #[whV r0, .int .i64 22]) (by simp [results, Tryd.results41, go_sem, hc, hz]; rfl) rfl ⟨rfl, ((((((hb1.setCell (by simp) _).setCell (by simp) _).setCell (by simp) _).setCell (by simp) _).setCell (by simp) _).alloc (by simp; omega) _)⟩

set_option maxHeartbeats 1000000 in
theorem rof_z_nppn (r : RR) (op dst src off imm : Int) (w : World) (h0 : 0 ≤ op) (h1 : op < 256) (d0 : 0 ≤ dst) (d1 : dst < 256) (s0 : 0 ≤ src) (s1 : src < 256) (o0 : -32768 ≤ off) (o1 : off < 32768) (m0 : -2147483648 ≤ imm) (m1 : imm < 2147483648) (hF : Hid (findI op src imm = some r)) (a1 : Hid (rwB r.dst dst = false)) (a2 : Hid (rwB r.src src = false)) (z0 : (r.dst == 0) = false) (z1 : (r.src == 0) = true) (y1 : (src != 0) = false) (z2 : (r.off == 0) = true) (y2 : (off != 0) = false) (z3 : (r.imm == 0) = false) :
    Calls Tryd.prog 41 #[.agg #[.int .u8 op, .int .u8 dst, .int .u8 src, .int .i16 off, .int .i32 imm]] w fun e w' => e = .returned (.tuple #[whV (toRw r), .int .i64 0]) ∧ Below w.heap.size w w' := by
  have hr := hid fun W => find_any op dst src off imm W s0 s1 m0 m1
  rw [hF.out] at hr
  clear hF
  go_enter Tryd.func41, Tryd.ntmps41
  go_wp2_with fail
  refine (hr.out _).mono ?_
  rintro e w1 ⟨rfl, b1⟩
  obtain ⟨hc, hf⟩ := bcell b1
  have hb1 : Below w.heap.size w w1 := (((Below.refl _ _).alloc (Nat.le_refl _) _).alloc (by simp) _).trans (b1.mono (by simp; omega))
  have hz : w.heap.size + 1 < w1.heap.size := by have := b1.size; simp at this; omega
  have hz' : w.heap.size < w1.heap.size := by omega
  clear b1 hr
  simp only [fdR, rrV, Option.isSome]
  go_wp2_with fail
  refine (wrong_is _ _ _ a1.out _).mono ?_
  rintro e w' ⟨rfl, rfl⟩
  go_wp2_with fail
  refine (wrong_is _ _ _ a2.out _).mono ?_
  rintro e w' ⟨rfl, rfl⟩
  go_wp2
  exact bodyPost_ret (v := .tuple #[whV (toRw r), .int .i64 0]) (by simp [results, Tryd.results41, go_sem, hc, hz]; rfl) rfl ⟨rfl, ((((((hb1.setCell (by simp) _).setCell (by simp) _).setCell (by simp) _).setCell (by simp) _).setCell (by simp) _).alloc (by simp; omega) _)⟩

end Go.Proofs.YtodmikjpmcabiabDoor

namespace Go.Proofs.YtodmikjpmcabiabDoor
set_option linter.unusedSimpArgs false
set_option linter.unusedVariables false
set_option maxRecDepth 100000
open Go.ChangeShapes Go.WideShapes Go.ChangeAt Go.RowKit

set_option maxHeartbeats 1000000 in
theorem rof_z_nppp (r : RR) (op dst src off imm : Int) (w : World) (h0 : 0 ≤ op) (h1 : op < 256) (d0 : 0 ≤ dst) (d1 : dst < 256) (s0 : 0 ≤ src) (s1 : src < 256) (o0 : -32768 ≤ off) (o1 : off < 32768) (m0 : -2147483648 ≤ imm) (m1 : imm < 2147483648) (hF : Hid (findI op src imm = some r)) (a1 : Hid (rwB r.dst dst = false)) (a2 : Hid (rwB r.src src = false)) (z0 : (r.dst == 0) = false) (z1 : (r.src == 0) = true) (y1 : (src != 0) = false) (z2 : (r.off == 0) = true) (y2 : (off != 0) = false) (z3 : (r.imm == 0) = true) (y3 : (imm != 0) = false) :
    Calls Tryd.prog 41 #[.agg #[.int .u8 op, .int .u8 dst, .int .u8 src, .int .i16 off, .int .i32 imm]] w fun e w' => e = .returned (.tuple #[whV (toRw r), .int .i64 0]) ∧ Below w.heap.size w w' := by
  have hr := hid fun W => find_any op dst src off imm W s0 s1 m0 m1
  rw [hF.out] at hr
  clear hF
  go_enter Tryd.func41, Tryd.ntmps41
  go_wp2_with fail
  refine (hr.out _).mono ?_
  rintro e w1 ⟨rfl, b1⟩
  obtain ⟨hc, hf⟩ := bcell b1
  have hb1 : Below w.heap.size w w1 := (((Below.refl _ _).alloc (Nat.le_refl _) _).alloc (by simp) _).trans (b1.mono (by simp; omega))
  have hz : w.heap.size + 1 < w1.heap.size := by have := b1.size; simp at this; omega
  have hz' : w.heap.size < w1.heap.size := by omega
  clear b1 hr
  simp only [fdR, rrV, Option.isSome]
  go_wp2_with fail
  refine (wrong_is _ _ _ a1.out _).mono ?_
  rintro e w' ⟨rfl, rfl⟩
  go_wp2_with fail
  refine (wrong_is _ _ _ a2.out _).mono ?_
  rintro e w' ⟨rfl, rfl⟩
  go_wp2
  exact bodyPost_ret (v := .tuple #[whV (toRw r), .int .i64 0]) (by simp [results, Tryd.results41, go_sem, hc, hz]; rfl) rfl ⟨rfl, ((((((hb1.setCell (by simp) _).setCell (by simp) _).setCell (by simp) _).setCell (by simp) _).setCell (by simp) _).alloc (by simp; omega) _)⟩

set_option maxHeartbeats 1000000 in
theorem rof_z_nppf (r : RR) (op dst src off imm : Int) (w : World) (h0 : 0 ≤ op) (h1 : op < 256) (d0 : 0 ≤ dst) (d1 : dst < 256) (s0 : 0 ≤ src) (s1 : src < 256) (o0 : -32768 ≤ off) (o1 : off < 32768) (m0 : -2147483648 ≤ imm) (m1 : imm < 2147483648) (hF : Hid (findI op src imm = some r)) (a1 : Hid (rwB r.dst dst = false)) (a2 : Hid (rwB r.src src = false)) (z0 : (r.dst == 0) = false) (z1 : (r.src == 0) = true) (y1 : (src != 0) = false) (z2 : (r.off == 0) = true) (y2 : (off != 0) = false) (z3 : (r.imm == 0) = true) (y3 : (imm != 0) = true) :
    Calls Tryd.prog 41 #[.agg #[.int .u8 op, .int .u8 dst, .int .u8 src, .int .i16 off, .int .i32 imm]] w fun e w' => e = .returned (.tuple #[whV r0, .int .i64 22]) ∧ Below w.heap.size w w' := by
  have hr := hid fun W => find_any op dst src off imm W s0 s1 m0 m1
  rw [hF.out] at hr
  clear hF
  go_enter Tryd.func41, Tryd.ntmps41
  go_wp2_with fail
  refine (hr.out _).mono ?_
  rintro e w1 ⟨rfl, b1⟩
  obtain ⟨hc, hf⟩ := bcell b1
  have hb1 : Below w.heap.size w w1 := (((Below.refl _ _).alloc (Nat.le_refl _) _).alloc (by simp) _).trans (b1.mono (by simp; omega))
  have hz : w.heap.size + 1 < w1.heap.size := by have := b1.size; simp at this; omega
  have hz' : w.heap.size < w1.heap.size := by omega
  clear b1 hr
  simp only [fdR, rrV, Option.isSome]
  go_wp2_with fail
  refine (wrong_is _ _ _ a1.out _).mono ?_
  rintro e w' ⟨rfl, rfl⟩
  go_wp2_with fail
  refine (wrong_is _ _ _ a2.out _).mono ?_
  rintro e w' ⟨rfl, rfl⟩
  go_wp2
  exact bodyPost_ret (v := .tuple #[whV r0, .int .i64 22]) (by simp [results, Tryd.results41, go_sem, hc, hz]; rfl) rfl ⟨rfl, ((((((hb1.setCell (by simp) _).setCell (by simp) _).setCell (by simp) _).setCell (by simp) _).setCell (by simp) _).alloc (by simp; omega) _)⟩

set_option maxHeartbeats 1000000 in
theorem rof_z_npf (r : RR) (op dst src off imm : Int) (w : World) (h0 : 0 ≤ op) (h1 : op < 256) (d0 : 0 ≤ dst) (d1 : dst < 256) (s0 : 0 ≤ src) (s1 : src < 256) (o0 : -32768 ≤ off) (o1 : off < 32768) (m0 : -2147483648 ≤ imm) (m1 : imm < 2147483648) (hF : Hid (findI op src imm = some r)) (a1 : Hid (rwB r.dst dst = false)) (a2 : Hid (rwB r.src src = false)) (z0 : (r.dst == 0) = false) (z1 : (r.src == 0) = true) (y1 : (src != 0) = false) (z2 : (r.off == 0) = true) (y2 : (off != 0) = true) :
    Calls Tryd.prog 41 #[.agg #[.int .u8 op, .int .u8 dst, .int .u8 src, .int .i16 off, .int .i32 imm]] w fun e w' => e = .returned (.tuple #[whV r0, .int .i64 22]) ∧ Below w.heap.size w w' := by
  have hr := hid fun W => find_any op dst src off imm W s0 s1 m0 m1
  rw [hF.out] at hr
  clear hF
  go_enter Tryd.func41, Tryd.ntmps41
  go_wp2_with fail
  refine (hr.out _).mono ?_
  rintro e w1 ⟨rfl, b1⟩
  obtain ⟨hc, hf⟩ := bcell b1
  have hb1 : Below w.heap.size w w1 := (((Below.refl _ _).alloc (Nat.le_refl _) _).alloc (by simp) _).trans (b1.mono (by simp; omega))
  have hz : w.heap.size + 1 < w1.heap.size := by have := b1.size; simp at this; omega
  have hz' : w.heap.size < w1.heap.size := by omega
  clear b1 hr
  simp only [fdR, rrV, Option.isSome]
  go_wp2_with fail
  refine (wrong_is _ _ _ a1.out _).mono ?_
  rintro e w' ⟨rfl, rfl⟩
  go_wp2_with fail
  refine (wrong_is _ _ _ a2.out _).mono ?_
  rintro e w' ⟨rfl, rfl⟩
  go_wp2
  exact bodyPost_ret (v := .tuple #[whV r0, .int .i64 22]) (by simp [results, Tryd.results41, go_sem, hc, hz]; rfl) rfl ⟨rfl, ((((((hb1.setCell (by simp) _).setCell (by simp) _).setCell (by simp) _).setCell (by simp) _).setCell (by simp) _).alloc (by simp; omega) _)⟩

set_option maxHeartbeats 1000000 in
theorem rof_z_nf (r : RR) (op dst src off imm : Int) (w : World) (h0 : 0 ≤ op) (h1 : op < 256) (d0 : 0 ≤ dst) (d1 : dst < 256) (s0 : 0 ≤ src) (s1 : src < 256) (o0 : -32768 ≤ off) (o1 : off < 32768) (m0 : -2147483648 ≤ imm) (m1 : imm < 2147483648) (hF : Hid (findI op src imm = some r)) (a1 : Hid (rwB r.dst dst = false)) (a2 : Hid (rwB r.src src = false)) (z0 : (r.dst == 0) = false) (z1 : (r.src == 0) = true) (y1 : (src != 0) = true) :
    Calls Tryd.prog 41 #[.agg #[.int .u8 op, .int .u8 dst, .int .u8 src, .int .i16 off, .int .i32 imm]] w fun e w' => e = .returned (.tuple #[whV r0, .int .i64 22]) ∧ Below w.heap.size w w' := by
  have hr := hid fun W => find_any op dst src off imm W s0 s1 m0 m1
  rw [hF.out] at hr
  clear hF
  go_enter Tryd.func41, Tryd.ntmps41
  go_wp2_with fail
  refine (hr.out _).mono ?_
  rintro e w1 ⟨rfl, b1⟩
  obtain ⟨hc, hf⟩ := bcell b1
  have hb1 : Below w.heap.size w w1 := (((Below.refl _ _).alloc (Nat.le_refl _) _).alloc (by simp) _).trans (b1.mono (by simp; omega))
  have hz : w.heap.size + 1 < w1.heap.size := by have := b1.size; simp at this; omega
  have hz' : w.heap.size < w1.heap.size := by omega
  clear b1 hr
  simp only [fdR, rrV, Option.isSome]
  go_wp2_with fail
  refine (wrong_is _ _ _ a1.out _).mono ?_
  rintro e w' ⟨rfl, rfl⟩
  go_wp2_with fail
  refine (wrong_is _ _ _ a2.out _).mono ?_
  rintro e w' ⟨rfl, rfl⟩
  go_wp2
  exact bodyPost_ret (v := .tuple #[whV r0, .int .i64 22]) (by simp [results, Tryd.results41, go_sem, hc, hz]; rfl) rfl ⟨rfl, ((((((hb1.setCell (by simp) _).setCell (by simp) _).setCell (by simp) _).setCell (by simp) _).setCell (by simp) _).alloc (by simp; omega) _)⟩

set_option maxHeartbeats 1000000 in
theorem rof_z_pnnn (r : RR) (op dst src off imm : Int) (w : World) (h0 : 0 ≤ op) (h1 : op < 256) (d0 : 0 ≤ dst) (d1 : dst < 256) (s0 : 0 ≤ src) (s1 : src < 256) (o0 : -32768 ≤ off) (o1 : off < 32768) (m0 : -2147483648 ≤ imm) (m1 : imm < 2147483648) (hF : Hid (findI op src imm = some r)) (a1 : Hid (rwB r.dst dst = false)) (a2 : Hid (rwB r.src src = false)) (z0 : (r.dst == 0) = true) (y0 : (dst != 0) = false) (z1 : (r.src == 0) = false) (z2 : (r.off == 0) = false) (z3 : (r.imm == 0) = false) :
    Calls Tryd.prog 41 #[.agg #[.int .u8 op, .int .u8 dst, .int .u8 src, .int .i16 off, .int .i32 imm]] w fun e w' => e = .returned (.tuple #[whV (toRw r), .int .i64 0]) ∧ Below w.heap.size w w' := by
  have hr := hid fun W => find_any op dst src off imm W s0 s1 m0 m1
  rw [hF.out] at hr
  clear hF
  go_enter Tryd.func41, Tryd.ntmps41
  go_wp2_with fail
  refine (hr.out _).mono ?_
  rintro e w1 ⟨rfl, b1⟩
  obtain ⟨hc, hf⟩ := bcell b1
  have hb1 : Below w.heap.size w w1 := (((Below.refl _ _).alloc (Nat.le_refl _) _).alloc (by simp) _).trans (b1.mono (by simp; omega))
  have hz : w.heap.size + 1 < w1.heap.size := by have := b1.size; simp at this; omega
  have hz' : w.heap.size < w1.heap.size := by omega
  clear b1 hr
  simp only [fdR, rrV, Option.isSome]
  go_wp2_with fail
  refine (wrong_is _ _ _ a1.out _).mono ?_
  rintro e w' ⟨rfl, rfl⟩
  go_wp2_with fail
  refine (wrong_is _ _ _ a2.out _).mono ?_
  rintro e w' ⟨rfl, rfl⟩
  go_wp2
  exact bodyPost_ret (v := .tuple #[whV (toRw r), .int .i64 0]) (by simp [results, Tryd.results41, go_sem, hc, hz]; rfl) rfl ⟨rfl, ((((((hb1.setCell (by simp) _).setCell (by simp) _).setCell (by simp) _).setCell (by simp) _).setCell (by simp) _).alloc (by simp; omega) _)⟩

set_option maxHeartbeats 1000000 in
theorem rof_z_pnnp (r : RR) (op dst src off imm : Int) (w : World) (h0 : 0 ≤ op) (h1 : op < 256) (d0 : 0 ≤ dst) (d1 : dst < 256) (s0 : 0 ≤ src) (s1 : src < 256) (o0 : -32768 ≤ off) (o1 : off < 32768) (m0 : -2147483648 ≤ imm) (m1 : imm < 2147483648) (hF : Hid (findI op src imm = some r)) (a1 : Hid (rwB r.dst dst = false)) (a2 : Hid (rwB r.src src = false)) (z0 : (r.dst == 0) = true) (y0 : (dst != 0) = false) (z1 : (r.src == 0) = false) (z2 : (r.off == 0) = false) (z3 : (r.imm == 0) = true) (y3 : (imm != 0) = false) :
    Calls Tryd.prog 41 #[.agg #[.int .u8 op, .int .u8 dst, .int .u8 src, .int .i16 off, .int .i32 imm]] w fun e w' => e = .returned (.tuple #[whV (toRw r), .int .i64 0]) ∧ Below w.heap.size w w' := by
  have hr := hid fun W => find_any op dst src off imm W s0 s1 m0 m1
  rw [hF.out] at hr
  clear hF
  go_enter Tryd.func41, Tryd.ntmps41
  go_wp2_with fail
  refine (hr.out _).mono ?_
  rintro e w1 ⟨rfl, b1⟩
  obtain ⟨hc, hf⟩ := bcell b1
  have hb1 : Below w.heap.size w w1 := (((Below.refl _ _).alloc (Nat.le_refl _) _).alloc (by simp) _).trans (b1.mono (by simp; omega))
  have hz : w.heap.size + 1 < w1.heap.size := by have := b1.size; simp at this; omega
  have hz' : w.heap.size < w1.heap.size := by omega
  clear b1 hr
  simp only [fdR, rrV, Option.isSome]
  go_wp2_with fail
  refine (wrong_is _ _ _ a1.out _).mono ?_
  rintro e w' ⟨rfl, rfl⟩
  go_wp2_with fail
  refine (wrong_is _ _ _ a2.out _).mono ?_
  rintro e w' ⟨rfl, rfl⟩
  go_wp2
  exact bodyPost_ret (v := .tuple #[whV (toRw r), .int .i64 0]) (by simp [results, Tryd.results41, go_sem, hc, hz]; rfl) rfl ⟨rfl, ((((((hb1.setCell (by simp) _).setCell (by simp) _).setCell (by simp) _).setCell (by simp) _).setCell (by simp) _).alloc (by simp; omega) _)⟩

set_option maxHeartbeats 1000000 in
theorem rof_z_pnnf (r : RR) (op dst src off imm : Int) (w : World) (h0 : 0 ≤ op) (h1 : op < 256) (d0 : 0 ≤ dst) (d1 : dst < 256) (s0 : 0 ≤ src) (s1 : src < 256) (o0 : -32768 ≤ off) (o1 : off < 32768) (m0 : -2147483648 ≤ imm) (m1 : imm < 2147483648) (hF : Hid (findI op src imm = some r)) (a1 : Hid (rwB r.dst dst = false)) (a2 : Hid (rwB r.src src = false)) (z0 : (r.dst == 0) = true) (y0 : (dst != 0) = false) (z1 : (r.src == 0) = false) (z2 : (r.off == 0) = false) (z3 : (r.imm == 0) = true) (y3 : (imm != 0) = true) :
    Calls Tryd.prog 41 #[.agg #[.int .u8 op, .int .u8 dst, .int .u8 src, .int .i16 off, .int .i32 imm]] w fun e w' => e = .returned (.tuple #[whV r0, .int .i64 22]) ∧ Below w.heap.size w w' := by
  have hr := hid fun W => find_any op dst src off imm W s0 s1 m0 m1
  rw [hF.out] at hr
  clear hF
  go_enter Tryd.func41, Tryd.ntmps41
  go_wp2_with fail
  refine (hr.out _).mono ?_
  rintro e w1 ⟨rfl, b1⟩
  obtain ⟨hc, hf⟩ := bcell b1
  have hb1 : Below w.heap.size w w1 := (((Below.refl _ _).alloc (Nat.le_refl _) _).alloc (by simp) _).trans (b1.mono (by simp; omega))
  have hz : w.heap.size + 1 < w1.heap.size := by have := b1.size; simp at this; omega
  have hz' : w.heap.size < w1.heap.size := by omega
  clear b1 hr
  simp only [fdR, rrV, Option.isSome]
  go_wp2_with fail
  refine (wrong_is _ _ _ a1.out _).mono ?_
  rintro e w' ⟨rfl, rfl⟩
  go_wp2_with fail
  refine (wrong_is _ _ _ a2.out _).mono ?_
  rintro e w' ⟨rfl, rfl⟩
  go_wp2
  exact bodyPost_ret (v := .tuple #[whV r0, .int .i64 22]) (by simp [results, Tryd.results41, go_sem, hc, hz]; rfl) rfl ⟨rfl, ((((((hb1.setCell (by simp) _).setCell (by simp) _).setCell (by simp) _).setCell (by simp) _).setCell (by simp) _).alloc (by simp; omega) _)⟩

set_option maxHeartbeats 1000000 in
theorem rof_z_pnpn (r : RR) (op dst src off imm : Int) (w : World) (h0 : 0 ≤ op) (h1 : op < 256) (d0 : 0 ≤ dst) (d1 : dst < 256) (s0 : 0 ≤ src) (s1 : src < 256) (o0 : -32768 ≤ off) (o1 : off < 32768) (m0 : -2147483648 ≤ imm) (m1 : imm < 2147483648) (hF : Hid (findI op src imm = some r)) (a1 : Hid (rwB r.dst dst = false)) (a2 : Hid (rwB r.src src = false)) (z0 : (r.dst == 0) = true) (y0 : (dst != 0) = false) (z1 : (r.src == 0) = false) (z2 : (r.off == 0) = true) (y2 : (off != 0) = false) (z3 : (r.imm == 0) = false) :
    Calls Tryd.prog 41 #[.agg #[.int .u8 op, .int .u8 dst, .int .u8 src, .int .i16 off, .int .i32 imm]] w fun e w' => e = .returned (.tuple #[whV (toRw r), .int .i64 0]) ∧ Below w.heap.size w w' := by
  have hr := hid fun W => find_any op dst src off imm W s0 s1 m0 m1
  rw [hF.out] at hr
  clear hF
  go_enter Tryd.func41, Tryd.ntmps41
  go_wp2_with fail
  refine (hr.out _).mono ?_
  rintro e w1 ⟨rfl, b1⟩
  obtain ⟨hc, hf⟩ := bcell b1
  have hb1 : Below w.heap.size w w1 := (((Below.refl _ _).alloc (Nat.le_refl _) _).alloc (by simp) _).trans (b1.mono (by simp; omega))
  have hz : w.heap.size + 1 < w1.heap.size := by have := b1.size; simp at this; omega
  have hz' : w.heap.size < w1.heap.size := by omega
  clear b1 hr
  simp only [fdR, rrV, Option.isSome]
  go_wp2_with fail
  refine (wrong_is _ _ _ a1.out _).mono ?_
  rintro e w' ⟨rfl, rfl⟩
  go_wp2_with fail
  refine (wrong_is _ _ _ a2.out _).mono ?_
  rintro e w' ⟨rfl, rfl⟩
  go_wp2
  exact bodyPost_ret (v := .tuple #[whV (toRw r), .int .i64 0]) (by simp [results, Tryd.results41, go_sem, hc, hz]; rfl) rfl ⟨rfl, ((((((hb1.setCell (by simp) _).setCell (by simp) _).setCell (by simp) _).setCell (by simp) _).setCell (by simp) _).alloc (by simp; omega) _)⟩

set_option maxHeartbeats 1000000 in
theorem rof_z_pnpp (r : RR) (op dst src off imm : Int) (w : World) (h0 : 0 ≤ op) (h1 : op < 256) (d0 : 0 ≤ dst) (d1 : dst < 256) (s0 : 0 ≤ src) (s1 : src < 256) (o0 : -32768 ≤ off) (o1 : off < 32768) (m0 : -2147483648 ≤ imm) (m1 : imm < 2147483648) (hF : Hid (findI op src imm = some r)) (a1 : Hid (rwB r.dst dst = false)) (a2 : Hid (rwB r.src src = false)) (z0 : (r.dst == 0) = true) (y0 : (dst != 0) = false) (z1 : (r.src == 0) = false) (z2 : (r.off == 0) = true) (y2 : (off != 0) = false) (z3 : (r.imm == 0) = true) (y3 : (imm != 0) = false) :
    Calls Tryd.prog 41 #[.agg #[.int .u8 op, .int .u8 dst, .int .u8 src, .int .i16 off, .int .i32 imm]] w fun e w' => e = .returned (.tuple #[whV (toRw r), .int .i64 0]) ∧ Below w.heap.size w w' := by
  have hr := hid fun W => find_any op dst src off imm W s0 s1 m0 m1
  rw [hF.out] at hr
  clear hF
  go_enter Tryd.func41, Tryd.ntmps41
  go_wp2_with fail
  refine (hr.out _).mono ?_
  rintro e w1 ⟨rfl, b1⟩
  obtain ⟨hc, hf⟩ := bcell b1
  have hb1 : Below w.heap.size w w1 := (((Below.refl _ _).alloc (Nat.le_refl _) _).alloc (by simp) _).trans (b1.mono (by simp; omega))
  have hz : w.heap.size + 1 < w1.heap.size := by have := b1.size; simp at this; omega
  have hz' : w.heap.size < w1.heap.size := by omega
  clear b1 hr
  simp only [fdR, rrV, Option.isSome]
  go_wp2_with fail
  refine (wrong_is _ _ _ a1.out _).mono ?_
  rintro e w' ⟨rfl, rfl⟩
  go_wp2_with fail
  refine (wrong_is _ _ _ a2.out _).mono ?_
  rintro e w' ⟨rfl, rfl⟩
  go_wp2
  exact bodyPost_ret (v := .tuple #[whV (toRw r), .int .i64 0]) (by simp [results, Tryd.results41, go_sem, hc, hz]; rfl) rfl ⟨rfl, ((((((hb1.setCell (by simp) _).setCell (by simp) _).setCell (by simp) _).setCell (by simp) _).setCell (by simp) _).alloc (by simp; omega) _)⟩

set_option maxHeartbeats 1000000 in
theorem rof_z_pnpf (r : RR) (op dst src off imm : Int) (w : World) (h0 : 0 ≤ op) (h1 : op < 256) (d0 : 0 ≤ dst) (d1 : dst < 256) (s0 : 0 ≤ src) (s1 : src < 256) (o0 : -32768 ≤ off) (o1 : off < 32768) (m0 : -2147483648 ≤ imm) (m1 : imm < 2147483648) (hF : Hid (findI op src imm = some r)) (a1 : Hid (rwB r.dst dst = false)) (a2 : Hid (rwB r.src src = false)) (z0 : (r.dst == 0) = true) (y0 : (dst != 0) = false) (z1 : (r.src == 0) = false) (z2 : (r.off == 0) = true) (y2 : (off != 0) = false) (z3 : (r.imm == 0) = true) (y3 : (imm != 0) = true) :
    Calls Tryd.prog 41 #[.agg #[.int .u8 op, .int .u8 dst, .int .u8 src, .int .i16 off, .int .i32 imm]] w fun e w' => e = .returned (.tuple #[whV r0, .int .i64 22]) ∧ Below w.heap.size w w' := by
  have hr := hid fun W => find_any op dst src off imm W s0 s1 m0 m1
  rw [hF.out] at hr
  clear hF
  go_enter Tryd.func41, Tryd.ntmps41
  go_wp2_with fail
  refine (hr.out _).mono ?_
  rintro e w1 ⟨rfl, b1⟩
  obtain ⟨hc, hf⟩ := bcell b1
  have hb1 : Below w.heap.size w w1 := (((Below.refl _ _).alloc (Nat.le_refl _) _).alloc (by simp) _).trans (b1.mono (by simp; omega))
  have hz : w.heap.size + 1 < w1.heap.size := by have := b1.size; simp at this; omega
  have hz' : w.heap.size < w1.heap.size := by omega
  clear b1 hr
  simp only [fdR, rrV, Option.isSome]
  go_wp2_with fail
  refine (wrong_is _ _ _ a1.out _).mono ?_
  rintro e w' ⟨rfl, rfl⟩
  go_wp2_with fail
  refine (wrong_is _ _ _ a2.out _).mono ?_
  rintro e w' ⟨rfl, rfl⟩
  go_wp2
  exact bodyPost_ret (v := .tuple #[whV r0, .int .i64 22]) (by simp [results, Tryd.results41, go_sem, hc, hz]; rfl) rfl ⟨rfl, ((((((hb1.setCell (by simp) _).setCell (by simp) _).setCell (by simp) _).setCell (by simp) _).setCell (by simp) _).alloc (by simp; omega) _)⟩

end Go.Proofs.YtodmikjpmcabiabDoor

namespace Go.Proofs.YtodmikjpmcabiabDoor
set_option linter.unusedSimpArgs false
set_option linter.unusedVariables false
set_option maxRecDepth 100000
open Go.ChangeShapes Go.WideShapes Go.ChangeAt Go.RowKit

set_option maxHeartbeats 1000000 in
theorem rof_z_pnf (r : RR) (op dst src off imm : Int) (w : World) (h0 : 0 ≤ op) (h1 : op < 256) (d0 : 0 ≤ dst) (d1 : dst < 256) (s0 : 0 ≤ src) (s1 : src < 256) (o0 : -32768 ≤ off) (o1 : off < 32768) (m0 : -2147483648 ≤ imm) (m1 : imm < 2147483648) (hF : Hid (findI op src imm = some r)) (a1 : Hid (rwB r.dst dst = false)) (a2 : Hid (rwB r.src src = false)) (z0 : (r.dst == 0) = true) (y0 : (dst != 0) = false) (z1 : (r.src == 0) = false) (z2 : (r.off == 0) = true) (y2 : (off != 0) = true) :
    Calls Tryd.prog 41 #[.agg #[.int .u8 op, .int .u8 dst, .int .u8 src, .int .i16 off, .int .i32 imm]] w fun e w' => e = .returned (.tuple #[whV r0, .int .i64 22]) ∧ Below w.heap.size w w' := by
  have hr := hid fun W => find_any op dst src off imm W s0 s1 m0 m1
  rw [hF.out] at hr
  clear hF
  go_enter Tryd.func41, Tryd.ntmps41
  go_wp2_with fail
  refine (hr.out _).mono ?_
  rintro e w1 ⟨rfl, b1⟩
  obtain ⟨hc, hf⟩ := bcell b1
  have hb1 : Below w.heap.size w w1 := (((Below.refl _ _).alloc (Nat.le_refl _) _).alloc (by simp) _).trans (b1.mono (by simp; omega))
  have hz : w.heap.size + 1 < w1.heap.size := by have := b1.size; simp at this; omega
  have hz' : w.heap.size < w1.heap.size := by omega
  clear b1 hr
  simp only [fdR, rrV, Option.isSome]
  go_wp2_with fail
  refine (wrong_is _ _ _ a1.out _).mono ?_
  rintro e w' ⟨rfl, rfl⟩
  go_wp2_with fail
  refine (wrong_is _ _ _ a2.out _).mono ?_
  rintro e w' ⟨rfl, rfl⟩
  go_wp2
  exact bodyPost_ret (v := .tuple #[whV r0, .int .i64 22]) (by simp [results, Tryd.results41, go_sem, hc, hz]; rfl) rfl ⟨rfl, ((((((hb1.setCell (by simp) _).setCell (by simp) _).setCell (by simp) _).setCell (by simp) _).setCell (by simp) _).alloc (by simp; omega) _)⟩

set_option maxHeartbeats 1000000 in
theorem rof_z_ppnn (r : RR) (op dst src off imm : Int) (w : World) (h0 : 0 ≤ op) (h1 : op < 256) (d0 : 0 ≤ dst) (d1 : dst < 256) (s0 : 0 ≤ src) (s1 : src < 256) (o0 : -32768 ≤ off) (o1 : off < 32768) (m0 : -2147483648 ≤ imm) (m1 : imm < 2147483648) (hF : Hid (findI op src imm = some r)) (a1 : Hid (rwB r.dst dst = false)) (a2 : Hid (rwB r.src src = false)) (z0 : (r.dst == 0) = true) (y0 : (dst != 0) = false) (z1 : (r.src == 0) = true) (y1 : (src != 0) = false) (z2 : (r.off == 0) = false) (z3 : (r.imm == 0) = false) :
    Calls Tryd.prog 41 #[.agg #[.int .u8 op, .int .u8 dst, .int .u8 src, .int .i16 off, .int .i32 imm]] w fun e w' => e = .returned (.tuple #[whV (toRw r), .int .i64 0]) ∧ Below w.heap.size w w' := by
  have hr := hid fun W => find_any op dst src off imm W s0 s1 m0 m1
  rw [hF.out] at hr
  clear hF
  go_enter Tryd.func41, Tryd.ntmps41
  go_wp2_with fail
  refine (hr.out _).mono ?_
  rintro e w1 ⟨rfl, b1⟩
  obtain ⟨hc, hf⟩ := bcell b1
  have hb1 : Below w.heap.size w w1 := (((Below.refl _ _).alloc (Nat.le_refl _) _).alloc (by simp) _).trans (b1.mono (by simp; omega))
  have hz : w.heap.size + 1 < w1.heap.size := by have := b1.size; simp at this; omega
  have hz' : w.heap.size < w1.heap.size := by omega
  clear b1 hr
  simp only [fdR, rrV, Option.isSome]
  go_wp2_with fail
  refine (wrong_is _ _ _ a1.out _).mono ?_
  rintro e w' ⟨rfl, rfl⟩
  go_wp2_with fail
  refine (wrong_is _ _ _ a2.out _).mono ?_
  rintro e w' ⟨rfl, rfl⟩
  go_wp2
  exact bodyPost_ret (v := .tuple #[whV (toRw r), .int .i64 0]) (by simp [results, Tryd.results41, go_sem, hc, hz]; rfl) rfl ⟨rfl, ((((((hb1.setCell (by simp) _).setCell (by simp) _).setCell (by simp) _).setCell (by simp) _).setCell (by simp) _).alloc (by simp; omega) _)⟩

set_option maxHeartbeats 1000000 in
theorem rof_z_ppnp (r : RR) (op dst src off imm : Int) (w : World) (h0 : 0 ≤ op) (h1 : op < 256) (d0 : 0 ≤ dst) (d1 : dst < 256) (s0 : 0 ≤ src) (s1 : src < 256) (o0 : -32768 ≤ off) (o1 : off < 32768) (m0 : -2147483648 ≤ imm) (m1 : imm < 2147483648) (hF : Hid (findI op src imm = some r)) (a1 : Hid (rwB r.dst dst = false)) (a2 : Hid (rwB r.src src = false)) (z0 : (r.dst == 0) = true) (y0 : (dst != 0) = false) (z1 : (r.src == 0) = true) (y1 : (src != 0) = false) (z2 : (r.off == 0) = false) (z3 : (r.imm == 0) = true) (y3 : (imm != 0) = false) :
    Calls Tryd.prog 41 #[.agg #[.int .u8 op, .int .u8 dst, .int .u8 src, .int .i16 off, .int .i32 imm]] w fun e w' => e = .returned (.tuple #[whV (toRw r), .int .i64 0]) ∧ Below w.heap.size w w' := by
  have hr := hid fun W => find_any op dst src off imm W s0 s1 m0 m1
  rw [hF.out] at hr
  clear hF
  go_enter Tryd.func41, Tryd.ntmps41
  go_wp2_with fail
  refine (hr.out _).mono ?_
  rintro e w1 ⟨rfl, b1⟩
  obtain ⟨hc, hf⟩ := bcell b1
  have hb1 : Below w.heap.size w w1 := (((Below.refl _ _).alloc (Nat.le_refl _) _).alloc (by simp) _).trans (b1.mono (by simp; omega))
  have hz : w.heap.size + 1 < w1.heap.size := by have := b1.size; simp at this; omega
  have hz' : w.heap.size < w1.heap.size := by omega
  clear b1 hr
  simp only [fdR, rrV, Option.isSome]
  go_wp2_with fail
  refine (wrong_is _ _ _ a1.out _).mono ?_
  rintro e w' ⟨rfl, rfl⟩
  go_wp2_with fail
  refine (wrong_is _ _ _ a2.out _).mono ?_
  rintro e w' ⟨rfl, rfl⟩
  go_wp2
  exact bodyPost_ret (v := .tuple #[whV (toRw r), .int .i64 0]) (by simp [results, Tryd.results41, go_sem, hc, hz]; rfl) rfl ⟨rfl, ((((((hb1.setCell (by simp) _).setCell (by simp) _).setCell (by simp) _).setCell (by simp) _).setCell (by simp) _).alloc (by simp; omega) _)⟩

set_option maxHeartbeats 1000000 in
theorem rof_z_ppnf (r : RR) (op dst src off imm : Int) (w : World) (h0 : 0 ≤ op) (h1 : op < 256) (d0 : 0 ≤ dst) (d1 : dst < 256) (s0 : 0 ≤ src) (s1 : src < 256) (o0 : -32768 ≤ off) (o1 : off < 32768) (m0 : -2147483648 ≤ imm) (m1 : imm < 2147483648) (hF : Hid (findI op src imm = some r)) (a1 : Hid (rwB r.dst dst = false)) (a2 : Hid (rwB r.src src = false)) (z0 : (r.dst == 0) = true) (y0 : (dst != 0) = false) (z1 : (r.src == 0) = true) (y1 : (src != 0) = false) (z2 : (r.off == 0) = false) (z3 : (r.imm == 0) = true) (y3 : (imm != 0) = true) :
    Calls Tryd.prog 41 #[.agg #[.int .u8 op, .int .u8 dst, .int .u8 src, .int .i16 off, .int .i32 imm]] w fun e w' => e = .returned (.tuple #[whV r0, .int .i64 22]) ∧ Below w.heap.size w w' := by
  have hr := hid fun W => find_any op dst src off imm W s0 s1 m0 m1
  rw [hF.out] at hr
  clear hF
  go_enter Tryd.func41, Tryd.ntmps41
  go_wp2_with fail
  refine (hr.out _).mono ?_
  rintro e w1 ⟨rfl, b1⟩
  obtain ⟨hc, hf⟩ := bcell b1
  have hb1 : Below w.heap.size w w1 := (((Below.refl _ _).alloc (Nat.le_refl _) _).alloc (by simp) _).trans (b1.mono (by simp; omega))
  have hz : w.heap.size + 1 < w1.heap.size := by have := b1.size; simp at this; omega
  have hz' : w.heap.size < w1.heap.size := by omega
  clear b1 hr
  simp only [fdR, rrV, Option.isSome]
  go_wp2_with fail
  refine (wrong_is _ _ _ a1.out _).mono ?_
  rintro e w' ⟨rfl, rfl⟩
  go_wp2_with fail
  refine (wrong_is _ _ _ a2.out _).mono ?_
  rintro e w' ⟨rfl, rfl⟩
  go_wp2
  exact bodyPost_ret (v := .tuple #[whV r0, .int .i64 22]) (by simp [results, Tryd.results41, go_sem, hc, hz]; rfl) rfl ⟨rfl, ((((((hb1.setCell (by simp) _).setCell (by simp) _).setCell (by simp) _).setCell (by simp) _).setCell (by simp) _).alloc (by simp; omega) _)⟩

set_option maxHeartbeats 1000000 in
theorem rof_z_pppn (r : RR) (op dst src off imm : Int) (w : World) (h0 : 0 ≤ op) (h1 : op < 256) (d0 : 0 ≤ dst) (d1 : dst < 256) (s0 : 0 ≤ src) (s1 : src < 256) (o0 : -32768 ≤ off) (o1 : off < 32768) (m0 : -2147483648 ≤ imm) (m1 : imm < 2147483648) (hF : Hid (findI op src imm = some r)) (a1 : Hid (rwB r.dst dst = false)) (a2 : Hid (rwB r.src src = false)) (z0 : (r.dst == 0) = true) (y0 : (dst != 0) = false) (z1 : (r.src == 0) = true) (y1 : (src != 0) = false) (z2 : (r.off == 0) = true) (y2 : (off != 0) = false) (z3 : (r.imm == 0) = false) :
    Calls Tryd.prog 41 #[.agg #[.int .u8 op, .int .u8 dst, .int .u8 src, .int .i16 off, .int .i32 imm]] w fun e w' => e = .returned (.tuple #[whV (toRw r), .int .i64 0]) ∧ Below w.heap.size w w' := by
  have hr := hid fun W => find_any op dst src off imm W s0 s1 m0 m1
  rw [hF.out] at hr
  clear hF
  go_enter Tryd.func41, Tryd.ntmps41
  go_wp2_with fail
  refine (hr.out _).mono ?_
  rintro e w1 ⟨rfl, b1⟩
  obtain ⟨hc, hf⟩ := bcell b1
  have hb1 : Below w.heap.size w w1 := (((Below.refl _ _).alloc (Nat.le_refl _) _).alloc (by simp) _).trans (b1.mono (by simp; omega))
  have hz : w.heap.size + 1 < w1.heap.size := by have := b1.size; simp at this; omega
  have hz' : w.heap.size < w1.heap.size := by omega
  clear b1 hr
  simp only [fdR, rrV, Option.isSome]
  go_wp2_with fail
  refine (wrong_is _ _ _ a1.out _).mono ?_
  rintro e w' ⟨rfl, rfl⟩
  go_wp2_with fail
  refine (wrong_is _ _ _ a2.out _).mono ?_
  rintro e w' ⟨rfl, rfl⟩
  go_wp2
  exact bodyPost_ret (v := .tuple #[whV (toRw r), .int .i64 0]) (by simp [results, Tryd.results41, go_sem, hc, hz]; rfl) rfl ⟨rfl, ((((((hb1.setCell (by simp) _).setCell (by simp) _).setCell (by simp) _).setCell (by simp) _).setCell (by simp) _).alloc (by simp; omega) _)⟩

set_option maxHeartbeats 1000000 in
theorem rof_z_pppp (r : RR) (op dst src off imm : Int) (w : World) (h0 : 0 ≤ op) (h1 : op < 256) (d0 : 0 ≤ dst) (d1 : dst < 256) (s0 : 0 ≤ src) (s1 : src < 256) (o0 : -32768 ≤ off) (o1 : off < 32768) (m0 : -2147483648 ≤ imm) (m1 : imm < 2147483648) (hF : Hid (findI op src imm = some r)) (a1 : Hid (rwB r.dst dst = false)) (a2 : Hid (rwB r.src src = false)) (z0 : (r.dst == 0) = true) (y0 : (dst != 0) = false) (z1 : (r.src == 0) = true) (y1 : (src != 0) = false) (z2 : (r.off == 0) = true) (y2 : (off != 0) = false) (z3 : (r.imm == 0) = true) (y3 : (imm != 0) = false) :
    Calls Tryd.prog 41 #[.agg #[.int .u8 op, .int .u8 dst, .int .u8 src, .int .i16 off, .int .i32 imm]] w fun e w' => e = .returned (.tuple #[whV (toRw r), .int .i64 0]) ∧ Below w.heap.size w w' := by
  have hr := hid fun W => find_any op dst src off imm W s0 s1 m0 m1
  rw [hF.out] at hr
  clear hF
  go_enter Tryd.func41, Tryd.ntmps41
  go_wp2_with fail
  refine (hr.out _).mono ?_
  rintro e w1 ⟨rfl, b1⟩
  obtain ⟨hc, hf⟩ := bcell b1
  have hb1 : Below w.heap.size w w1 := (((Below.refl _ _).alloc (Nat.le_refl _) _).alloc (by simp) _).trans (b1.mono (by simp; omega))
  have hz : w.heap.size + 1 < w1.heap.size := by have := b1.size; simp at this; omega
  have hz' : w.heap.size < w1.heap.size := by omega
  clear b1 hr
  simp only [fdR, rrV, Option.isSome]
  go_wp2_with fail
  refine (wrong_is _ _ _ a1.out _).mono ?_
  rintro e w' ⟨rfl, rfl⟩
  go_wp2_with fail
  refine (wrong_is _ _ _ a2.out _).mono ?_
  rintro e w' ⟨rfl, rfl⟩
  go_wp2
  exact bodyPost_ret (v := .tuple #[whV (toRw r), .int .i64 0]) (by simp [results, Tryd.results41, go_sem, hc, hz]; rfl) rfl ⟨rfl, ((((((hb1.setCell (by simp) _).setCell (by simp) _).setCell (by simp) _).setCell (by simp) _).setCell (by simp) _).alloc (by simp; omega) _)⟩

set_option maxHeartbeats 1000000 in
theorem rof_z_pppf (r : RR) (op dst src off imm : Int) (w : World) (h0 : 0 ≤ op) (h1 : op < 256) (d0 : 0 ≤ dst) (d1 : dst < 256) (s0 : 0 ≤ src) (s1 : src < 256) (o0 : -32768 ≤ off) (o1 : off < 32768) (m0 : -2147483648 ≤ imm) (m1 : imm < 2147483648) (hF : Hid (findI op src imm = some r)) (a1 : Hid (rwB r.dst dst = false)) (a2 : Hid (rwB r.src src = false)) (z0 : (r.dst == 0) = true) (y0 : (dst != 0) = false) (z1 : (r.src == 0) = true) (y1 : (src != 0) = false) (z2 : (r.off == 0) = true) (y2 : (off != 0) = false) (z3 : (r.imm == 0) = true) (y3 : (imm != 0) = true) :
    Calls Tryd.prog 41 #[.agg #[.int .u8 op, .int .u8 dst, .int .u8 src, .int .i16 off, .int .i32 imm]] w fun e w' => e = .returned (.tuple #[whV r0, .int .i64 22]) ∧ Below w.heap.size w w' := by
  have hr := hid fun W => find_any op dst src off imm W s0 s1 m0 m1
  rw [hF.out] at hr
  clear hF
  go_enter Tryd.func41, Tryd.ntmps41
  go_wp2_with fail
  refine (hr.out _).mono ?_
  rintro e w1 ⟨rfl, b1⟩
  obtain ⟨hc, hf⟩ := bcell b1
  have hb1 : Below w.heap.size w w1 := (((Below.refl _ _).alloc (Nat.le_refl _) _).alloc (by simp) _).trans (b1.mono (by simp; omega))
  have hz : w.heap.size + 1 < w1.heap.size := by have := b1.size; simp at this; omega
  have hz' : w.heap.size < w1.heap.size := by omega
  clear b1 hr
  simp only [fdR, rrV, Option.isSome]
  go_wp2_with fail
  refine (wrong_is _ _ _ a1.out _).mono ?_
  rintro e w' ⟨rfl, rfl⟩
  go_wp2_with fail
  refine (wrong_is _ _ _ a2.out _).mono ?_
  rintro e w' ⟨rfl, rfl⟩
  go_wp2
  exact bodyPost_ret (v := .tuple #[whV r0, .int .i64 22]) (by simp [results, Tryd.results41, go_sem, hc, hz]; rfl) rfl ⟨rfl, ((((((hb1.setCell (by simp) _).setCell (by simp) _).setCell (by simp) _).setCell (by simp) _).setCell (by simp) _).alloc (by simp; omega) _)⟩

set_option maxHeartbeats 1000000 in
theorem rof_z_ppf (r : RR) (op dst src off imm : Int) (w : World) (h0 : 0 ≤ op) (h1 : op < 256) (d0 : 0 ≤ dst) (d1 : dst < 256) (s0 : 0 ≤ src) (s1 : src < 256) (o0 : -32768 ≤ off) (o1 : off < 32768) (m0 : -2147483648 ≤ imm) (m1 : imm < 2147483648) (hF : Hid (findI op src imm = some r)) (a1 : Hid (rwB r.dst dst = false)) (a2 : Hid (rwB r.src src = false)) (z0 : (r.dst == 0) = true) (y0 : (dst != 0) = false) (z1 : (r.src == 0) = true) (y1 : (src != 0) = false) (z2 : (r.off == 0) = true) (y2 : (off != 0) = true) :
    Calls Tryd.prog 41 #[.agg #[.int .u8 op, .int .u8 dst, .int .u8 src, .int .i16 off, .int .i32 imm]] w fun e w' => e = .returned (.tuple #[whV r0, .int .i64 22]) ∧ Below w.heap.size w w' := by
  have hr := hid fun W => find_any op dst src off imm W s0 s1 m0 m1
  rw [hF.out] at hr
  clear hF
  go_enter Tryd.func41, Tryd.ntmps41
  go_wp2_with fail
  refine (hr.out _).mono ?_
  rintro e w1 ⟨rfl, b1⟩
  obtain ⟨hc, hf⟩ := bcell b1
  have hb1 : Below w.heap.size w w1 := (((Below.refl _ _).alloc (Nat.le_refl _) _).alloc (by simp) _).trans (b1.mono (by simp; omega))
  have hz : w.heap.size + 1 < w1.heap.size := by have := b1.size; simp at this; omega
  have hz' : w.heap.size < w1.heap.size := by omega
  clear b1 hr
  simp only [fdR, rrV, Option.isSome]
  go_wp2_with fail
  refine (wrong_is _ _ _ a1.out _).mono ?_
  rintro e w' ⟨rfl, rfl⟩
  go_wp2_with fail
  refine (wrong_is _ _ _ a2.out _).mono ?_
  rintro e w' ⟨rfl, rfl⟩
  go_wp2
  exact bodyPost_ret (v := .tuple #[whV r0, .int .i64 22]) (by simp [results, Tryd.results41, go_sem, hc, hz]; rfl) rfl ⟨rfl, ((((((hb1.setCell (by simp) _).setCell (by simp) _).setCell (by simp) _).setCell (by simp) _).setCell (by simp) _).alloc (by simp; omega) _)⟩

set_option maxHeartbeats 1000000 in
theorem rof_z_pf (r : RR) (op dst src off imm : Int) (w : World) (h0 : 0 ≤ op) (h1 : op < 256) (d0 : 0 ≤ dst) (d1 : dst < 256) (s0 : 0 ≤ src) (s1 : src < 256) (o0 : -32768 ≤ off) (o1 : off < 32768) (m0 : -2147483648 ≤ imm) (m1 : imm < 2147483648) (hF : Hid (findI op src imm = some r)) (a1 : Hid (rwB r.dst dst = false)) (a2 : Hid (rwB r.src src = false)) (z0 : (r.dst == 0) = true) (y0 : (dst != 0) = false) (z1 : (r.src == 0) = true) (y1 : (src != 0) = true) :
    Calls Tryd.prog 41 #[.agg #[.int .u8 op, .int .u8 dst, .int .u8 src, .int .i16 off, .int .i32 imm]] w fun e w' => e = .returned (.tuple #[whV r0, .int .i64 22]) ∧ Below w.heap.size w w' := by
  have hr := hid fun W => find_any op dst src off imm W s0 s1 m0 m1
  rw [hF.out] at hr
  clear hF
  go_enter Tryd.func41, Tryd.ntmps41
  go_wp2_with fail
  refine (hr.out _).mono ?_
  rintro e w1 ⟨rfl, b1⟩
  obtain ⟨hc, hf⟩ := bcell b1
  have hb1 : Below w.heap.size w w1 := (((Below.refl _ _).alloc (Nat.le_refl _) _).alloc (by simp) _).trans (b1.mono (by simp; omega))
  have hz : w.heap.size + 1 < w1.heap.size := by have := b1.size; simp at this; omega
  have hz' : w.heap.size < w1.heap.size := by omega
  clear b1 hr
  simp only [fdR, rrV, Option.isSome]
  go_wp2_with fail
  refine (wrong_is _ _ _ a1.out _).mono ?_
  rintro e w' ⟨rfl, rfl⟩
  go_wp2_with fail
  refine (wrong_is _ _ _ a2.out _).mono ?_
  rintro e w' ⟨rfl, rfl⟩
  go_wp2
  exact bodyPost_ret (v := .tuple #[whV r0, .int .i64 22]) (by simp [results, Tryd.results41, go_sem, hc, hz]; rfl) rfl ⟨rfl, ((((((hb1.setCell (by simp) _).setCell (by simp) _).setCell (by simp) _).setCell (by simp) _).setCell (by simp) _).alloc (by simp; omega) _)⟩

set_option maxHeartbeats 1000000 in
theorem rof_z_f (r : RR) (op dst src off imm : Int) (w : World) (h0 : 0 ≤ op) (h1 : op < 256) (d0 : 0 ≤ dst) (d1 : dst < 256) (s0 : 0 ≤ src) (s1 : src < 256) (o0 : -32768 ≤ off) (o1 : off < 32768) (m0 : -2147483648 ≤ imm) (m1 : imm < 2147483648) (hF : Hid (findI op src imm = some r)) (a1 : Hid (rwB r.dst dst = false)) (a2 : Hid (rwB r.src src = false)) (z0 : (r.dst == 0) = true) (y0 : (dst != 0) = true) :
    Calls Tryd.prog 41 #[.agg #[.int .u8 op, .int .u8 dst, .int .u8 src, .int .i16 off, .int .i32 imm]] w fun e w' => e = .returned (.tuple #[whV r0, .int .i64 22]) ∧ Below w.heap.size w w' := by
  have hr := hid fun W => find_any op dst src off imm W s0 s1 m0 m1
  rw [hF.out] at hr
  clear hF
  go_enter Tryd.func41, Tryd.ntmps41
  go_wp2_with fail
  refine (hr.out _).mono ?_
  rintro e w1 ⟨rfl, b1⟩
  obtain ⟨hc, hf⟩ := bcell b1
  have hb1 : Below w.heap.size w w1 := (((Below.refl _ _).alloc (Nat.le_refl _) _).alloc (by simp) _).trans (b1.mono (by simp; omega))
  have hz : w.heap.size + 1 < w1.heap.size := by have := b1.size; simp at this; omega
  have hz' : w.heap.size < w1.heap.size := by omega
  clear b1 hr
  simp only [fdR, rrV, Option.isSome]
  go_wp2_with fail
  refine (wrong_is _ _ _ a1.out _).mono ?_
  rintro e w' ⟨rfl, rfl⟩
  go_wp2_with fail
  refine (wrong_is _ _ _ a2.out _).mono ?_
  rintro e w' ⟨rfl, rfl⟩
  go_wp2
  exact bodyPost_ret (v := .tuple #[whV r0, .int .i64 22]) (by simp [results, Tryd.results41, go_sem, hc, hz]; rfl) rfl ⟨rfl, ((((((hb1.setCell (by simp) _).setCell (by simp) _).setCell (by simp) _).setCell (by simp) _).setCell (by simp) _).alloc (by simp; omega) _)⟩

end Go.Proofs.YtodmikjpmcabiabDoor

namespace Go.Proofs.YtodmikjpmcabiabDoor
set_option linter.unusedSimpArgs false
set_option linter.unusedVariables false
set_option maxRecDepth 100000
open Go.ChangeShapes Go.WideShapes Go.ChangeAt Go.RowKit

theorem rof_any (op dst src off imm : Int) (w : World) (h0 : 0 ≤ op) (h1 : op < 256) (d0 : 0 ≤ dst) (d1 : dst < 256) (s0 : 0 ≤ src) (s1 : src < 256) (o0 : -32768 ≤ off) (o1 : off < 32768) (m0 : -2147483648 ≤ imm) (m1 : imm < 2147483648) :
    Calls Tryd.prog 41 #[.agg #[.int .u8 op, .int .u8 dst, .int .u8 src, .int .i16 off, .int .i32 imm]] w fun e w' => e = .returned (.tuple #[whV (tkR (rowI op src imm) dst src off imm), .int .i64 (tkE (rowI op src imm) dst src off imm)]) ∧ Below w.heap.size w w' := by
  unfold tkR
  rw [both_E op dst src off imm h0 h1, link op src imm h0 h1]
  cases hF : findI op src imm with
  | none => exact rof_none op dst src off imm w h0 h1 d0 d1 s0 s1 o0 o1 m0 m1 (hid hF)
  | some r =>
    show Calls Tryd.prog 41 #[.agg #[.int .u8 op, .int .u8 dst, .int .u8 src, .int .i16 off, .int .i32 imm]] w fun e w' => e = .returned (.tuple #[whV (roV r (roE r dst src off imm)), .int .i64 (roE r dst src off imm)]) ∧ Below w.heap.size w w'
    cases a1 : rwB r.dst dst
    · cases a2 : rwB r.src src
      · cases z0 : (r.dst == 0)
        · cases z1 : (r.src == 0)
          · cases z2 : (r.off == 0)
            · cases z3 : (r.imm == 0)
              · rw [show roE r dst src off imm = 0 by unfold roE rz; rw [a1, a2, z0, z1, z2, z3]; rfl]
                exact rof_z_nnnn r op dst src off imm w h0 h1 d0 d1 s0 s1 o0 o1 m0 m1 (hid hF) (hid a1) (hid a2) z0 z1 z2 z3
              · cases y3 : (imm != 0)
                · rw [show roE r dst src off imm = 0 by unfold roE rz; rw [a1, a2, z0, z1, z2, z3, y3]; rfl]
                  exact rof_z_nnnp r op dst src off imm w h0 h1 d0 d1 s0 s1 o0 o1 m0 m1 (hid hF) (hid a1) (hid a2) z0 z1 z2 z3 y3
                · rw [show roE r dst src off imm = 22 by unfold roE rz; rw [a1, a2, z0, z1, z2, z3, y3]; simp]
                  exact rof_z_nnnf r op dst src off imm w h0 h1 d0 d1 s0 s1 o0 o1 m0 m1 (hid hF) (hid a1) (hid a2) z0 z1 z2 z3 y3
            · cases y2 : (off != 0)
              · cases z3 : (r.imm == 0)
                · rw [show roE r dst src off imm = 0 by unfold roE rz; rw [a1, a2, z0, z1, z2, y2, z3]; rfl]
                  exact rof_z_nnpn r op dst src off imm w h0 h1 d0 d1 s0 s1 o0 o1 m0 m1 (hid hF) (hid a1) (hid a2) z0 z1 z2 y2 z3
                · cases y3 : (imm != 0)
                  · rw [show roE r dst src off imm = 0 by unfold roE rz; rw [a1, a2, z0, z1, z2, y2, z3, y3]; rfl]
                    exact rof_z_nnpp r op dst src off imm w h0 h1 d0 d1 s0 s1 o0 o1 m0 m1 (hid hF) (hid a1) (hid a2) z0 z1 z2 y2 z3 y3
                  · rw [show roE r dst src off imm = 22 by unfold roE rz; rw [a1, a2, z0, z1, z2, y2, z3, y3]; simp]
                    exact rof_z_nnpf r op dst src off imm w h0 h1 d0 d1 s0 s1 o0 o1 m0 m1 (hid hF) (hid a1) (hid a2) z0 z1 z2 y2 z3 y3
              · rw [show roE r dst src off imm = 22 by unfold roE rz; rw [a1, a2, z0, z1, z2, y2]; simp]
                exact rof_z_nnf r op dst src off imm w h0 h1 d0 d1 s0 s1 o0 o1 m0 m1 (hid hF) (hid a1) (hid a2) z0 z1 z2 y2
          · cases y1 : (src != 0)
            · cases z2 : (r.off == 0)
              · cases z3 : (r.imm == 0)
                · rw [show roE r dst src off imm = 0 by unfold roE rz; rw [a1, a2, z0, z1, y1, z2, z3]; rfl]
                  exact rof_z_npnn r op dst src off imm w h0 h1 d0 d1 s0 s1 o0 o1 m0 m1 (hid hF) (hid a1) (hid a2) z0 z1 y1 z2 z3
                · cases y3 : (imm != 0)
                  · rw [show roE r dst src off imm = 0 by unfold roE rz; rw [a1, a2, z0, z1, y1, z2, z3, y3]; rfl]
                    exact rof_z_npnp r op dst src off imm w h0 h1 d0 d1 s0 s1 o0 o1 m0 m1 (hid hF) (hid a1) (hid a2) z0 z1 y1 z2 z3 y3
                  · rw [show roE r dst src off imm = 22 by unfold roE rz; rw [a1, a2, z0, z1, y1, z2, z3, y3]; simp]
                    exact rof_z_npnf r op dst src off imm w h0 h1 d0 d1 s0 s1 o0 o1 m0 m1 (hid hF) (hid a1) (hid a2) z0 z1 y1 z2 z3 y3
              · cases y2 : (off != 0)
                · cases z3 : (r.imm == 0)
                  · rw [show roE r dst src off imm = 0 by unfold roE rz; rw [a1, a2, z0, z1, y1, z2, y2, z3]; rfl]
                    exact rof_z_nppn r op dst src off imm w h0 h1 d0 d1 s0 s1 o0 o1 m0 m1 (hid hF) (hid a1) (hid a2) z0 z1 y1 z2 y2 z3
                  · cases y3 : (imm != 0)
                    · rw [show roE r dst src off imm = 0 by unfold roE rz; rw [a1, a2, z0, z1, y1, z2, y2, z3, y3]; rfl]
                      exact rof_z_nppp r op dst src off imm w h0 h1 d0 d1 s0 s1 o0 o1 m0 m1 (hid hF) (hid a1) (hid a2) z0 z1 y1 z2 y2 z3 y3
                    · rw [show roE r dst src off imm = 22 by unfold roE rz; rw [a1, a2, z0, z1, y1, z2, y2, z3, y3]; simp]
                      exact rof_z_nppf r op dst src off imm w h0 h1 d0 d1 s0 s1 o0 o1 m0 m1 (hid hF) (hid a1) (hid a2) z0 z1 y1 z2 y2 z3 y3
                · rw [show roE r dst src off imm = 22 by unfold roE rz; rw [a1, a2, z0, z1, y1, z2, y2]; simp]
                  exact rof_z_npf r op dst src off imm w h0 h1 d0 d1 s0 s1 o0 o1 m0 m1 (hid hF) (hid a1) (hid a2) z0 z1 y1 z2 y2
            · rw [show roE r dst src off imm = 22 by unfold roE rz; rw [a1, a2, z0, z1, y1]; simp]
              exact rof_z_nf r op dst src off imm w h0 h1 d0 d1 s0 s1 o0 o1 m0 m1 (hid hF) (hid a1) (hid a2) z0 z1 y1
        · cases y0 : (dst != 0)
          · cases z1 : (r.src == 0)
            · cases z2 : (r.off == 0)
              · cases z3 : (r.imm == 0)
                · rw [show roE r dst src off imm = 0 by unfold roE rz; rw [a1, a2, z0, y0, z1, z2, z3]; rfl]
                  exact rof_z_pnnn r op dst src off imm w h0 h1 d0 d1 s0 s1 o0 o1 m0 m1 (hid hF) (hid a1) (hid a2) z0 y0 z1 z2 z3
                · cases y3 : (imm != 0)
                  · rw [show roE r dst src off imm = 0 by unfold roE rz; rw [a1, a2, z0, y0, z1, z2, z3, y3]; rfl]
                    exact rof_z_pnnp r op dst src off imm w h0 h1 d0 d1 s0 s1 o0 o1 m0 m1 (hid hF) (hid a1) (hid a2) z0 y0 z1 z2 z3 y3
                  · rw [show roE r dst src off imm = 22 by unfold roE rz; rw [a1, a2, z0, y0, z1, z2, z3, y3]; simp]
                    exact rof_z_pnnf r op dst src off imm w h0 h1 d0 d1 s0 s1 o0 o1 m0 m1 (hid hF) (hid a1) (hid a2) z0 y0 z1 z2 z3 y3
              · cases y2 : (off != 0)
                · cases z3 : (r.imm == 0)
                  · rw [show roE r dst src off imm = 0 by unfold roE rz; rw [a1, a2, z0, y0, z1, z2, y2, z3]; rfl]
                    exact rof_z_pnpn r op dst src off imm w h0 h1 d0 d1 s0 s1 o0 o1 m0 m1 (hid hF) (hid a1) (hid a2) z0 y0 z1 z2 y2 z3
                  · cases y3 : (imm != 0)
                    · rw [show roE r dst src off imm = 0 by unfold roE rz; rw [a1, a2, z0, y0, z1, z2, y2, z3, y3]; rfl]
                      exact rof_z_pnpp r op dst src off imm w h0 h1 d0 d1 s0 s1 o0 o1 m0 m1 (hid hF) (hid a1) (hid a2) z0 y0 z1 z2 y2 z3 y3
                    · rw [show roE r dst src off imm = 22 by unfold roE rz; rw [a1, a2, z0, y0, z1, z2, y2, z3, y3]; simp]
                      exact rof_z_pnpf r op dst src off imm w h0 h1 d0 d1 s0 s1 o0 o1 m0 m1 (hid hF) (hid a1) (hid a2) z0 y0 z1 z2 y2 z3 y3
                · rw [show roE r dst src off imm = 22 by unfold roE rz; rw [a1, a2, z0, y0, z1, z2, y2]; simp]
                  exact rof_z_pnf r op dst src off imm w h0 h1 d0 d1 s0 s1 o0 o1 m0 m1 (hid hF) (hid a1) (hid a2) z0 y0 z1 z2 y2
            · cases y1 : (src != 0)
              · cases z2 : (r.off == 0)
                · cases z3 : (r.imm == 0)
                  · rw [show roE r dst src off imm = 0 by unfold roE rz; rw [a1, a2, z0, y0, z1, y1, z2, z3]; rfl]
                    exact rof_z_ppnn r op dst src off imm w h0 h1 d0 d1 s0 s1 o0 o1 m0 m1 (hid hF) (hid a1) (hid a2) z0 y0 z1 y1 z2 z3
                  · cases y3 : (imm != 0)
                    · rw [show roE r dst src off imm = 0 by unfold roE rz; rw [a1, a2, z0, y0, z1, y1, z2, z3, y3]; rfl]
                      exact rof_z_ppnp r op dst src off imm w h0 h1 d0 d1 s0 s1 o0 o1 m0 m1 (hid hF) (hid a1) (hid a2) z0 y0 z1 y1 z2 z3 y3
                    · rw [show roE r dst src off imm = 22 by unfold roE rz; rw [a1, a2, z0, y0, z1, y1, z2, z3, y3]; simp]
                      exact rof_z_ppnf r op dst src off imm w h0 h1 d0 d1 s0 s1 o0 o1 m0 m1 (hid hF) (hid a1) (hid a2) z0 y0 z1 y1 z2 z3 y3
                · cases y2 : (off != 0)
                  · cases z3 : (r.imm == 0)
                    · rw [show roE r dst src off imm = 0 by unfold roE rz; rw [a1, a2, z0, y0, z1, y1, z2, y2, z3]; rfl]
                      exact rof_z_pppn r op dst src off imm w h0 h1 d0 d1 s0 s1 o0 o1 m0 m1 (hid hF) (hid a1) (hid a2) z0 y0 z1 y1 z2 y2 z3
                    · cases y3 : (imm != 0)
                      · rw [show roE r dst src off imm = 0 by unfold roE rz; rw [a1, a2, z0, y0, z1, y1, z2, y2, z3, y3]; rfl]
                        exact rof_z_pppp r op dst src off imm w h0 h1 d0 d1 s0 s1 o0 o1 m0 m1 (hid hF) (hid a1) (hid a2) z0 y0 z1 y1 z2 y2 z3 y3
                      · rw [show roE r dst src off imm = 22 by unfold roE rz; rw [a1, a2, z0, y0, z1, y1, z2, y2, z3, y3]; simp]
                        exact rof_z_pppf r op dst src off imm w h0 h1 d0 d1 s0 s1 o0 o1 m0 m1 (hid hF) (hid a1) (hid a2) z0 y0 z1 y1 z2 y2 z3 y3
                  · rw [show roE r dst src off imm = 22 by unfold roE rz; rw [a1, a2, z0, y0, z1, y1, z2, y2]; simp]
                    exact rof_z_ppf r op dst src off imm w h0 h1 d0 d1 s0 s1 o0 o1 m0 m1 (hid hF) (hid a1) (hid a2) z0 y0 z1 y1 z2 y2
              · rw [show roE r dst src off imm = 22 by unfold roE rz; rw [a1, a2, z0, y0, z1, y1]; simp]
                exact rof_z_pf r op dst src off imm w h0 h1 d0 d1 s0 s1 o0 o1 m0 m1 (hid hF) (hid a1) (hid a2) z0 y0 z1 y1
          · rw [show roE r dst src off imm = 22 by unfold roE rz; rw [a1, a2, z0, y0]; simp]
            exact rof_z_f r op dst src off imm w h0 h1 d0 d1 s0 s1 o0 o1 m0 m1 (hid hF) (hid a1) (hid a2) z0 y0
      · rw [show roE r dst src off imm = 21 by unfold roE; rw [a1, a2]; rfl]
        exact rof_w2 r op dst src off imm w h0 h1 d0 d1 s0 s1 o0 o1 m0 m1 (hid hF) (hid a1) (hid a2)
    · rw [show roE r dst src off imm = 21 by unfold roE; rw [a1]; rfl]
      exact rof_w1 r op dst src off imm w h0 h1 d0 d1 s0 s1 o0 o1 m0 m1 (hid hF) (hid a1)

end Go.Proofs.YtodmikjpmcabiabDoor
