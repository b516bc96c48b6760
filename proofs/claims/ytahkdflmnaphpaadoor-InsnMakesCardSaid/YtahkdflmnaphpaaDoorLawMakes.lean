/-
  The walk of law InsnMakes: what insn.Make makes of any What and any fields is what the document's own Make makes of them. The table of sizes is as start-up lays it (the card ties it); no other condition.
-/
import Derived.Test.YtahkdflmnaphpaaDoorInsnU
import Derived.Test.YtahkdflmnaphpaaDoorInsnW
import Derived.Test.YtahkdflmnaphpaaDoorInsnK
import Derived.Deep.RegionWith
import Derived.Deep.DeepMust
namespace Go.Proofs.YtahkdflmnaphpaaDoor
set_option linter.unusedSimpArgs false
set_option linter.unusedVariables false
open Go.ChangeShapes Go.WideShapes Go.ChangeAt Go.RowKit Go.Joins Go.Deep

theorem mkV_form (q : Rw) (dst src off imm : Int) : ∃ v0 v1 v2 v3 v4, mkV q dst src off imm = .agg #[.int .u8 v0, .int .u8 v1, .int .u8 v2, .int .i16 v3, .int .i32 v4] := by
  unfold mkV
  split
  · exact ⟨_, _, _, _, _, rfl⟩
  · exact ⟨_, _, _, _, _, rfl⟩
theorem what_any (q : Rw) (w : World) : Calls Tryd.prog 17 #[whV q] w fun e w' => e = .returned (whV q) ∧ Below w.heap.size w w' := by
  unfold whV
  go_enter Tryd.func17, Tryd.ntmps17
  go_wp2
  exact bodyPost_ret (v := whV q) (by simp [results, Tryd.results17, go_sem]; rfl) rfl ⟨rfl, ((Below.refl _ _).alloc (Nat.le_refl _) _).alloc (by simp) _⟩
set_option maxRecDepth 100000 in
set_option maxHeartbeats 4000000 in
theorem insnMakes_walk (q : Rw) (op dst src off imm : Int) (w : World) (h0 : 0 ≤ op) (h1 : op < 256) (d0 : 0 ≤ dst) (d1 : dst < 256) (s0 : 0 ≤ src) (s1 : src < 256) (o0 : -32768 ≤ off) (o1 : off < 32768) (m0 : -2147483648 ≤ imm) (m1 : imm < 2147483648) (hz : SzOk w) :
    Calls Tryd.prog 4 #[whV q, .agg #[.int .u8 op, .int .u8 dst, .int .u8 src, .int .i16 off, .int .i32 imm]] w fun e w' => e = .returned (.bool true) ∧ Below w.heap.size w w' := by
  have HK := hid fun W h => make_any q op dst src off imm W h0 h1 d0 d1 s0 s1 o0 o1 m0 m1 h
  obtain ⟨v0, v1, v2, v3, v4, hV⟩ := mkV_form q dst src off imm
  have HRM := hid fun W => rmake_any q op dst src off imm W h0 h1 d0 d1 s0 s1 o0 o1 m0 m1
  simp only [hV] at HK HRM
  clear hV
  generalize mkE q dst src off imm = E at HK HRM
  have HQ := hid fun W => what_any q W
  have HZ := hid hz
  clear hz
  unfold whV at *
  go_enter Tryd.func4, Tryd.ntmps4
  go_wp2
  go_region_with ((first | (go_at_call 17; refine (HQ.out _).mono ?_; rintro e w1 ⟨rfl, b1⟩; obtain ⟨hc, hf⟩ := bcell b1; have q0 : w.heap.size + 1 < w1.heap.size := (by have := b1.size; (try simp at this); omega); have q1 : w.heap.size < w1.heap.size := (by omega); (try (have q2 : w.heap.size + 2 < w1.heap.size := (by have := b1.size; (try simp at this); omega))); have bb1 : Below w.heap.size w w1 := (by refine Below.trans ?_ (b1.mono (by first | omega | (simp; done) | (simp; omega))); repeat (first | exact Below.refl _ _ | (with_reducible refine Below.drew ?_) | ((with_reducible refine Below.alloc ?_ ?_ _); rotate_left; · first | omega | (simp; done) | (simp; omega)))); clear b1) | (go_at_call 16; go_must (refine (HK.out _ (HZ.out.below (by repeat (first | (with_reducible exact bb1) | (with_reducible refine Below.drew ?_) | ((with_reducible refine Below.alloc ?_ ?_ _); rotate_left; · first | omega | (simp; done) | (simp; omega)))))).mono ?_; rintro e w2 ⟨rfl, b2⟩; obtain ⟨hc2, hf2⟩ := bcell b2; have r0 : w.heap.size + 1 < w2.heap.size := (by have := b2.size; (try simp at this); omega); have r1 : w.heap.size < w2.heap.size := (by omega); (try (have r2 : w.heap.size + 2 < w2.heap.size := (by have := b2.size; (try simp at this); omega))); (try (have r3 : w1.heap.size < w2.heap.size := (by have := b2.size; (try simp at this); omega))); have bb2 : Below w.heap.size w w2 := (by refine Below.trans ?_ (b2.mono (by first | omega | (simp; done) | (simp; omega))); repeat (first | (with_reducible exact bb1) | (with_reducible refine Below.drew ?_) | ((with_reducible refine Below.alloc ?_ ?_ _); rotate_left; · first | omega | (simp; done) | (simp; omega)))); clear b2))))
  all_goals
    go_wp2_with fail
    refine (HRM.out _).mono ?_
    rintro e w3 ⟨rfl, b3⟩
    obtain ⟨hc3, hf3⟩ := bcell b3
    have t0 : w.heap.size + 1 < w3.heap.size := by have := b3.size; (try simp at this); omega
    have t1 : w.heap.size < w3.heap.size := by omega
    try (have t2 : w.heap.size + 2 < w3.heap.size := by have := b3.size; (try simp at this); omega)
    try (have t3 : w1.heap.size < w3.heap.size := by have := b3.size; (try simp at this); omega)
    try (have t4 : w2.heap.size < w3.heap.size := by have := b3.size; (try simp at this); omega)
    have bb3 : Below w.heap.size w w3 := by
      refine Below.trans ?_ (b3.mono (by first | omega | (simp; done) | (simp; omega)))
      repeat (first | (with_reducible exact bb2) | (with_reducible refine Below.drew ?_) | (with_reducible refine below_dV ?_ _) | ((with_reducible refine Below.alloc ?_ ?_ _); rotate_left; · first | omega | (simp; done) | (simp; omega)) | ((with_reducible refine Below.setCell ?_ ?_ _); rotate_left; · first | omega | (simp; done) | (simp; omega)))
    clear b3
    go_wp2_with fail
    refine (wakes_any _ (HZ.out.below (by repeat (first | (with_reducible exact bb3) | (with_reducible refine Below.drew ?_) | (with_reducible refine below_dV ?_ _) | ((with_reducible refine Below.alloc ?_ ?_ _); rotate_left; · first | omega | (simp; done) | (simp; omega)))))).mono ?_
    rintro e w4 ⟨rfl, b4⟩
    have bb4 : Below w.heap.size w w4 := by
      refine Below.trans ?_ (b4.mono (by first | omega | (simp; done) | (simp; omega)))
      repeat (first | (with_reducible exact bb3) | (with_reducible refine Below.drew ?_) | (with_reducible refine below_dV ?_ _) | ((with_reducible refine Below.alloc ?_ ?_ _); rotate_left; · first | omega | (simp; done) | (simp; omega)))
    clear b4
    go_wp2
    go_ret
    exact ⟨rfl, bb4⟩
end Go.Proofs.YtahkdflmnaphpaaDoor
