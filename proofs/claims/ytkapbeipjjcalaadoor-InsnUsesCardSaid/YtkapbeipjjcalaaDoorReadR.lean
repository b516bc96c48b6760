/-
  The contract of the document's own Reads.
-/
import Derived.Test.YtkapbeipjjcalaaDoorReadA
import Derived.Test.YtkapbeipjjcalaaDoorRefOU
namespace Go.Proofs.YtkapbeipjjcalaaDoor
set_option linter.unusedSimpArgs false
set_option linter.unusedVariables false
open Go.ChangeShapes Go.WideShapes Go.ChangeAt Go.RowKit Go.Sort Go.Lib

theorem readL_succ (p : Nat → Bool) (k : Nat) : readL p (k + 1) = readL p k ++ (if p k then [(k : Int)] else []) := by
  unfold readL
  rw [List.range_succ, List.filter_append, List.map_append]
  cases h : p k <;> simp [h]
theorem readL_yes {p : Nat → Bool} {k : Nat} (h : p k = true) : readL p (k + 1) = readL p k ++ [(k : Int)] := by rw [readL_succ, h]; rfl
theorem readL_no {p : Nat → Bool} {k : Nat} (h : p k = false) : readL p (k + 1) = readL p k := by rw [readL_succ, h]; simp
theorem readL_len (p : Nat → Bool) (k : Nat) : (readL p k).length ≤ k := by
  unfold readL
  rw [List.length_map]
  exact Nat.le_trans (List.length_filter_le _ _) (by simp)
def pick3 (dB sB xB : Bool) (dst src : Int) (n : Nat) : Bool := (dB && dst == (n : Int)) || (sB && src == (n : Int)) || (xB && (n : Int) == 0)

set_option maxRecDepth 100000 in
set_option maxHeartbeats 4000000 in
theorem rreads_a (T : Rw) (r : RR) (op dst src off imm : Int) (w : World) (d0 : 0 ≤ dst) (d1 : dst < 256) (s0 : 0 ≤ src) (s1 : src < 256)
    (HO : Hid (∀ W, Calls Tryd.prog 21 #[.agg #[.int .u8 op, .int .u8 dst, .int .u8 src, .int .i16 off, .int .i32 imm]] W fun e w' => e = .returned (.tuple #[whV T, .int .i64 0]) ∧ Below W.heap.size W w'))
    (HF : Hid (∀ W, Calls Tryd.prog 22 #[.agg #[.int .u8 op, .int .u8 dst, .int .u8 src, .int .i16 off, .int .i32 imm]] W fun e w' => e = .returned (.tuple #[rrV r, .bool true]) ∧ Below W.heap.size W w')) (f1 : (r.dst == 1) = true) (p : Nat → Bool) (HP0 : Hid (∀ k : Nat, p k = (true && dst == (k : Int) || (r.src == 1) && src == (k : Int) || (T.cls == 9) && (k : Int) == 0))) :
    Calls Tryd.prog 7 #[.agg #[.int .u8 op, .int .u8 dst, .int .u8 src, .int .i16 off, .int .i32 imm]] w (Left2 w (readL p 11)) := by
  go_enter Tryd.func7, Tryd.ntmps7
  go_wp2_with fail
  refine (HO.out _).mono ?_
  rintro e w1 ⟨rfl, b1⟩
  have hb1 := hid (((Below.refl w.heap.size w).alloc (Nat.le_refl _) (.cells #[.int .u8 op, .int .u8 dst, .int .u8 src, .int .i16 off, .int .i32 imm] 24)).trans (b1.mono (by simp)))
  have q0 : w.heap.size < w1.heap.size := by have := b1.size; simp at this; omega
  obtain ⟨hc, hf⟩ := bcell b1
  clear b1
  simp only [whV]
  go_wp2_with fail
  refine (HF.out _).mono ?_
  rintro e w2 ⟨rfl, b2⟩
  have hb2 := hid ((hb1.out.alloc hb1.out.size (.cells #[.int .i64 T.cls, .int .i64 T.op, .int .i64 T.size, .bool T.wide, .bool T.reg] 52)).trans (b2.mono (by have := hb1.out.size; simp; omega)))
  have q1 : w1.heap.size < w2.heap.size := by have := b2.size; simp at this; omega
  have q2 : w.heap.size < w2.heap.size := by omega
  have a1 : w2.cell? ⟨w.heap.size, 1, none⟩ = some (.int .u8 dst) := by rw [b2.cell (p := ⟨w.heap.size, 1, none⟩) (by simp; omega)]; simp [go_sem, hc, q0]
  have a2 : w2.cell? ⟨w.heap.size, 2, none⟩ = some (.int .u8 src) := by rw [b2.cell (p := ⟨w.heap.size, 2, none⟩) (by simp; omega)]; simp [go_sem, hc, q0]
  have a3 : w2.cell? ⟨w1.heap.size, 0, none⟩ = some (.int .i64 T.cls) := by rw [b2.cell (p := ⟨w1.heap.size, 0, none⟩) (by simp)]; simp
  have a4 : w2.cell? ⟨w1.heap.size, 1, none⟩ = some (.int .i64 T.op) := by rw [b2.cell (p := ⟨w1.heap.size, 1, none⟩) (by simp)]; simp
  clear hc hf b2 HO HF
  have own0 := hid (OwnI.nil (w2.alloc (.cells #[.int .u8 r.op, .int .i64 r.cls, .int .i64 r.o, .int .i64 r.size, .bool r.wide, .bool r.reg, .int .i64 r.dst, .int .i64 r.src, .int .i64 r.off, .int .i64 r.imm, .int .i64 r.at_] 56)))
  have hX := hid (hb2.out.alloc hb2.out.size (.cells #[.int .u8 r.op, .int .i64 r.cls, .int .i64 r.o, .int .i64 r.size, .bool r.wide, .bool r.reg, .int .i64 r.dst, .int .i64 r.src, .int .i64 r.off, .int .i64 r.imm, .int .i64 r.at_] 56))
  simp only [rrV]
  go_wp2
  go_loopw [7, 8] (fun l n wr => ∃ k : Nat, k ≤ 11 ∧ n = .int .i64 k ∧ Hid (OwnI (w2.alloc (.cells #[.int .u8 r.op, .int .i64 r.cls, .int .i64 r.o, .int .i64 r.size, .bool r.wide, .bool r.reg, .int .i64 r.dst, .int .i64 r.src, .int .i64 r.off, .int .i64 r.imm, .int .i64 r.at_] 56)) wr l (readL p k))) (fun _ n _ => 11 - (intOf n).toNat)
  case atStart => exact ⟨0, by omega, rfl, own0⟩
  case round =>
    obtain ⟨k, hk, rfl, HW⟩ := hrel
    have z0 : w.heap.size < wr.heap.size := by have := HW.out.2.size; simp at this; omega
    by_cases hlt : k < 11
    · have c1 : wr.cell? ⟨w.heap.size, 1, none⟩ = some (.int .u8 dst) := (HW.out.2.cell (p := ⟨w.heap.size, 1, none⟩) (by simp; omega)).trans (by simp [go_sem, a1, q2])
      have c2 : wr.cell? ⟨w.heap.size, 2, none⟩ = some (.int .u8 src) := (HW.out.2.cell (p := ⟨w.heap.size, 2, none⟩) (by simp; omega)).trans (by simp [go_sem, a2, q2])
      have c3 : wr.cell? ⟨w1.heap.size, 0, none⟩ = some (.int .i64 T.cls) := (HW.out.2.cell (p := ⟨w1.heap.size, 0, none⟩) (by simp; omega)).trans (by simp [go_sem, a3, q1])
      have c4 : wr.cell? ⟨w1.heap.size, 1, none⟩ = some (.int .i64 T.op) := (HW.out.2.cell (p := ⟨w1.heap.size, 1, none⟩) (by simp; omega)).trans (by simp [go_sem, a4, q1])
      have c5 : wr.cell? ⟨w2.heap.size, 6, none⟩ = some (.int .i64 r.dst) := (HW.out.2.cell (p := ⟨w2.heap.size, 6, none⟩) (by simp)).trans (by simp)
      have c6 : wr.cell? ⟨w2.heap.size, 7, none⟩ = some (.int .i64 r.src) := (HW.out.2.cell (p := ⟨w2.heap.size, 7, none⟩) (by simp)).trans (by simp)
      have hle : decide ((k : Int) ≤ 10) = true := by simp; omega
      have hll := readL_len p k
      have HP := hid (HP0.out k)
      clear a1 a2 a3 a4
      cases gd : (dst == (k : Int))
      · cases gs : (r.src == 1)
        · cases gx : (T.cls == 9)
          · have hp := hid (show p k = false by rw [HP.out, gd, gs, gx]; simp)
            have hfin := hid (show OwnI (w2.alloc (.cells #[.int .u8 r.op, .int .i64 r.cls, .int .i64 r.o, .int .i64 r.size, .bool r.wide, .bool r.reg, .int .i64 r.dst, .int .i64 r.src, .int .i64 r.off, .int .i64 r.imm, .int .i64 r.at_] 56)) wr _ (readL p (k + 1)) by rw [readL_no hp.out]; exact HW.out)
            go_wp2
            go_roundw
            case rel => first | exact ⟨k + 1, by omega, by go_num, hfin⟩ | ((repeat apply Exists.intro); exact ⟨⟨k + 1, by omega, by go_num, hfin⟩, rfl⟩)
            case measure => simp [intOf]; omega
          · cases gk : ((k : Int) == 0)
            · have hp := hid (show p k = false by rw [HP.out, gd, gs, gx, gk]; simp)
              have hfin := hid (show OwnI (w2.alloc (.cells #[.int .u8 r.op, .int .i64 r.cls, .int .i64 r.o, .int .i64 r.size, .bool r.wide, .bool r.reg, .int .i64 r.dst, .int .i64 r.src, .int .i64 r.off, .int .i64 r.imm, .int .i64 r.at_] 56)) wr _ (readL p (k + 1)) by rw [readL_no hp.out]; exact HW.out)
              go_wp2
              go_roundw
              case rel => first | exact ⟨k + 1, by omega, by go_num, hfin⟩ | ((repeat apply Exists.intro); exact ⟨⟨k + 1, by omega, by go_num, hfin⟩, rfl⟩)
              case measure => simp [intOf]; omega
            · have hp := hid (show p k = true by rw [HP.out, gd, gs, gx, gk]; simp)
              go_wp2_with (at_builtin; refine append_int rfl (.tmp 73) (.tmp 75) rfl (w2.alloc (.cells #[.int .u8 r.op, .int .i64 r.cls, .int .i64 r.o, .int .i64 r.size, .bool r.wide, .bool r.reg, .int .i64 r.dst, .int .i64 r.src, .int .i64 r.off, .int .i64 r.imm, .int .i64 r.at_] 56)) wr _ (readL p k) (k : Int) (by exact rfl) HW.out _ _ (by exact rfl) (by simp) (by exact rfl) (by omega) ?_; intro v3 w3 own3)
              have hfin := hid (show OwnI (w2.alloc (.cells #[.int .u8 r.op, .int .i64 r.cls, .int .i64 r.o, .int .i64 r.size, .bool r.wide, .bool r.reg, .int .i64 r.dst, .int .i64 r.src, .int .i64 r.off, .int .i64 r.imm, .int .i64 r.at_] 56)) w3 v3 (readL p (k + 1)) by rw [readL_yes hp.out]; exact own3)
              clear own3
              go_roundw
              case rel => first | exact ⟨k + 1, by omega, by go_num, hfin⟩ | ((repeat apply Exists.intro); exact ⟨⟨k + 1, by omega, by go_num, hfin⟩, rfl⟩)
              case measure => simp [intOf]; omega
        · cases gq : (src == (k : Int))
          · cases gx : (T.cls == 9)
            · have hp := hid (show p k = false by rw [HP.out, gd, gs, gq, gx]; simp)
              have hfin := hid (show OwnI (w2.alloc (.cells #[.int .u8 r.op, .int .i64 r.cls, .int .i64 r.o, .int .i64 r.size, .bool r.wide, .bool r.reg, .int .i64 r.dst, .int .i64 r.src, .int .i64 r.off, .int .i64 r.imm, .int .i64 r.at_] 56)) wr _ (readL p (k + 1)) by rw [readL_no hp.out]; exact HW.out)
              go_wp2
              go_roundw
              case rel => first | exact ⟨k + 1, by omega, by go_num, hfin⟩ | ((repeat apply Exists.intro); exact ⟨⟨k + 1, by omega, by go_num, hfin⟩, rfl⟩)
              case measure => simp [intOf]; omega
            · cases gk : ((k : Int) == 0)
              · have hp := hid (show p k = false by rw [HP.out, gd, gs, gq, gx, gk]; simp)
                have hfin := hid (show OwnI (w2.alloc (.cells #[.int .u8 r.op, .int .i64 r.cls, .int .i64 r.o, .int .i64 r.size, .bool r.wide, .bool r.reg, .int .i64 r.dst, .int .i64 r.src, .int .i64 r.off, .int .i64 r.imm, .int .i64 r.at_] 56)) wr _ (readL p (k + 1)) by rw [readL_no hp.out]; exact HW.out)
                go_wp2
                go_roundw
                case rel => first | exact ⟨k + 1, by omega, by go_num, hfin⟩ | ((repeat apply Exists.intro); exact ⟨⟨k + 1, by omega, by go_num, hfin⟩, rfl⟩)
                case measure => simp [intOf]; omega
              · have hp := hid (show p k = true by rw [HP.out, gd, gs, gq, gx, gk]; simp)
                go_wp2_with (at_builtin; refine append_int rfl (.tmp 73) (.tmp 75) rfl (w2.alloc (.cells #[.int .u8 r.op, .int .i64 r.cls, .int .i64 r.o, .int .i64 r.size, .bool r.wide, .bool r.reg, .int .i64 r.dst, .int .i64 r.src, .int .i64 r.off, .int .i64 r.imm, .int .i64 r.at_] 56)) wr _ (readL p k) (k : Int) (by exact rfl) HW.out _ _ (by exact rfl) (by simp) (by exact rfl) (by omega) ?_; intro v3 w3 own3)
                have hfin := hid (show OwnI (w2.alloc (.cells #[.int .u8 r.op, .int .i64 r.cls, .int .i64 r.o, .int .i64 r.size, .bool r.wide, .bool r.reg, .int .i64 r.dst, .int .i64 r.src, .int .i64 r.off, .int .i64 r.imm, .int .i64 r.at_] 56)) w3 v3 (readL p (k + 1)) by rw [readL_yes hp.out]; exact own3)
                clear own3
                go_roundw
                case rel => first | exact ⟨k + 1, by omega, by go_num, hfin⟩ | ((repeat apply Exists.intro); exact ⟨⟨k + 1, by omega, by go_num, hfin⟩, rfl⟩)
                case measure => simp [intOf]; omega
          · have hp := hid (show p k = true by rw [HP.out, gd, gs, gq]; simp)
            go_wp2_with (at_builtin; refine append_int rfl (.tmp 73) (.tmp 75) rfl (w2.alloc (.cells #[.int .u8 r.op, .int .i64 r.cls, .int .i64 r.o, .int .i64 r.size, .bool r.wide, .bool r.reg, .int .i64 r.dst, .int .i64 r.src, .int .i64 r.off, .int .i64 r.imm, .int .i64 r.at_] 56)) wr _ (readL p k) (k : Int) (by exact rfl) HW.out _ _ (by exact rfl) (by simp) (by exact rfl) (by omega) ?_; intro v3 w3 own3)
            have hfin := hid (show OwnI (w2.alloc (.cells #[.int .u8 r.op, .int .i64 r.cls, .int .i64 r.o, .int .i64 r.size, .bool r.wide, .bool r.reg, .int .i64 r.dst, .int .i64 r.src, .int .i64 r.off, .int .i64 r.imm, .int .i64 r.at_] 56)) w3 v3 (readL p (k + 1)) by rw [readL_yes hp.out]; exact own3)
            clear own3
            go_roundw
            case rel => first | exact ⟨k + 1, by omega, by go_num, hfin⟩ | ((repeat apply Exists.intro); exact ⟨⟨k + 1, by omega, by go_num, hfin⟩, rfl⟩)
            case measure => simp [intOf]; omega
      · have hp := hid (show p k = true by rw [HP.out, gd]; simp)
        go_wp2_with (at_builtin; refine append_int rfl (.tmp 73) (.tmp 75) rfl (w2.alloc (.cells #[.int .u8 r.op, .int .i64 r.cls, .int .i64 r.o, .int .i64 r.size, .bool r.wide, .bool r.reg, .int .i64 r.dst, .int .i64 r.src, .int .i64 r.off, .int .i64 r.imm, .int .i64 r.at_] 56)) wr _ (readL p k) (k : Int) (by exact rfl) HW.out _ _ (by exact rfl) (by simp) (by exact rfl) (by omega) ?_; intro v3 w3 own3)
        have hfin := hid (show OwnI (w2.alloc (.cells #[.int .u8 r.op, .int .i64 r.cls, .int .i64 r.o, .int .i64 r.size, .bool r.wide, .bool r.reg, .int .i64 r.dst, .int .i64 r.src, .int .i64 r.off, .int .i64 r.imm, .int .i64 r.at_] 56)) w3 v3 (readL p (k + 1)) by rw [readL_yes hp.out]; exact own3)
        clear own3
        go_roundw
        case rel => first | exact ⟨k + 1, by omega, by go_num, hfin⟩ | ((repeat apply Exists.intro); exact ⟨⟨k + 1, by omega, by go_num, hfin⟩, rfl⟩)
        case measure => simp [intOf]; omega
    · obtain rfl : k = 11 := by omega
      clear hlt hk a1 a2 a3 a4
      go_wp2
      go_ret
      exact ⟨_, rfl, HW.out.weak hX.out⟩

set_option maxRecDepth 100000 in
set_option maxHeartbeats 4000000 in
theorem rreads_b (T : Rw) (r : RR) (op dst src off imm : Int) (w : World) (d0 : 0 ≤ dst) (d1 : dst < 256) (s0 : 0 ≤ src) (s1 : src < 256)
    (HO : Hid (∀ W, Calls Tryd.prog 21 #[.agg #[.int .u8 op, .int .u8 dst, .int .u8 src, .int .i16 off, .int .i32 imm]] W fun e w' => e = .returned (.tuple #[whV T, .int .i64 0]) ∧ Below W.heap.size W w'))
    (HF : Hid (∀ W, Calls Tryd.prog 22 #[.agg #[.int .u8 op, .int .u8 dst, .int .u8 src, .int .i16 off, .int .i32 imm]] W fun e w' => e = .returned (.tuple #[rrV r, .bool true]) ∧ Below W.heap.size W w')) (f1 : (r.dst == 1) = false) (f2 : (T.cls == 1) = true) (f3 : (T.op != 11) = true) (p : Nat → Bool) (HP0 : Hid (∀ k : Nat, p k = (true && dst == (k : Int) || (r.src == 1) && src == (k : Int) || (T.cls == 9) && (k : Int) == 0))) :
    Calls Tryd.prog 7 #[.agg #[.int .u8 op, .int .u8 dst, .int .u8 src, .int .i16 off, .int .i32 imm]] w (Left2 w (readL p 11)) := by
  go_enter Tryd.func7, Tryd.ntmps7
  go_wp2_with fail
  refine (HO.out _).mono ?_
  rintro e w1 ⟨rfl, b1⟩
  have hb1 := hid (((Below.refl w.heap.size w).alloc (Nat.le_refl _) (.cells #[.int .u8 op, .int .u8 dst, .int .u8 src, .int .i16 off, .int .i32 imm] 24)).trans (b1.mono (by simp)))
  have q0 : w.heap.size < w1.heap.size := by have := b1.size; simp at this; omega
  obtain ⟨hc, hf⟩ := bcell b1
  clear b1
  simp only [whV]
  go_wp2_with fail
  refine (HF.out _).mono ?_
  rintro e w2 ⟨rfl, b2⟩
  have hb2 := hid ((hb1.out.alloc hb1.out.size (.cells #[.int .i64 T.cls, .int .i64 T.op, .int .i64 T.size, .bool T.wide, .bool T.reg] 52)).trans (b2.mono (by have := hb1.out.size; simp; omega)))
  have q1 : w1.heap.size < w2.heap.size := by have := b2.size; simp at this; omega
  have q2 : w.heap.size < w2.heap.size := by omega
  have a1 : w2.cell? ⟨w.heap.size, 1, none⟩ = some (.int .u8 dst) := by rw [b2.cell (p := ⟨w.heap.size, 1, none⟩) (by simp; omega)]; simp [go_sem, hc, q0]
  have a2 : w2.cell? ⟨w.heap.size, 2, none⟩ = some (.int .u8 src) := by rw [b2.cell (p := ⟨w.heap.size, 2, none⟩) (by simp; omega)]; simp [go_sem, hc, q0]
  have a3 : w2.cell? ⟨w1.heap.size, 0, none⟩ = some (.int .i64 T.cls) := by rw [b2.cell (p := ⟨w1.heap.size, 0, none⟩) (by simp)]; simp
  have a4 : w2.cell? ⟨w1.heap.size, 1, none⟩ = some (.int .i64 T.op) := by rw [b2.cell (p := ⟨w1.heap.size, 1, none⟩) (by simp)]; simp
  clear hc hf b2 HO HF
  have own0 := hid (OwnI.nil (w2.alloc (.cells #[.int .u8 r.op, .int .i64 r.cls, .int .i64 r.o, .int .i64 r.size, .bool r.wide, .bool r.reg, .int .i64 r.dst, .int .i64 r.src, .int .i64 r.off, .int .i64 r.imm, .int .i64 r.at_] 56)))
  have hX := hid (hb2.out.alloc hb2.out.size (.cells #[.int .u8 r.op, .int .i64 r.cls, .int .i64 r.o, .int .i64 r.size, .bool r.wide, .bool r.reg, .int .i64 r.dst, .int .i64 r.src, .int .i64 r.off, .int .i64 r.imm, .int .i64 r.at_] 56))
  simp only [rrV]
  go_wp2
  go_loopw [7, 8] (fun l n wr => ∃ k : Nat, k ≤ 11 ∧ n = .int .i64 k ∧ Hid (OwnI (w2.alloc (.cells #[.int .u8 r.op, .int .i64 r.cls, .int .i64 r.o, .int .i64 r.size, .bool r.wide, .bool r.reg, .int .i64 r.dst, .int .i64 r.src, .int .i64 r.off, .int .i64 r.imm, .int .i64 r.at_] 56)) wr l (readL p k))) (fun _ n _ => 11 - (intOf n).toNat)
  case atStart => exact ⟨0, by omega, rfl, own0⟩
  case round =>
    obtain ⟨k, hk, rfl, HW⟩ := hrel
    have z0 : w.heap.size < wr.heap.size := by have := HW.out.2.size; simp at this; omega
    by_cases hlt : k < 11
    · have c1 : wr.cell? ⟨w.heap.size, 1, none⟩ = some (.int .u8 dst) := (HW.out.2.cell (p := ⟨w.heap.size, 1, none⟩) (by simp; omega)).trans (by simp [go_sem, a1, q2])
      have c2 : wr.cell? ⟨w.heap.size, 2, none⟩ = some (.int .u8 src) := (HW.out.2.cell (p := ⟨w.heap.size, 2, none⟩) (by simp; omega)).trans (by simp [go_sem, a2, q2])
      have c3 : wr.cell? ⟨w1.heap.size, 0, none⟩ = some (.int .i64 T.cls) := (HW.out.2.cell (p := ⟨w1.heap.size, 0, none⟩) (by simp; omega)).trans (by simp [go_sem, a3, q1])
      have c4 : wr.cell? ⟨w1.heap.size, 1, none⟩ = some (.int .i64 T.op) := (HW.out.2.cell (p := ⟨w1.heap.size, 1, none⟩) (by simp; omega)).trans (by simp [go_sem, a4, q1])
      have c5 : wr.cell? ⟨w2.heap.size, 6, none⟩ = some (.int .i64 r.dst) := (HW.out.2.cell (p := ⟨w2.heap.size, 6, none⟩) (by simp)).trans (by simp)
      have c6 : wr.cell? ⟨w2.heap.size, 7, none⟩ = some (.int .i64 r.src) := (HW.out.2.cell (p := ⟨w2.heap.size, 7, none⟩) (by simp)).trans (by simp)
      have hle : decide ((k : Int) ≤ 10) = true := by simp; omega
      have hll := readL_len p k
      have HP := hid (HP0.out k)
      clear a1 a2 a3 a4
      cases gd : (dst == (k : Int))
      · cases gs : (r.src == 1)
        · cases gx : (T.cls == 9)
          · have hp := hid (show p k = false by rw [HP.out, gd, gs, gx]; simp)
            have hfin := hid (show OwnI (w2.alloc (.cells #[.int .u8 r.op, .int .i64 r.cls, .int .i64 r.o, .int .i64 r.size, .bool r.wide, .bool r.reg, .int .i64 r.dst, .int .i64 r.src, .int .i64 r.off, .int .i64 r.imm, .int .i64 r.at_] 56)) wr _ (readL p (k + 1)) by rw [readL_no hp.out]; exact HW.out)
            go_wp2
            go_roundw
            case rel => first | exact ⟨k + 1, by omega, by go_num, hfin⟩ | ((repeat apply Exists.intro); exact ⟨⟨k + 1, by omega, by go_num, hfin⟩, rfl⟩)
            case measure => simp [intOf]; omega
          · cases gk : ((k : Int) == 0)
            · have hp := hid (show p k = false by rw [HP.out, gd, gs, gx, gk]; simp)
              have hfin := hid (show OwnI (w2.alloc (.cells #[.int .u8 r.op, .int .i64 r.cls, .int .i64 r.o, .int .i64 r.size, .bool r.wide, .bool r.reg, .int .i64 r.dst, .int .i64 r.src, .int .i64 r.off, .int .i64 r.imm, .int .i64 r.at_] 56)) wr _ (readL p (k + 1)) by rw [readL_no hp.out]; exact HW.out)
              go_wp2
              go_roundw
              case rel => first | exact ⟨k + 1, by omega, by go_num, hfin⟩ | ((repeat apply Exists.intro); exact ⟨⟨k + 1, by omega, by go_num, hfin⟩, rfl⟩)
              case measure => simp [intOf]; omega
            · have hp := hid (show p k = true by rw [HP.out, gd, gs, gx, gk]; simp)
              go_wp2_with (at_builtin; refine append_int rfl (.tmp 73) (.tmp 75) rfl (w2.alloc (.cells #[.int .u8 r.op, .int .i64 r.cls, .int .i64 r.o, .int .i64 r.size, .bool r.wide, .bool r.reg, .int .i64 r.dst, .int .i64 r.src, .int .i64 r.off, .int .i64 r.imm, .int .i64 r.at_] 56)) wr _ (readL p k) (k : Int) (by exact rfl) HW.out _ _ (by exact rfl) (by simp) (by exact rfl) (by omega) ?_; intro v3 w3 own3)
              have hfin := hid (show OwnI (w2.alloc (.cells #[.int .u8 r.op, .int .i64 r.cls, .int .i64 r.o, .int .i64 r.size, .bool r.wide, .bool r.reg, .int .i64 r.dst, .int .i64 r.src, .int .i64 r.off, .int .i64 r.imm, .int .i64 r.at_] 56)) w3 v3 (readL p (k + 1)) by rw [readL_yes hp.out]; exact own3)
              clear own3
              go_roundw
              case rel => first | exact ⟨k + 1, by omega, by go_num, hfin⟩ | ((repeat apply Exists.intro); exact ⟨⟨k + 1, by omega, by go_num, hfin⟩, rfl⟩)
              case measure => simp [intOf]; omega
        · cases gq : (src == (k : Int))
          · cases gx : (T.cls == 9)
            · have hp := hid (show p k = false by rw [HP.out, gd, gs, gq, gx]; simp)
              have hfin := hid (show OwnI (w2.alloc (.cells #[.int .u8 r.op, .int .i64 r.cls, .int .i64 r.o, .int .i64 r.size, .bool r.wide, .bool r.reg, .int .i64 r.dst, .int .i64 r.src, .int .i64 r.off, .int .i64 r.imm, .int .i64 r.at_] 56)) wr _ (readL p (k + 1)) by rw [readL_no hp.out]; exact HW.out)
              go_wp2
              go_roundw
              case rel => first | exact ⟨k + 1, by omega, by go_num, hfin⟩ | ((repeat apply Exists.intro); exact ⟨⟨k + 1, by omega, by go_num, hfin⟩, rfl⟩)
              case measure => simp [intOf]; omega
            · cases gk : ((k : Int) == 0)
              · have hp := hid (show p k = false by rw [HP.out, gd, gs, gq, gx, gk]; simp)
                have hfin := hid (show OwnI (w2.alloc (.cells #[.int .u8 r.op, .int .i64 r.cls, .int .i64 r.o, .int .i64 r.size, .bool r.wide, .bool r.reg, .int .i64 r.dst, .int .i64 r.src, .int .i64 r.off, .int .i64 r.imm, .int .i64 r.at_] 56)) wr _ (readL p (k + 1)) by rw [readL_no hp.out]; exact HW.out)
                go_wp2
                go_roundw
                case rel => first | exact ⟨k + 1, by omega, by go_num, hfin⟩ | ((repeat apply Exists.intro); exact ⟨⟨k + 1, by omega, by go_num, hfin⟩, rfl⟩)
                case measure => simp [intOf]; omega
              · have hp := hid (show p k = true by rw [HP.out, gd, gs, gq, gx, gk]; simp)
                go_wp2_with (at_builtin; refine append_int rfl (.tmp 73) (.tmp 75) rfl (w2.alloc (.cells #[.int .u8 r.op, .int .i64 r.cls, .int .i64 r.o, .int .i64 r.size, .bool r.wide, .bool r.reg, .int .i64 r.dst, .int .i64 r.src, .int .i64 r.off, .int .i64 r.imm, .int .i64 r.at_] 56)) wr _ (readL p k) (k : Int) (by exact rfl) HW.out _ _ (by exact rfl) (by simp) (by exact rfl) (by omega) ?_; intro v3 w3 own3)
                have hfin := hid (show OwnI (w2.alloc (.cells #[.int .u8 r.op, .int .i64 r.cls, .int .i64 r.o, .int .i64 r.size, .bool r.wide, .bool r.reg, .int .i64 r.dst, .int .i64 r.src, .int .i64 r.off, .int .i64 r.imm, .int .i64 r.at_] 56)) w3 v3 (readL p (k + 1)) by rw [readL_yes hp.out]; exact own3)
                clear own3
                go_roundw
                case rel => first | exact ⟨k + 1, by omega, by go_num, hfin⟩ | ((repeat apply Exists.intro); exact ⟨⟨k + 1, by omega, by go_num, hfin⟩, rfl⟩)
                case measure => simp [intOf]; omega
          · have hp := hid (show p k = true by rw [HP.out, gd, gs, gq]; simp)
            go_wp2_with (at_builtin; refine append_int rfl (.tmp 73) (.tmp 75) rfl (w2.alloc (.cells #[.int .u8 r.op, .int .i64 r.cls, .int .i64 r.o, .int .i64 r.size, .bool r.wide, .bool r.reg, .int .i64 r.dst, .int .i64 r.src, .int .i64 r.off, .int .i64 r.imm, .int .i64 r.at_] 56)) wr _ (readL p k) (k : Int) (by exact rfl) HW.out _ _ (by exact rfl) (by simp) (by exact rfl) (by omega) ?_; intro v3 w3 own3)
            have hfin := hid (show OwnI (w2.alloc (.cells #[.int .u8 r.op, .int .i64 r.cls, .int .i64 r.o, .int .i64 r.size, .bool r.wide, .bool r.reg, .int .i64 r.dst, .int .i64 r.src, .int .i64 r.off, .int .i64 r.imm, .int .i64 r.at_] 56)) w3 v3 (readL p (k + 1)) by rw [readL_yes hp.out]; exact own3)
            clear own3
            go_roundw
            case rel => first | exact ⟨k + 1, by omega, by go_num, hfin⟩ | ((repeat apply Exists.intro); exact ⟨⟨k + 1, by omega, by go_num, hfin⟩, rfl⟩)
            case measure => simp [intOf]; omega
      · have hp := hid (show p k = true by rw [HP.out, gd]; simp)
        go_wp2_with (at_builtin; refine append_int rfl (.tmp 73) (.tmp 75) rfl (w2.alloc (.cells #[.int .u8 r.op, .int .i64 r.cls, .int .i64 r.o, .int .i64 r.size, .bool r.wide, .bool r.reg, .int .i64 r.dst, .int .i64 r.src, .int .i64 r.off, .int .i64 r.imm, .int .i64 r.at_] 56)) wr _ (readL p k) (k : Int) (by exact rfl) HW.out _ _ (by exact rfl) (by simp) (by exact rfl) (by omega) ?_; intro v3 w3 own3)
        have hfin := hid (show OwnI (w2.alloc (.cells #[.int .u8 r.op, .int .i64 r.cls, .int .i64 r.o, .int .i64 r.size, .bool r.wide, .bool r.reg, .int .i64 r.dst, .int .i64 r.src, .int .i64 r.off, .int .i64 r.imm, .int .i64 r.at_] 56)) w3 v3 (readL p (k + 1)) by rw [readL_yes hp.out]; exact own3)
        clear own3
        go_roundw
        case rel => first | exact ⟨k + 1, by omega, by go_num, hfin⟩ | ((repeat apply Exists.intro); exact ⟨⟨k + 1, by omega, by go_num, hfin⟩, rfl⟩)
        case measure => simp [intOf]; omega
    · obtain rfl : k = 11 := by omega
      clear hlt hk a1 a2 a3 a4
      go_wp2
      go_ret
      exact ⟨_, rfl, HW.out.weak hX.out⟩

set_option maxRecDepth 100000 in
set_option maxHeartbeats 4000000 in
theorem rreads_c (T : Rw) (r : RR) (op dst src off imm : Int) (w : World) (d0 : 0 ≤ dst) (d1 : dst < 256) (s0 : 0 ≤ src) (s1 : src < 256)
    (HO : Hid (∀ W, Calls Tryd.prog 21 #[.agg #[.int .u8 op, .int .u8 dst, .int .u8 src, .int .i16 off, .int .i32 imm]] W fun e w' => e = .returned (.tuple #[whV T, .int .i64 0]) ∧ Below W.heap.size W w'))
    (HF : Hid (∀ W, Calls Tryd.prog 22 #[.agg #[.int .u8 op, .int .u8 dst, .int .u8 src, .int .i16 off, .int .i32 imm]] W fun e w' => e = .returned (.tuple #[rrV r, .bool true]) ∧ Below W.heap.size W w')) (f1 : (r.dst == 1) = false) (f2 : (T.cls == 1) = true) (f3 : (T.op != 11) = false) (f4 : (T.cls == 2) = false) (p : Nat → Bool) (HP0 : Hid (∀ k : Nat, p k = (false && dst == (k : Int) || (r.src == 1) && src == (k : Int) || (T.cls == 9) && (k : Int) == 0))) :
    Calls Tryd.prog 7 #[.agg #[.int .u8 op, .int .u8 dst, .int .u8 src, .int .i16 off, .int .i32 imm]] w (Left2 w (readL p 11)) := by
  go_enter Tryd.func7, Tryd.ntmps7
  go_wp2_with fail
  refine (HO.out _).mono ?_
  rintro e w1 ⟨rfl, b1⟩
  have hb1 := hid (((Below.refl w.heap.size w).alloc (Nat.le_refl _) (.cells #[.int .u8 op, .int .u8 dst, .int .u8 src, .int .i16 off, .int .i32 imm] 24)).trans (b1.mono (by simp)))
  have q0 : w.heap.size < w1.heap.size := by have := b1.size; simp at this; omega
  obtain ⟨hc, hf⟩ := bcell b1
  clear b1
  simp only [whV]
  go_wp2_with fail
  refine (HF.out _).mono ?_
  rintro e w2 ⟨rfl, b2⟩
  have hb2 := hid ((hb1.out.alloc hb1.out.size (.cells #[.int .i64 T.cls, .int .i64 T.op, .int .i64 T.size, .bool T.wide, .bool T.reg] 52)).trans (b2.mono (by have := hb1.out.size; simp; omega)))
  have q1 : w1.heap.size < w2.heap.size := by have := b2.size; simp at this; omega
  have q2 : w.heap.size < w2.heap.size := by omega
  have a1 : w2.cell? ⟨w.heap.size, 1, none⟩ = some (.int .u8 dst) := by rw [b2.cell (p := ⟨w.heap.size, 1, none⟩) (by simp; omega)]; simp [go_sem, hc, q0]
  have a2 : w2.cell? ⟨w.heap.size, 2, none⟩ = some (.int .u8 src) := by rw [b2.cell (p := ⟨w.heap.size, 2, none⟩) (by simp; omega)]; simp [go_sem, hc, q0]
  have a3 : w2.cell? ⟨w1.heap.size, 0, none⟩ = some (.int .i64 T.cls) := by rw [b2.cell (p := ⟨w1.heap.size, 0, none⟩) (by simp)]; simp
  have a4 : w2.cell? ⟨w1.heap.size, 1, none⟩ = some (.int .i64 T.op) := by rw [b2.cell (p := ⟨w1.heap.size, 1, none⟩) (by simp)]; simp
  clear hc hf b2 HO HF
  have own0 := hid (OwnI.nil (w2.alloc (.cells #[.int .u8 r.op, .int .i64 r.cls, .int .i64 r.o, .int .i64 r.size, .bool r.wide, .bool r.reg, .int .i64 r.dst, .int .i64 r.src, .int .i64 r.off, .int .i64 r.imm, .int .i64 r.at_] 56)))
  have hX := hid (hb2.out.alloc hb2.out.size (.cells #[.int .u8 r.op, .int .i64 r.cls, .int .i64 r.o, .int .i64 r.size, .bool r.wide, .bool r.reg, .int .i64 r.dst, .int .i64 r.src, .int .i64 r.off, .int .i64 r.imm, .int .i64 r.at_] 56))
  simp only [rrV]
  go_wp2
  go_loopw [7, 8] (fun l n wr => ∃ k : Nat, k ≤ 11 ∧ n = .int .i64 k ∧ Hid (OwnI (w2.alloc (.cells #[.int .u8 r.op, .int .i64 r.cls, .int .i64 r.o, .int .i64 r.size, .bool r.wide, .bool r.reg, .int .i64 r.dst, .int .i64 r.src, .int .i64 r.off, .int .i64 r.imm, .int .i64 r.at_] 56)) wr l (readL p k))) (fun _ n _ => 11 - (intOf n).toNat)
  case atStart => exact ⟨0, by omega, rfl, own0⟩
  case round =>
    obtain ⟨k, hk, rfl, HW⟩ := hrel
    have z0 : w.heap.size < wr.heap.size := by have := HW.out.2.size; simp at this; omega
    by_cases hlt : k < 11
    · have c1 : wr.cell? ⟨w.heap.size, 1, none⟩ = some (.int .u8 dst) := (HW.out.2.cell (p := ⟨w.heap.size, 1, none⟩) (by simp; omega)).trans (by simp [go_sem, a1, q2])
      have c2 : wr.cell? ⟨w.heap.size, 2, none⟩ = some (.int .u8 src) := (HW.out.2.cell (p := ⟨w.heap.size, 2, none⟩) (by simp; omega)).trans (by simp [go_sem, a2, q2])
      have c3 : wr.cell? ⟨w1.heap.size, 0, none⟩ = some (.int .i64 T.cls) := (HW.out.2.cell (p := ⟨w1.heap.size, 0, none⟩) (by simp; omega)).trans (by simp [go_sem, a3, q1])
      have c4 : wr.cell? ⟨w1.heap.size, 1, none⟩ = some (.int .i64 T.op) := (HW.out.2.cell (p := ⟨w1.heap.size, 1, none⟩) (by simp; omega)).trans (by simp [go_sem, a4, q1])
      have c5 : wr.cell? ⟨w2.heap.size, 6, none⟩ = some (.int .i64 r.dst) := (HW.out.2.cell (p := ⟨w2.heap.size, 6, none⟩) (by simp)).trans (by simp)
      have c6 : wr.cell? ⟨w2.heap.size, 7, none⟩ = some (.int .i64 r.src) := (HW.out.2.cell (p := ⟨w2.heap.size, 7, none⟩) (by simp)).trans (by simp)
      have hle : decide ((k : Int) ≤ 10) = true := by simp; omega
      have hll := readL_len p k
      have HP := hid (HP0.out k)
      clear a1 a2 a3 a4
      cases gs : (r.src == 1)
      · cases gx : (T.cls == 9)
        · have hp := hid (show p k = false by rw [HP.out, gs, gx]; simp)
          have hfin := hid (show OwnI (w2.alloc (.cells #[.int .u8 r.op, .int .i64 r.cls, .int .i64 r.o, .int .i64 r.size, .bool r.wide, .bool r.reg, .int .i64 r.dst, .int .i64 r.src, .int .i64 r.off, .int .i64 r.imm, .int .i64 r.at_] 56)) wr _ (readL p (k + 1)) by rw [readL_no hp.out]; exact HW.out)
          go_wp2
          go_roundw
          case rel => first | exact ⟨k + 1, by omega, by go_num, hfin⟩ | ((repeat apply Exists.intro); exact ⟨⟨k + 1, by omega, by go_num, hfin⟩, rfl⟩)
          case measure => simp [intOf]; omega
        · cases gk : ((k : Int) == 0)
          · have hp := hid (show p k = false by rw [HP.out, gs, gx, gk]; simp)
            have hfin := hid (show OwnI (w2.alloc (.cells #[.int .u8 r.op, .int .i64 r.cls, .int .i64 r.o, .int .i64 r.size, .bool r.wide, .bool r.reg, .int .i64 r.dst, .int .i64 r.src, .int .i64 r.off, .int .i64 r.imm, .int .i64 r.at_] 56)) wr _ (readL p (k + 1)) by rw [readL_no hp.out]; exact HW.out)
            go_wp2
            go_roundw
            case rel => first | exact ⟨k + 1, by omega, by go_num, hfin⟩ | ((repeat apply Exists.intro); exact ⟨⟨k + 1, by omega, by go_num, hfin⟩, rfl⟩)
            case measure => simp [intOf]; omega
          · have hp := hid (show p k = true by rw [HP.out, gs, gx, gk]; simp)
            go_wp2_with (at_builtin; refine append_int rfl (.tmp 73) (.tmp 75) rfl (w2.alloc (.cells #[.int .u8 r.op, .int .i64 r.cls, .int .i64 r.o, .int .i64 r.size, .bool r.wide, .bool r.reg, .int .i64 r.dst, .int .i64 r.src, .int .i64 r.off, .int .i64 r.imm, .int .i64 r.at_] 56)) wr _ (readL p k) (k : Int) (by exact rfl) HW.out _ _ (by exact rfl) (by simp) (by exact rfl) (by omega) ?_; intro v3 w3 own3)
            have hfin := hid (show OwnI (w2.alloc (.cells #[.int .u8 r.op, .int .i64 r.cls, .int .i64 r.o, .int .i64 r.size, .bool r.wide, .bool r.reg, .int .i64 r.dst, .int .i64 r.src, .int .i64 r.off, .int .i64 r.imm, .int .i64 r.at_] 56)) w3 v3 (readL p (k + 1)) by rw [readL_yes hp.out]; exact own3)
            clear own3
            go_roundw
            case rel => first | exact ⟨k + 1, by omega, by go_num, hfin⟩ | ((repeat apply Exists.intro); exact ⟨⟨k + 1, by omega, by go_num, hfin⟩, rfl⟩)
            case measure => simp [intOf]; omega
      · cases gq : (src == (k : Int))
        · cases gx : (T.cls == 9)
          · have hp := hid (show p k = false by rw [HP.out, gs, gq, gx]; simp)
            have hfin := hid (show OwnI (w2.alloc (.cells #[.int .u8 r.op, .int .i64 r.cls, .int .i64 r.o, .int .i64 r.size, .bool r.wide, .bool r.reg, .int .i64 r.dst, .int .i64 r.src, .int .i64 r.off, .int .i64 r.imm, .int .i64 r.at_] 56)) wr _ (readL p (k + 1)) by rw [readL_no hp.out]; exact HW.out)
            go_wp2
            go_roundw
            case rel => first | exact ⟨k + 1, by omega, by go_num, hfin⟩ | ((repeat apply Exists.intro); exact ⟨⟨k + 1, by omega, by go_num, hfin⟩, rfl⟩)
            case measure => simp [intOf]; omega
          · cases gk : ((k : Int) == 0)
            · have hp := hid (show p k = false by rw [HP.out, gs, gq, gx, gk]; simp)
              have hfin := hid (show OwnI (w2.alloc (.cells #[.int .u8 r.op, .int .i64 r.cls, .int .i64 r.o, .int .i64 r.size, .bool r.wide, .bool r.reg, .int .i64 r.dst, .int .i64 r.src, .int .i64 r.off, .int .i64 r.imm, .int .i64 r.at_] 56)) wr _ (readL p (k + 1)) by rw [readL_no hp.out]; exact HW.out)
              go_wp2
              go_roundw
              case rel => first | exact ⟨k + 1, by omega, by go_num, hfin⟩ | ((repeat apply Exists.intro); exact ⟨⟨k + 1, by omega, by go_num, hfin⟩, rfl⟩)
              case measure => simp [intOf]; omega
            · have hp := hid (show p k = true by rw [HP.out, gs, gq, gx, gk]; simp)
              go_wp2_with (at_builtin; refine append_int rfl (.tmp 73) (.tmp 75) rfl (w2.alloc (.cells #[.int .u8 r.op, .int .i64 r.cls, .int .i64 r.o, .int .i64 r.size, .bool r.wide, .bool r.reg, .int .i64 r.dst, .int .i64 r.src, .int .i64 r.off, .int .i64 r.imm, .int .i64 r.at_] 56)) wr _ (readL p k) (k : Int) (by exact rfl) HW.out _ _ (by exact rfl) (by simp) (by exact rfl) (by omega) ?_; intro v3 w3 own3)
              have hfin := hid (show OwnI (w2.alloc (.cells #[.int .u8 r.op, .int .i64 r.cls, .int .i64 r.o, .int .i64 r.size, .bool r.wide, .bool r.reg, .int .i64 r.dst, .int .i64 r.src, .int .i64 r.off, .int .i64 r.imm, .int .i64 r.at_] 56)) w3 v3 (readL p (k + 1)) by rw [readL_yes hp.out]; exact own3)
              clear own3
              go_roundw
              case rel => first | exact ⟨k + 1, by omega, by go_num, hfin⟩ | ((repeat apply Exists.intro); exact ⟨⟨k + 1, by omega, by go_num, hfin⟩, rfl⟩)
              case measure => simp [intOf]; omega
        · have hp := hid (show p k = true by rw [HP.out, gs, gq]; simp)
          go_wp2_with (at_builtin; refine append_int rfl (.tmp 73) (.tmp 75) rfl (w2.alloc (.cells #[.int .u8 r.op, .int .i64 r.cls, .int .i64 r.o, .int .i64 r.size, .bool r.wide, .bool r.reg, .int .i64 r.dst, .int .i64 r.src, .int .i64 r.off, .int .i64 r.imm, .int .i64 r.at_] 56)) wr _ (readL p k) (k : Int) (by exact rfl) HW.out _ _ (by exact rfl) (by simp) (by exact rfl) (by omega) ?_; intro v3 w3 own3)
          have hfin := hid (show OwnI (w2.alloc (.cells #[.int .u8 r.op, .int .i64 r.cls, .int .i64 r.o, .int .i64 r.size, .bool r.wide, .bool r.reg, .int .i64 r.dst, .int .i64 r.src, .int .i64 r.off, .int .i64 r.imm, .int .i64 r.at_] 56)) w3 v3 (readL p (k + 1)) by rw [readL_yes hp.out]; exact own3)
          clear own3
          go_roundw
          case rel => first | exact ⟨k + 1, by omega, by go_num, hfin⟩ | ((repeat apply Exists.intro); exact ⟨⟨k + 1, by omega, by go_num, hfin⟩, rfl⟩)
          case measure => simp [intOf]; omega
    · obtain rfl : k = 11 := by omega
      clear hlt hk a1 a2 a3 a4
      go_wp2
      go_ret
      exact ⟨_, rfl, HW.out.weak hX.out⟩

set_option maxRecDepth 100000 in
set_option maxHeartbeats 4000000 in
theorem rreads_d (T : Rw) (r : RR) (op dst src off imm : Int) (w : World) (d0 : 0 ≤ dst) (d1 : dst < 256) (s0 : 0 ≤ src) (s1 : src < 256)
    (HO : Hid (∀ W, Calls Tryd.prog 21 #[.agg #[.int .u8 op, .int .u8 dst, .int .u8 src, .int .i16 off, .int .i32 imm]] W fun e w' => e = .returned (.tuple #[whV T, .int .i64 0]) ∧ Below W.heap.size W w'))
    (HF : Hid (∀ W, Calls Tryd.prog 22 #[.agg #[.int .u8 op, .int .u8 dst, .int .u8 src, .int .i16 off, .int .i32 imm]] W fun e w' => e = .returned (.tuple #[rrV r, .bool true]) ∧ Below W.heap.size W w')) (f1 : (r.dst == 1) = false) (f2 : (T.cls == 1) = false) (f4 : (T.cls == 2) = true) (p : Nat → Bool) (HP0 : Hid (∀ k : Nat, p k = (true && dst == (k : Int) || (r.src == 1) && src == (k : Int) || (T.cls == 9) && (k : Int) == 0))) :
    Calls Tryd.prog 7 #[.agg #[.int .u8 op, .int .u8 dst, .int .u8 src, .int .i16 off, .int .i32 imm]] w (Left2 w (readL p 11)) := by
  go_enter Tryd.func7, Tryd.ntmps7
  go_wp2_with fail
  refine (HO.out _).mono ?_
  rintro e w1 ⟨rfl, b1⟩
  have hb1 := hid (((Below.refl w.heap.size w).alloc (Nat.le_refl _) (.cells #[.int .u8 op, .int .u8 dst, .int .u8 src, .int .i16 off, .int .i32 imm] 24)).trans (b1.mono (by simp)))
  have q0 : w.heap.size < w1.heap.size := by have := b1.size; simp at this; omega
  obtain ⟨hc, hf⟩ := bcell b1
  clear b1
  simp only [whV]
  go_wp2_with fail
  refine (HF.out _).mono ?_
  rintro e w2 ⟨rfl, b2⟩
  have hb2 := hid ((hb1.out.alloc hb1.out.size (.cells #[.int .i64 T.cls, .int .i64 T.op, .int .i64 T.size, .bool T.wide, .bool T.reg] 52)).trans (b2.mono (by have := hb1.out.size; simp; omega)))
  have q1 : w1.heap.size < w2.heap.size := by have := b2.size; simp at this; omega
  have q2 : w.heap.size < w2.heap.size := by omega
  have a1 : w2.cell? ⟨w.heap.size, 1, none⟩ = some (.int .u8 dst) := by rw [b2.cell (p := ⟨w.heap.size, 1, none⟩) (by simp; omega)]; simp [go_sem, hc, q0]
  have a2 : w2.cell? ⟨w.heap.size, 2, none⟩ = some (.int .u8 src) := by rw [b2.cell (p := ⟨w.heap.size, 2, none⟩) (by simp; omega)]; simp [go_sem, hc, q0]
  have a3 : w2.cell? ⟨w1.heap.size, 0, none⟩ = some (.int .i64 T.cls) := by rw [b2.cell (p := ⟨w1.heap.size, 0, none⟩) (by simp)]; simp
  have a4 : w2.cell? ⟨w1.heap.size, 1, none⟩ = some (.int .i64 T.op) := by rw [b2.cell (p := ⟨w1.heap.size, 1, none⟩) (by simp)]; simp
  clear hc hf b2 HO HF
  have own0 := hid (OwnI.nil (w2.alloc (.cells #[.int .u8 r.op, .int .i64 r.cls, .int .i64 r.o, .int .i64 r.size, .bool r.wide, .bool r.reg, .int .i64 r.dst, .int .i64 r.src, .int .i64 r.off, .int .i64 r.imm, .int .i64 r.at_] 56)))
  have hX := hid (hb2.out.alloc hb2.out.size (.cells #[.int .u8 r.op, .int .i64 r.cls, .int .i64 r.o, .int .i64 r.size, .bool r.wide, .bool r.reg, .int .i64 r.dst, .int .i64 r.src, .int .i64 r.off, .int .i64 r.imm, .int .i64 r.at_] 56))
  simp only [rrV]
  go_wp2
  go_loopw [7, 8] (fun l n wr => ∃ k : Nat, k ≤ 11 ∧ n = .int .i64 k ∧ Hid (OwnI (w2.alloc (.cells #[.int .u8 r.op, .int .i64 r.cls, .int .i64 r.o, .int .i64 r.size, .bool r.wide, .bool r.reg, .int .i64 r.dst, .int .i64 r.src, .int .i64 r.off, .int .i64 r.imm, .int .i64 r.at_] 56)) wr l (readL p k))) (fun _ n _ => 11 - (intOf n).toNat)
  case atStart => exact ⟨0, by omega, rfl, own0⟩
  case round =>
    obtain ⟨k, hk, rfl, HW⟩ := hrel
    have z0 : w.heap.size < wr.heap.size := by have := HW.out.2.size; simp at this; omega
    by_cases hlt : k < 11
    · have c1 : wr.cell? ⟨w.heap.size, 1, none⟩ = some (.int .u8 dst) := (HW.out.2.cell (p := ⟨w.heap.size, 1, none⟩) (by simp; omega)).trans (by simp [go_sem, a1, q2])
      have c2 : wr.cell? ⟨w.heap.size, 2, none⟩ = some (.int .u8 src) := (HW.out.2.cell (p := ⟨w.heap.size, 2, none⟩) (by simp; omega)).trans (by simp [go_sem, a2, q2])
      have c3 : wr.cell? ⟨w1.heap.size, 0, none⟩ = some (.int .i64 T.cls) := (HW.out.2.cell (p := ⟨w1.heap.size, 0, none⟩) (by simp; omega)).trans (by simp [go_sem, a3, q1])
      have c4 : wr.cell? ⟨w1.heap.size, 1, none⟩ = some (.int .i64 T.op) := (HW.out.2.cell (p := ⟨w1.heap.size, 1, none⟩) (by simp; omega)).trans (by simp [go_sem, a4, q1])
      have c5 : wr.cell? ⟨w2.heap.size, 6, none⟩ = some (.int .i64 r.dst) := (HW.out.2.cell (p := ⟨w2.heap.size, 6, none⟩) (by simp)).trans (by simp)
      have c6 : wr.cell? ⟨w2.heap.size, 7, none⟩ = some (.int .i64 r.src) := (HW.out.2.cell (p := ⟨w2.heap.size, 7, none⟩) (by simp)).trans (by simp)
      have hle : decide ((k : Int) ≤ 10) = true := by simp; omega
      have hll := readL_len p k
      have HP := hid (HP0.out k)
      clear a1 a2 a3 a4
      cases gd : (dst == (k : Int))
      · cases gs : (r.src == 1)
        · cases gx : (T.cls == 9)
          · have hp := hid (show p k = false by rw [HP.out, gd, gs, gx]; simp)
            have hfin := hid (show OwnI (w2.alloc (.cells #[.int .u8 r.op, .int .i64 r.cls, .int .i64 r.o, .int .i64 r.size, .bool r.wide, .bool r.reg, .int .i64 r.dst, .int .i64 r.src, .int .i64 r.off, .int .i64 r.imm, .int .i64 r.at_] 56)) wr _ (readL p (k + 1)) by rw [readL_no hp.out]; exact HW.out)
            go_wp2
            go_roundw
            case rel => first | exact ⟨k + 1, by omega, by go_num, hfin⟩ | ((repeat apply Exists.intro); exact ⟨⟨k + 1, by omega, by go_num, hfin⟩, rfl⟩)
            case measure => simp [intOf]; omega
          · cases gk : ((k : Int) == 0)
            · have hp := hid (show p k = false by rw [HP.out, gd, gs, gx, gk]; simp)
              have hfin := hid (show OwnI (w2.alloc (.cells #[.int .u8 r.op, .int .i64 r.cls, .int .i64 r.o, .int .i64 r.size, .bool r.wide, .bool r.reg, .int .i64 r.dst, .int .i64 r.src, .int .i64 r.off, .int .i64 r.imm, .int .i64 r.at_] 56)) wr _ (readL p (k + 1)) by rw [readL_no hp.out]; exact HW.out)
              go_wp2
              go_roundw
              case rel => first | exact ⟨k + 1, by omega, by go_num, hfin⟩ | ((repeat apply Exists.intro); exact ⟨⟨k + 1, by omega, by go_num, hfin⟩, rfl⟩)
              case measure => simp [intOf]; omega
            · have hp := hid (show p k = true by rw [HP.out, gd, gs, gx, gk]; simp)
              go_wp2_with (at_builtin; refine append_int rfl (.tmp 73) (.tmp 75) rfl (w2.alloc (.cells #[.int .u8 r.op, .int .i64 r.cls, .int .i64 r.o, .int .i64 r.size, .bool r.wide, .bool r.reg, .int .i64 r.dst, .int .i64 r.src, .int .i64 r.off, .int .i64 r.imm, .int .i64 r.at_] 56)) wr _ (readL p k) (k : Int) (by exact rfl) HW.out _ _ (by exact rfl) (by simp) (by exact rfl) (by omega) ?_; intro v3 w3 own3)
              have hfin := hid (show OwnI (w2.alloc (.cells #[.int .u8 r.op, .int .i64 r.cls, .int .i64 r.o, .int .i64 r.size, .bool r.wide, .bool r.reg, .int .i64 r.dst, .int .i64 r.src, .int .i64 r.off, .int .i64 r.imm, .int .i64 r.at_] 56)) w3 v3 (readL p (k + 1)) by rw [readL_yes hp.out]; exact own3)
              clear own3
              go_roundw
              case rel => first | exact ⟨k + 1, by omega, by go_num, hfin⟩ | ((repeat apply Exists.intro); exact ⟨⟨k + 1, by omega, by go_num, hfin⟩, rfl⟩)
              case measure => simp [intOf]; omega
        · cases gq : (src == (k : Int))
          · cases gx : (T.cls == 9)
            · have hp := hid (show p k = false by rw [HP.out, gd, gs, gq, gx]; simp)
              have hfin := hid (show OwnI (w2.alloc (.cells #[.int .u8 r.op, .int .i64 r.cls, .int .i64 r.o, .int .i64 r.size, .bool r.wide, .bool r.reg, .int .i64 r.dst, .int .i64 r.src, .int .i64 r.off, .int .i64 r.imm, .int .i64 r.at_] 56)) wr _ (readL p (k + 1)) by rw [readL_no hp.out]; exact HW.out)
              go_wp2
              go_roundw
              case rel => first | exact ⟨k + 1, by omega, by go_num, hfin⟩ | ((repeat apply Exists.intro); exact ⟨⟨k + 1, by omega, by go_num, hfin⟩, rfl⟩)
              case measure => simp [intOf]; omega
            · cases gk : ((k : Int) == 0)
              · have hp := hid (show p k = false by rw [HP.out, gd, gs, gq, gx, gk]; simp)
                have hfin := hid (show OwnI (w2.alloc (.cells #[.int .u8 r.op, .int .i64 r.cls, .int .i64 r.o, .int .i64 r.size, .bool r.wide, .bool r.reg, .int .i64 r.dst, .int .i64 r.src, .int .i64 r.off, .int .i64 r.imm, .int .i64 r.at_] 56)) wr _ (readL p (k + 1)) by rw [readL_no hp.out]; exact HW.out)
                go_wp2
                go_roundw
                case rel => first | exact ⟨k + 1, by omega, by go_num, hfin⟩ | ((repeat apply Exists.intro); exact ⟨⟨k + 1, by omega, by go_num, hfin⟩, rfl⟩)
                case measure => simp [intOf]; omega
              · have hp := hid (show p k = true by rw [HP.out, gd, gs, gq, gx, gk]; simp)
                go_wp2_with (at_builtin; refine append_int rfl (.tmp 73) (.tmp 75) rfl (w2.alloc (.cells #[.int .u8 r.op, .int .i64 r.cls, .int .i64 r.o, .int .i64 r.size, .bool r.wide, .bool r.reg, .int .i64 r.dst, .int .i64 r.src, .int .i64 r.off, .int .i64 r.imm, .int .i64 r.at_] 56)) wr _ (readL p k) (k : Int) (by exact rfl) HW.out _ _ (by exact rfl) (by simp) (by exact rfl) (by omega) ?_; intro v3 w3 own3)
                have hfin := hid (show OwnI (w2.alloc (.cells #[.int .u8 r.op, .int .i64 r.cls, .int .i64 r.o, .int .i64 r.size, .bool r.wide, .bool r.reg, .int .i64 r.dst, .int .i64 r.src, .int .i64 r.off, .int .i64 r.imm, .int .i64 r.at_] 56)) w3 v3 (readL p (k + 1)) by rw [readL_yes hp.out]; exact own3)
                clear own3
                go_roundw
                case rel => first | exact ⟨k + 1, by omega, by go_num, hfin⟩ | ((repeat apply Exists.intro); exact ⟨⟨k + 1, by omega, by go_num, hfin⟩, rfl⟩)
                case measure => simp [intOf]; omega
          · have hp := hid (show p k = true by rw [HP.out, gd, gs, gq]; simp)
            go_wp2_with (at_builtin; refine append_int rfl (.tmp 73) (.tmp 75) rfl (w2.alloc (.cells #[.int .u8 r.op, .int .i64 r.cls, .int .i64 r.o, .int .i64 r.size, .bool r.wide, .bool r.reg, .int .i64 r.dst, .int .i64 r.src, .int .i64 r.off, .int .i64 r.imm, .int .i64 r.at_] 56)) wr _ (readL p k) (k : Int) (by exact rfl) HW.out _ _ (by exact rfl) (by simp) (by exact rfl) (by omega) ?_; intro v3 w3 own3)
            have hfin := hid (show OwnI (w2.alloc (.cells #[.int .u8 r.op, .int .i64 r.cls, .int .i64 r.o, .int .i64 r.size, .bool r.wide, .bool r.reg, .int .i64 r.dst, .int .i64 r.src, .int .i64 r.off, .int .i64 r.imm, .int .i64 r.at_] 56)) w3 v3 (readL p (k + 1)) by rw [readL_yes hp.out]; exact own3)
            clear own3
            go_roundw
            case rel => first | exact ⟨k + 1, by omega, by go_num, hfin⟩ | ((repeat apply Exists.intro); exact ⟨⟨k + 1, by omega, by go_num, hfin⟩, rfl⟩)
            case measure => simp [intOf]; omega
      · have hp := hid (show p k = true by rw [HP.out, gd]; simp)
        go_wp2_with (at_builtin; refine append_int rfl (.tmp 73) (.tmp 75) rfl (w2.alloc (.cells #[.int .u8 r.op, .int .i64 r.cls, .int .i64 r.o, .int .i64 r.size, .bool r.wide, .bool r.reg, .int .i64 r.dst, .int .i64 r.src, .int .i64 r.off, .int .i64 r.imm, .int .i64 r.at_] 56)) wr _ (readL p k) (k : Int) (by exact rfl) HW.out _ _ (by exact rfl) (by simp) (by exact rfl) (by omega) ?_; intro v3 w3 own3)
        have hfin := hid (show OwnI (w2.alloc (.cells #[.int .u8 r.op, .int .i64 r.cls, .int .i64 r.o, .int .i64 r.size, .bool r.wide, .bool r.reg, .int .i64 r.dst, .int .i64 r.src, .int .i64 r.off, .int .i64 r.imm, .int .i64 r.at_] 56)) w3 v3 (readL p (k + 1)) by rw [readL_yes hp.out]; exact own3)
        clear own3
        go_roundw
        case rel => first | exact ⟨k + 1, by omega, by go_num, hfin⟩ | ((repeat apply Exists.intro); exact ⟨⟨k + 1, by omega, by go_num, hfin⟩, rfl⟩)
        case measure => simp [intOf]; omega
    · obtain rfl : k = 11 := by omega
      clear hlt hk a1 a2 a3 a4
      go_wp2
      go_ret
      exact ⟨_, rfl, HW.out.weak hX.out⟩

set_option maxRecDepth 100000 in
set_option maxHeartbeats 4000000 in
theorem rreads_e (T : Rw) (r : RR) (op dst src off imm : Int) (w : World) (d0 : 0 ≤ dst) (d1 : dst < 256) (s0 : 0 ≤ src) (s1 : src < 256)
    (HO : Hid (∀ W, Calls Tryd.prog 21 #[.agg #[.int .u8 op, .int .u8 dst, .int .u8 src, .int .i16 off, .int .i32 imm]] W fun e w' => e = .returned (.tuple #[whV T, .int .i64 0]) ∧ Below W.heap.size W w'))
    (HF : Hid (∀ W, Calls Tryd.prog 22 #[.agg #[.int .u8 op, .int .u8 dst, .int .u8 src, .int .i16 off, .int .i32 imm]] W fun e w' => e = .returned (.tuple #[rrV r, .bool true]) ∧ Below W.heap.size W w')) (f1 : (r.dst == 1) = false) (f2 : (T.cls == 1) = false) (f4 : (T.cls == 2) = false) (p : Nat → Bool) (HP0 : Hid (∀ k : Nat, p k = (false && dst == (k : Int) || (r.src == 1) && src == (k : Int) || (T.cls == 9) && (k : Int) == 0))) :
    Calls Tryd.prog 7 #[.agg #[.int .u8 op, .int .u8 dst, .int .u8 src, .int .i16 off, .int .i32 imm]] w (Left2 w (readL p 11)) := by
  go_enter Tryd.func7, Tryd.ntmps7
  go_wp2_with fail
  refine (HO.out _).mono ?_
  rintro e w1 ⟨rfl, b1⟩
  have hb1 := hid (((Below.refl w.heap.size w).alloc (Nat.le_refl _) (.cells #[.int .u8 op, .int .u8 dst, .int .u8 src, .int .i16 off, .int .i32 imm] 24)).trans (b1.mono (by simp)))
  have q0 : w.heap.size < w1.heap.size := by have := b1.size; simp at this; omega
  obtain ⟨hc, hf⟩ := bcell b1
  clear b1
  simp only [whV]
  go_wp2_with fail
  refine (HF.out _).mono ?_
  rintro e w2 ⟨rfl, b2⟩
  have hb2 := hid ((hb1.out.alloc hb1.out.size (.cells #[.int .i64 T.cls, .int .i64 T.op, .int .i64 T.size, .bool T.wide, .bool T.reg] 52)).trans (b2.mono (by have := hb1.out.size; simp; omega)))
  have q1 : w1.heap.size < w2.heap.size := by have := b2.size; simp at this; omega
  have q2 : w.heap.size < w2.heap.size := by omega
  have a1 : w2.cell? ⟨w.heap.size, 1, none⟩ = some (.int .u8 dst) := by rw [b2.cell (p := ⟨w.heap.size, 1, none⟩) (by simp; omega)]; simp [go_sem, hc, q0]
  have a2 : w2.cell? ⟨w.heap.size, 2, none⟩ = some (.int .u8 src) := by rw [b2.cell (p := ⟨w.heap.size, 2, none⟩) (by simp; omega)]; simp [go_sem, hc, q0]
  have a3 : w2.cell? ⟨w1.heap.size, 0, none⟩ = some (.int .i64 T.cls) := by rw [b2.cell (p := ⟨w1.heap.size, 0, none⟩) (by simp)]; simp
  have a4 : w2.cell? ⟨w1.heap.size, 1, none⟩ = some (.int .i64 T.op) := by rw [b2.cell (p := ⟨w1.heap.size, 1, none⟩) (by simp)]; simp
  clear hc hf b2 HO HF
  have own0 := hid (OwnI.nil (w2.alloc (.cells #[.int .u8 r.op, .int .i64 r.cls, .int .i64 r.o, .int .i64 r.size, .bool r.wide, .bool r.reg, .int .i64 r.dst, .int .i64 r.src, .int .i64 r.off, .int .i64 r.imm, .int .i64 r.at_] 56)))
  have hX := hid (hb2.out.alloc hb2.out.size (.cells #[.int .u8 r.op, .int .i64 r.cls, .int .i64 r.o, .int .i64 r.size, .bool r.wide, .bool r.reg, .int .i64 r.dst, .int .i64 r.src, .int .i64 r.off, .int .i64 r.imm, .int .i64 r.at_] 56))
  simp only [rrV]
  go_wp2
  go_loopw [7, 8] (fun l n wr => ∃ k : Nat, k ≤ 11 ∧ n = .int .i64 k ∧ Hid (OwnI (w2.alloc (.cells #[.int .u8 r.op, .int .i64 r.cls, .int .i64 r.o, .int .i64 r.size, .bool r.wide, .bool r.reg, .int .i64 r.dst, .int .i64 r.src, .int .i64 r.off, .int .i64 r.imm, .int .i64 r.at_] 56)) wr l (readL p k))) (fun _ n _ => 11 - (intOf n).toNat)
  case atStart => exact ⟨0, by omega, rfl, own0⟩
  case round =>
    obtain ⟨k, hk, rfl, HW⟩ := hrel
    have z0 : w.heap.size < wr.heap.size := by have := HW.out.2.size; simp at this; omega
    by_cases hlt : k < 11
    · have c1 : wr.cell? ⟨w.heap.size, 1, none⟩ = some (.int .u8 dst) := (HW.out.2.cell (p := ⟨w.heap.size, 1, none⟩) (by simp; omega)).trans (by simp [go_sem, a1, q2])
      have c2 : wr.cell? ⟨w.heap.size, 2, none⟩ = some (.int .u8 src) := (HW.out.2.cell (p := ⟨w.heap.size, 2, none⟩) (by simp; omega)).trans (by simp [go_sem, a2, q2])
      have c3 : wr.cell? ⟨w1.heap.size, 0, none⟩ = some (.int .i64 T.cls) := (HW.out.2.cell (p := ⟨w1.heap.size, 0, none⟩) (by simp; omega)).trans (by simp [go_sem, a3, q1])
      have c4 : wr.cell? ⟨w1.heap.size, 1, none⟩ = some (.int .i64 T.op) := (HW.out.2.cell (p := ⟨w1.heap.size, 1, none⟩) (by simp; omega)).trans (by simp [go_sem, a4, q1])
      have c5 : wr.cell? ⟨w2.heap.size, 6, none⟩ = some (.int .i64 r.dst) := (HW.out.2.cell (p := ⟨w2.heap.size, 6, none⟩) (by simp)).trans (by simp)
      have c6 : wr.cell? ⟨w2.heap.size, 7, none⟩ = some (.int .i64 r.src) := (HW.out.2.cell (p := ⟨w2.heap.size, 7, none⟩) (by simp)).trans (by simp)
      have hle : decide ((k : Int) ≤ 10) = true := by simp; omega
      have hll := readL_len p k
      have HP := hid (HP0.out k)
      clear a1 a2 a3 a4
      cases gs : (r.src == 1)
      · cases gx : (T.cls == 9)
        · have hp := hid (show p k = false by rw [HP.out, gs, gx]; simp)
          have hfin := hid (show OwnI (w2.alloc (.cells #[.int .u8 r.op, .int .i64 r.cls, .int .i64 r.o, .int .i64 r.size, .bool r.wide, .bool r.reg, .int .i64 r.dst, .int .i64 r.src, .int .i64 r.off, .int .i64 r.imm, .int .i64 r.at_] 56)) wr _ (readL p (k + 1)) by rw [readL_no hp.out]; exact HW.out)
          go_wp2
          go_roundw
          case rel => first | exact ⟨k + 1, by omega, by go_num, hfin⟩ | ((repeat apply Exists.intro); exact ⟨⟨k + 1, by omega, by go_num, hfin⟩, rfl⟩)
          case measure => simp [intOf]; omega
        · cases gk : ((k : Int) == 0)
          · have hp := hid (show p k = false by rw [HP.out, gs, gx, gk]; simp)
            have hfin := hid (show OwnI (w2.alloc (.cells #[.int .u8 r.op, .int .i64 r.cls, .int .i64 r.o, .int .i64 r.size, .bool r.wide, .bool r.reg, .int .i64 r.dst, .int .i64 r.src, .int .i64 r.off, .int .i64 r.imm, .int .i64 r.at_] 56)) wr _ (readL p (k + 1)) by rw [readL_no hp.out]; exact HW.out)
            go_wp2
            go_roundw
            case rel => first | exact ⟨k + 1, by omega, by go_num, hfin⟩ | ((repeat apply Exists.intro); exact ⟨⟨k + 1, by omega, by go_num, hfin⟩, rfl⟩)
            case measure => simp [intOf]; omega
          · have hp := hid (show p k = true by rw [HP.out, gs, gx, gk]; simp)
            go_wp2_with (at_builtin; refine append_int rfl (.tmp 73) (.tmp 75) rfl (w2.alloc (.cells #[.int .u8 r.op, .int .i64 r.cls, .int .i64 r.o, .int .i64 r.size, .bool r.wide, .bool r.reg, .int .i64 r.dst, .int .i64 r.src, .int .i64 r.off, .int .i64 r.imm, .int .i64 r.at_] 56)) wr _ (readL p k) (k : Int) (by exact rfl) HW.out _ _ (by exact rfl) (by simp) (by exact rfl) (by omega) ?_; intro v3 w3 own3)
            have hfin := hid (show OwnI (w2.alloc (.cells #[.int .u8 r.op, .int .i64 r.cls, .int .i64 r.o, .int .i64 r.size, .bool r.wide, .bool r.reg, .int .i64 r.dst, .int .i64 r.src, .int .i64 r.off, .int .i64 r.imm, .int .i64 r.at_] 56)) w3 v3 (readL p (k + 1)) by rw [readL_yes hp.out]; exact own3)
            clear own3
            go_roundw
            case rel => first | exact ⟨k + 1, by omega, by go_num, hfin⟩ | ((repeat apply Exists.intro); exact ⟨⟨k + 1, by omega, by go_num, hfin⟩, rfl⟩)
            case measure => simp [intOf]; omega
      · cases gq : (src == (k : Int))
        · cases gx : (T.cls == 9)
          · have hp := hid (show p k = false by rw [HP.out, gs, gq, gx]; simp)
            have hfin := hid (show OwnI (w2.alloc (.cells #[.int .u8 r.op, .int .i64 r.cls, .int .i64 r.o, .int .i64 r.size, .bool r.wide, .bool r.reg, .int .i64 r.dst, .int .i64 r.src, .int .i64 r.off, .int .i64 r.imm, .int .i64 r.at_] 56)) wr _ (readL p (k + 1)) by rw [readL_no hp.out]; exact HW.out)
            go_wp2
            go_roundw
            case rel => first | exact ⟨k + 1, by omega, by go_num, hfin⟩ | ((repeat apply Exists.intro); exact ⟨⟨k + 1, by omega, by go_num, hfin⟩, rfl⟩)
            case measure => simp [intOf]; omega
          · cases gk : ((k : Int) == 0)
            · have hp := hid (show p k = false by rw [HP.out, gs, gq, gx, gk]; simp)
              have hfin := hid (show OwnI (w2.alloc (.cells #[.int .u8 r.op, .int .i64 r.cls, .int .i64 r.o, .int .i64 r.size, .bool r.wide, .bool r.reg, .int .i64 r.dst, .int .i64 r.src, .int .i64 r.off, .int .i64 r.imm, .int .i64 r.at_] 56)) wr _ (readL p (k + 1)) by rw [readL_no hp.out]; exact HW.out)
              go_wp2
              go_roundw
              case rel => first | exact ⟨k + 1, by omega, by go_num, hfin⟩ | ((repeat apply Exists.intro); exact ⟨⟨k + 1, by omega, by go_num, hfin⟩, rfl⟩)
              case measure => simp [intOf]; omega
            · have hp := hid (show p k = true by rw [HP.out, gs, gq, gx, gk]; simp)
              go_wp2_with (at_builtin; refine append_int rfl (.tmp 73) (.tmp 75) rfl (w2.alloc (.cells #[.int .u8 r.op, .int .i64 r.cls, .int .i64 r.o, .int .i64 r.size, .bool r.wide, .bool r.reg, .int .i64 r.dst, .int .i64 r.src, .int .i64 r.off, .int .i64 r.imm, .int .i64 r.at_] 56)) wr _ (readL p k) (k : Int) (by exact rfl) HW.out _ _ (by exact rfl) (by simp) (by exact rfl) (by omega) ?_; intro v3 w3 own3)
              have hfin := hid (show OwnI (w2.alloc (.cells #[.int .u8 r.op, .int .i64 r.cls, .int .i64 r.o, .int .i64 r.size, .bool r.wide, .bool r.reg, .int .i64 r.dst, .int .i64 r.src, .int .i64 r.off, .int .i64 r.imm, .int .i64 r.at_] 56)) w3 v3 (readL p (k + 1)) by rw [readL_yes hp.out]; exact own3)
              clear own3
              go_roundw
              case rel => first | exact ⟨k + 1, by omega, by go_num, hfin⟩ | ((repeat apply Exists.intro); exact ⟨⟨k + 1, by omega, by go_num, hfin⟩, rfl⟩)
              case measure => simp [intOf]; omega
        · have hp := hid (show p k = true by rw [HP.out, gs, gq]; simp)
          go_wp2_with (at_builtin; refine append_int rfl (.tmp 73) (.tmp 75) rfl (w2.alloc (.cells #[.int .u8 r.op, .int .i64 r.cls, .int .i64 r.o, .int .i64 r.size, .bool r.wide, .bool r.reg, .int .i64 r.dst, .int .i64 r.src, .int .i64 r.off, .int .i64 r.imm, .int .i64 r.at_] 56)) wr _ (readL p k) (k : Int) (by exact rfl) HW.out _ _ (by exact rfl) (by simp) (by exact rfl) (by omega) ?_; intro v3 w3 own3)
          have hfin := hid (show OwnI (w2.alloc (.cells #[.int .u8 r.op, .int .i64 r.cls, .int .i64 r.o, .int .i64 r.size, .bool r.wide, .bool r.reg, .int .i64 r.dst, .int .i64 r.src, .int .i64 r.off, .int .i64 r.imm, .int .i64 r.at_] 56)) w3 v3 (readL p (k + 1)) by rw [readL_yes hp.out]; exact own3)
          clear own3
          go_roundw
          case rel => first | exact ⟨k + 1, by omega, by go_num, hfin⟩ | ((repeat apply Exists.intro); exact ⟨⟨k + 1, by omega, by go_num, hfin⟩, rfl⟩)
          case measure => simp [intOf]; omega
    · obtain rfl : k = 11 := by omega
      clear hlt hk a1 a2 a3 a4
      go_wp2
      go_ret
      exact ⟨_, rfl, HW.out.weak hX.out⟩

end Go.Proofs.YtkapbeipjjcalaaDoor
