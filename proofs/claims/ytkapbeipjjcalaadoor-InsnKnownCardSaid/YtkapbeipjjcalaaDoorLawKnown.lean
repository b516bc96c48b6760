/-
  The walk of law InsnKnown (a closed statement): which of the 256 bytes are an instruction's, the chapter's rows, Make, Decode, Encode, Reads, Writes and Places at single inputs. The table of sizes is as start-up lays it (the card ties it); no other condition.
-/
import Derived.Test.YtkapbeipjjcalaaDoorUseK
import Derived.Test.YtkapbeipjjcalaaDoorInsnUc
namespace Go.Proofs.YtkapbeipjjcalaaDoor
set_option linter.unusedSimpArgs false
set_option linter.unusedVariables false
open Go.ChangeShapes Go.WideShapes Go.ChangeAt Go.RowKit Go.Joins Go.Deep

def kImm (k : Int) : Int := if k = 215 then 64 else 0
def ek (k : Int) : Int := tkE (rowI k 0 (kImm k)) 0 0 0 (kImm k)
def cnt (k : Nat) : Nat := ((List.range k).filter fun (j : Nat) => ek (j : Int) == 0).length
theorem cnt_yes (k : Nat) (h : ek (k : Int) = 0) : cnt (k + 1) = cnt k + 1 := by
  unfold cnt
  rw [List.range_succ, List.filter_append]
  simp [h]
theorem cnt_no (k : Nat) (h : ek (k : Int) ≠ 0) : cnt (k + 1) = cnt k := by
  unfold cnt
  rw [List.range_succ, List.filter_append]
  simp [h]
theorem cnt_256 : cnt 256 = 111 := by kernel_rfl
theorem cnt_le (k : Nat) : cnt k ≤ k := by
  unfold cnt
  exact Nat.le_trans (List.length_filter_le _ _) (by simp)

theorem make_is {q : Rw} {op dst src off imm : Int} {V : Value} {k : Int} (hV : mkV q dst src off imm = V) (hk : mkE q dst src off imm = k) (w : World)
    (h0 : 0 ≤ op) (h1 : op < 256) (d0 : 0 ≤ dst) (d1 : dst < 256) (s0 : 0 ≤ src) (s1 : src < 256) (o0 : -32768 ≤ off) (o1 : off < 32768) (m0 : -2147483648 ≤ imm) (m1 : imm < 2147483648) (hz : SzOk w) :
    Calls Tryd.prog 14 #[whV q, .agg #[.int .u8 op, .int .u8 dst, .int .u8 src, .int .i16 off, .int .i32 imm]] w fun e w' => e = .returned (.tuple #[V, .int .i64 k]) ∧ Below w.heap.size w w' :=
  hV ▸ hk ▸ make_any q op dst src off imm w h0 h1 d0 d1 s0 s1 o0 o1 m0 m1 hz
theorem ureads_is {L : List Int} (op dst src off imm : Int) (hL : uL op dst src off imm = L) (w : World)
    (h0 : 0 ≤ op) (h1 : op < 256) (d0 : 0 ≤ dst) (d1 : dst < 256) (s0 : 0 ≤ src) (s1 : src < 256) (o0 : -32768 ≤ off) (o1 : off < 32768) (m0 : -2147483648 ≤ imm) (m1 : imm < 2147483648) (hz : SzOk w) :
    Calls Tryd.prog 6 #[.agg #[.int .u8 op, .int .u8 dst, .int .u8 src, .int .i16 off, .int .i32 imm]] w (Left2 w L) :=
  hL ▸ ureads op dst src off imm w h0 h1 d0 d1 s0 s1 o0 o1 m0 m1 hz
theorem uwrites_is {N : Int} (op dst src off imm : Int) (hN : uW op dst src off imm = N) (w : World)
    (h0 : 0 ≤ op) (h1 : op < 256) (d0 : 0 ≤ dst) (d1 : dst < 256) (s0 : 0 ≤ src) (s1 : src < 256) (o0 : -32768 ≤ off) (o1 : off < 32768) (m0 : -2147483648 ≤ imm) (m1 : imm < 2147483648) (hz : SzOk w) :
    Calls Tryd.prog 8 #[.agg #[.int .u8 op, .int .u8 dst, .int .u8 src, .int .i16 off, .int .i32 imm]] w fun e w' => e = .returned (.int .i64 N) ∧ Below w.heap.size w w' :=
  hN ▸ uwrites op dst src off imm w h0 h1 d0 d1 s0 s1 o0 o1 m0 m1 hz
theorem uplaces_is {N : Int} (op dst src off imm : Int) (hN : uP op dst src off imm = N) (w : World)
    (h0 : 0 ≤ op) (h1 : op < 256) (d0 : 0 ≤ dst) (d1 : dst < 256) (s0 : 0 ≤ src) (s1 : src < 256) (o0 : -32768 ≤ off) (o1 : off < 32768) (m0 : -2147483648 ≤ imm) (m1 : imm < 2147483648) (hz : SzOk w) :
    Calls Tryd.prog 10 #[.agg #[.int .u8 op, .int .u8 dst, .int .u8 src, .int .i16 off, .int .i32 imm]] w fun e w' => e = .returned (.int .i64 N) ∧ Below w.heap.size w w' :=
  hN ▸ uplaces op dst src off imm w h0 h1 d0 d1 s0 s1 o0 o1 m0 m1 hz

set_option maxRecDepth 100000 in
set_option maxHeartbeats 4000000 in
theorem insnKnown_walk (w : World) (hz : SzOk w) :
    Calls Tryd.prog 5 #[] w fun e w' => e = .returned (.bool true) ∧ Below w.heap.size w w' := by
  have HZ := hid hz
  clear hz
  go_enter Tryd.func5, Tryd.ntmps5
  go_wp2
  go_loopw [1, 2] (fun n op wr => ∃ (k : Nat) (N : Int), k ≤ 256 ∧ Hid (N = (cnt k : Int)) ∧ 0 ≤ N ∧ N ≤ 256 ∧ n = .int .i64 N ∧ op = .int .i64 k ∧ Hid (Below w.heap.size w wr)) (fun _ op _ => 256 - (intOf op).toNat)
  case atStart => exact ⟨0, 0, by omega, hid rfl, by omega, by omega, rfl, rfl, hid (Below.refl _ _)⟩
  case round =>
    obtain ⟨k, N, hk, HN, hN0, hN1, rfl, rfl, HB⟩ := hrel
    have hN2 : N ≤ k := by rw [HN.out]; have := cnt_le k; omega
    by_cases hlt : k < 256
    · have hli : decide ((k : Int) < 256) = true := by simpa using (by omega : (k : Int) < 256)
      have hw : IntKind.u8.wrap (k : Int) = k := by rw [IntKind.wrap_u8]; omega
      by_cases h215 : k = 215
      · have h2 : ((k : Int) == 215) = true := by simpa using (by omega : (k : Int) = 215)
        have hi : kImm k = 64 := by unfold kImm; rw [if_pos (by omega)]
        have HO := hid fun W h => of_any (k : Int) 0 0 0 (kImm k) W (by omega) (by omega) (by decide) (by decide) (by decide) (by decide) (by decide) (by decide) (by rw [hi]; decide) (by rw [hi]; decide) h
        clear h215
        rw [hi] at HO
        go_wp2_with fail
        refine (HO.out _ ((HZ.out.below HB.out).alloc _)).mono ?_
        rintro e w1 ⟨rfl, b1⟩
        have HB1 := hid (below_next HB.out (below_next ((Below.refl wr.heap.size wr).alloc (Nat.le_refl _) _) b1))
        clear b1 HO
        rw [show tkE (rowI (k : Int) 0 64) 0 0 0 64 = ek k by unfold ek; rw [hi]]
        generalize tkR (rowI (k : Int) 0 64) 0 0 0 64 = R
        clear hi
        simp only [whV]
        by_cases hE : ek (k : Int) = 0
        · have hE' := hid hE
          have g : (ek (k : Int) == 0) = true := by simpa using hE
          clear hE
          go_wp2
          go_roundw
          case rel => exact ⟨k + 1, N + 1, by omega, hid (by rw [cnt_yes k hE'.out, HN.out]; omega), by omega, by omega, by go_num, by go_num, hid (HB1.out.alloc HB1.out.size _)⟩
          case measure => simp [intOf]; omega
        · have hE' := hid hE
          have g : (ek (k : Int) == 0) = false := by simpa using hE
          clear hE
          go_wp2
          go_roundw
          case rel => exact ⟨k + 1, N, by omega, hid (by rw [cnt_no k hE'.out]; exact HN.out), by omega, by omega, by go_num, by go_num, hid (HB1.out.alloc HB1.out.size _)⟩
          case measure => simp [intOf]; omega
      · have h2 : ((k : Int) == 215) = false := by simpa using (by omega : ¬ (k : Int) = 215)
        have hi : kImm k = 0 := by unfold kImm; rw [if_neg (by omega)]
        have HO := hid fun W h => of_any (k : Int) 0 0 0 (kImm k) W (by omega) (by omega) (by decide) (by decide) (by decide) (by decide) (by decide) (by decide) (by rw [hi]; decide) (by rw [hi]; decide) h
        clear h215
        rw [hi] at HO
        go_wp2_with fail
        refine (HO.out _ ((HZ.out.below HB.out).alloc _)).mono ?_
        rintro e w1 ⟨rfl, b1⟩
        have HB1 := hid (below_next HB.out (below_next ((Below.refl wr.heap.size wr).alloc (Nat.le_refl _) _) b1))
        clear b1 HO
        rw [show tkE (rowI (k : Int) 0 0) 0 0 0 0 = ek k by unfold ek; rw [hi]]
        generalize tkR (rowI (k : Int) 0 0) 0 0 0 0 = R
        clear hi
        simp only [whV]
        by_cases hE : ek (k : Int) = 0
        · have hE' := hid hE
          have g : (ek (k : Int) == 0) = true := by simpa using hE
          clear hE
          go_wp2
          go_roundw
          case rel => exact ⟨k + 1, N + 1, by omega, hid (by rw [cnt_yes k hE'.out, HN.out]; omega), by omega, by omega, by go_num, by go_num, hid (HB1.out.alloc HB1.out.size _)⟩
          case measure => simp [intOf]; omega
        · have hE' := hid hE
          have g : (ek (k : Int) == 0) = false := by simpa using hE
          clear hE
          go_wp2
          go_roundw
          case rel => exact ⟨k + 1, N, by omega, hid (by rw [cnt_no k hE'.out]; exact HN.out), by omega, by omega, by go_num, by go_num, hid (HB1.out.alloc HB1.out.size _)⟩
          case measure => simp [intOf]; omega
    · obtain rfl : k = 256 := by omega
      obtain rfl : N = 111 := by rw [HN.out, cnt_256]; rfl
      clear hlt hk hN0 hN1 hN2 HN
      go_wp2
      have mk7 : ∀ W : World, (Instr.makeSlice 41 (.int .i64 7) (.int .i64 7)).run Tryd.prog W = .ok (.slice (some ⟨W.heap.size, 0, none⟩) 7 7) (W.alloc (.cells #[.int .u8 0, .int .u8 0, .int .u8 0, .int .u8 0, .int .u8 0, .int .u8 0, .int .u8 0] 5)) := fun _ => by kernel_rfl
      have mk9 : ∀ W : World, (Instr.makeSlice 41 (.int .i64 9) (.int .i64 9)).run Tryd.prog W = .ok (.slice (some ⟨W.heap.size, 0, none⟩) 9 9) (W.alloc (.cells #[.int .u8 0, .int .u8 0, .int .u8 0, .int .u8 0, .int .u8 0, .int .u8 0, .int .u8 0, .int .u8 0, .int .u8 0] 5)) := fun _ => by kernel_rfl
      obtain ⟨wo, rfl⟩ : ∃ wo : World, wo = wr := ⟨_, rfl⟩
      generalize hWA : wo.alloc (.cells #[.int .u8 220, .int .u8 0, .int .u8 0, .int .i16 0, .int .i32 16, .int .i64 20, .int .u8 24, .int .u8 0, .int .u8 2, .int .i16 0, .int .i32 0, .int .i64 20, .int .u8 215, .int .u8 0, .int .u8 0, .int .i16 0, .int .i32 8, .int .i64 20, .int .u8 183, .int .u8 10, .int .u8 0, .int .i16 0, .int .i32 0, .int .i64 21, .int .u8 121, .int .u8 0, .int .u8 11, .int .i16 0, .int .i32 0, .int .i64 21, .int .u8 123, .int .u8 10, .int .u8 1, .int .i16 (-8), .int .i32 0, .int .i64 0, .int .u8 183, .int .u8 0, .int .u8 1, .int .i16 0, .int .i32 0, .int .i64 22, .int .u8 149, .int .u8 0, .int .u8 0, .int .i16 0, .int .i32 1, .int .i64 22, .int .u8 15, .int .u8 0, .int .u8 0, .int .i16 1, .int .i32 0, .int .i64 22, .int .u8 135, .int .u8 0, .int .u8 0, .int .i16 0, .int .i32 1, .int .i64 22, .int .u8 5, .int .u8 11, .int .u8 0, .int .i16 0, .int .i32 0, .int .i64 22, .int .u8 183, .int .u8 11, .int .u8 1, .int .i16 0, .int .i32 0, .int .i64 21] 36) = WA
      have XA : Bx w WA := by rw [← hWA]; exact Bx.next ((Below.refl wo.heap.size wo).alloc (Nat.le_refl _) _) ⟨HZ.out, HB.out⟩
      have qA : wo.heap.size < WA.heap.size := by rw [← hWA]; simp
      have HWA := hid hWA
      have HXA := hid XA
      clear hWA XA HB
      go_loopw [69] (fun i wr => ∃ k : Int, 0 ≤ k ∧ k ≤ 12 ∧ i = .int .i64 k ∧ Hid (Below WA.heap.size WA wr)) (fun i _ => 12 - (intOf i).toNat)
      case atStart => exact ⟨0, by omega, by omega, rfl, hid (Below.refl _ _)⟩
      case round =>
        obtain ⟨k, hk0, hk, rfl, HQ⟩ := hrel
        have X := hid (Bx.next HQ.out HXA.out)
        rcases (show k = 0 ∨ k = 1 ∨ k = 2 ∨ k = 3 ∨ k = 4 ∨ k = 5 ∨ k = 6 ∨ k = 7 ∨ k = 8 ∨ k = 9 ∨ k = 10 ∨ k = 11 ∨ k = 12 by omega) with rfl | rfl | rfl | rfl | rfl | rfl | rfl | rfl | rfl | rfl | rfl | rfl | rfl
        · have n1 := hid (show tkE (rowI 220 0 16) 0 0 0 16 = 20 by kernel_rfl)
          have c0 : wr.cell? ⟨wo.heap.size, 0, none⟩ = some (.int .u8 220) := (HQ.out.cell (p := ⟨wo.heap.size, 0, none⟩) qA).trans (by rw [← HWA.out]; simp)
          have c1 : wr.cell? ⟨wo.heap.size, 1, none⟩ = some (.int .u8 0) := (HQ.out.cell (p := ⟨wo.heap.size, 1, none⟩) qA).trans (by rw [← HWA.out]; simp)
          have c2 : wr.cell? ⟨wo.heap.size, 2, none⟩ = some (.int .u8 0) := (HQ.out.cell (p := ⟨wo.heap.size, 2, none⟩) qA).trans (by rw [← HWA.out]; simp)
          have c3 : wr.cell? ⟨wo.heap.size, 3, none⟩ = some (.int .i16 0) := (HQ.out.cell (p := ⟨wo.heap.size, 3, none⟩) qA).trans (by rw [← HWA.out]; simp)
          have c4 : wr.cell? ⟨wo.heap.size, 4, none⟩ = some (.int .i32 16) := (HQ.out.cell (p := ⟨wo.heap.size, 4, none⟩) qA).trans (by rw [← HWA.out]; simp)
          have c5 : wr.cell? ⟨wo.heap.size, 5, none⟩ = some (.int .i64 20) := (HQ.out.cell (p := ⟨wo.heap.size, 5, none⟩) qA).trans (by rw [← HWA.out]; simp)
          go_wp2_with fail
          refine (of_is 220 0 0 0 16 _ _ rfl n1.out _ (by decide) (by decide) (by decide) (by decide) (by decide) (by decide) (by decide) (by decide) (by decide) (by decide) (X.out.sz.alloc _)).mono ?_
          rintro e w1 ⟨rfl, b1⟩
          have d5 : w1.cell? ⟨wr.heap.size, 5, none⟩ = some (.int .i64 20) := cn b1 (by simp)
          have q1 : wr.heap.size < w1.heap.size := by have := b1.size; simp at this; omega
          have HB1 := hid (below_next HQ.out (below_next ((Below.refl wr.heap.size wr).alloc (Nat.le_refl _) _) b1))
          clear b1 c0 c1 c2 c3 c4 c5
          generalize tkR (rowI 220 0 16) 0 0 0 16 = R
          simp only [whV]
          go_wp2
          go_roundw
          case rel => first | exact ⟨1, by omega, by omega, by go_num, hid (HB1.out.alloc HB1.out.size _)⟩ | ((repeat apply Exists.intro); exact ⟨⟨1, by omega, by omega, by go_num, hid (HB1.out.alloc HB1.out.size _)⟩, rfl⟩)
          case measure => simp [intOf]
        · have n1 := hid (show tkE (rowI 24 2 0) 0 2 0 0 = 20 by kernel_rfl)
          have c0 : wr.cell? ⟨wo.heap.size, 6, none⟩ = some (.int .u8 24) := (HQ.out.cell (p := ⟨wo.heap.size, 6, none⟩) qA).trans (by rw [← HWA.out]; simp)
          have c1 : wr.cell? ⟨wo.heap.size, 7, none⟩ = some (.int .u8 0) := (HQ.out.cell (p := ⟨wo.heap.size, 7, none⟩) qA).trans (by rw [← HWA.out]; simp)
          have c2 : wr.cell? ⟨wo.heap.size, 8, none⟩ = some (.int .u8 2) := (HQ.out.cell (p := ⟨wo.heap.size, 8, none⟩) qA).trans (by rw [← HWA.out]; simp)
          have c3 : wr.cell? ⟨wo.heap.size, 9, none⟩ = some (.int .i16 0) := (HQ.out.cell (p := ⟨wo.heap.size, 9, none⟩) qA).trans (by rw [← HWA.out]; simp)
          have c4 : wr.cell? ⟨wo.heap.size, 10, none⟩ = some (.int .i32 0) := (HQ.out.cell (p := ⟨wo.heap.size, 10, none⟩) qA).trans (by rw [← HWA.out]; simp)
          have c5 : wr.cell? ⟨wo.heap.size, 11, none⟩ = some (.int .i64 20) := (HQ.out.cell (p := ⟨wo.heap.size, 11, none⟩) qA).trans (by rw [← HWA.out]; simp)
          go_wp2_with fail
          refine (of_is 24 0 2 0 0 _ _ rfl n1.out _ (by decide) (by decide) (by decide) (by decide) (by decide) (by decide) (by decide) (by decide) (by decide) (by decide) (X.out.sz.alloc _)).mono ?_
          rintro e w1 ⟨rfl, b1⟩
          have d5 : w1.cell? ⟨wr.heap.size, 5, none⟩ = some (.int .i64 20) := cn b1 (by simp)
          have q1 : wr.heap.size < w1.heap.size := by have := b1.size; simp at this; omega
          have HB1 := hid (below_next HQ.out (below_next ((Below.refl wr.heap.size wr).alloc (Nat.le_refl _) _) b1))
          clear b1 c0 c1 c2 c3 c4 c5
          generalize tkR (rowI 24 2 0) 0 2 0 0 = R
          simp only [whV]
          go_wp2
          go_roundw
          case rel => first | exact ⟨2, by omega, by omega, by go_num, hid (HB1.out.alloc HB1.out.size _)⟩ | ((repeat apply Exists.intro); exact ⟨⟨2, by omega, by omega, by go_num, hid (HB1.out.alloc HB1.out.size _)⟩, rfl⟩)
          case measure => simp [intOf]
        · have n1 := hid (show tkE (rowI 215 0 8) 0 0 0 8 = 20 by kernel_rfl)
          have c0 : wr.cell? ⟨wo.heap.size, 12, none⟩ = some (.int .u8 215) := (HQ.out.cell (p := ⟨wo.heap.size, 12, none⟩) qA).trans (by rw [← HWA.out]; simp)
          have c1 : wr.cell? ⟨wo.heap.size, 13, none⟩ = some (.int .u8 0) := (HQ.out.cell (p := ⟨wo.heap.size, 13, none⟩) qA).trans (by rw [← HWA.out]; simp)
          have c2 : wr.cell? ⟨wo.heap.size, 14, none⟩ = some (.int .u8 0) := (HQ.out.cell (p := ⟨wo.heap.size, 14, none⟩) qA).trans (by rw [← HWA.out]; simp)
          have c3 : wr.cell? ⟨wo.heap.size, 15, none⟩ = some (.int .i16 0) := (HQ.out.cell (p := ⟨wo.heap.size, 15, none⟩) qA).trans (by rw [← HWA.out]; simp)
          have c4 : wr.cell? ⟨wo.heap.size, 16, none⟩ = some (.int .i32 8) := (HQ.out.cell (p := ⟨wo.heap.size, 16, none⟩) qA).trans (by rw [← HWA.out]; simp)
          have c5 : wr.cell? ⟨wo.heap.size, 17, none⟩ = some (.int .i64 20) := (HQ.out.cell (p := ⟨wo.heap.size, 17, none⟩) qA).trans (by rw [← HWA.out]; simp)
          go_wp2_with fail
          refine (of_is 215 0 0 0 8 _ _ rfl n1.out _ (by decide) (by decide) (by decide) (by decide) (by decide) (by decide) (by decide) (by decide) (by decide) (by decide) (X.out.sz.alloc _)).mono ?_
          rintro e w1 ⟨rfl, b1⟩
          have d5 : w1.cell? ⟨wr.heap.size, 5, none⟩ = some (.int .i64 20) := cn b1 (by simp)
          have q1 : wr.heap.size < w1.heap.size := by have := b1.size; simp at this; omega
          have HB1 := hid (below_next HQ.out (below_next ((Below.refl wr.heap.size wr).alloc (Nat.le_refl _) _) b1))
          clear b1 c0 c1 c2 c3 c4 c5
          generalize tkR (rowI 215 0 8) 0 0 0 8 = R
          simp only [whV]
          go_wp2
          go_roundw
          case rel => first | exact ⟨3, by omega, by omega, by go_num, hid (HB1.out.alloc HB1.out.size _)⟩ | ((repeat apply Exists.intro); exact ⟨⟨3, by omega, by omega, by go_num, hid (HB1.out.alloc HB1.out.size _)⟩, rfl⟩)
          case measure => simp [intOf]
        · have n1 := hid (show tkE (rowI 183 0 0) 10 0 0 0 = 21 by kernel_rfl)
          have c0 : wr.cell? ⟨wo.heap.size, 18, none⟩ = some (.int .u8 183) := (HQ.out.cell (p := ⟨wo.heap.size, 18, none⟩) qA).trans (by rw [← HWA.out]; simp)
          have c1 : wr.cell? ⟨wo.heap.size, 19, none⟩ = some (.int .u8 10) := (HQ.out.cell (p := ⟨wo.heap.size, 19, none⟩) qA).trans (by rw [← HWA.out]; simp)
          have c2 : wr.cell? ⟨wo.heap.size, 20, none⟩ = some (.int .u8 0) := (HQ.out.cell (p := ⟨wo.heap.size, 20, none⟩) qA).trans (by rw [← HWA.out]; simp)
          have c3 : wr.cell? ⟨wo.heap.size, 21, none⟩ = some (.int .i16 0) := (HQ.out.cell (p := ⟨wo.heap.size, 21, none⟩) qA).trans (by rw [← HWA.out]; simp)
          have c4 : wr.cell? ⟨wo.heap.size, 22, none⟩ = some (.int .i32 0) := (HQ.out.cell (p := ⟨wo.heap.size, 22, none⟩) qA).trans (by rw [← HWA.out]; simp)
          have c5 : wr.cell? ⟨wo.heap.size, 23, none⟩ = some (.int .i64 21) := (HQ.out.cell (p := ⟨wo.heap.size, 23, none⟩) qA).trans (by rw [← HWA.out]; simp)
          go_wp2_with fail
          refine (of_is 183 10 0 0 0 _ _ rfl n1.out _ (by decide) (by decide) (by decide) (by decide) (by decide) (by decide) (by decide) (by decide) (by decide) (by decide) (X.out.sz.alloc _)).mono ?_
          rintro e w1 ⟨rfl, b1⟩
          have d5 : w1.cell? ⟨wr.heap.size, 5, none⟩ = some (.int .i64 21) := cn b1 (by simp)
          have q1 : wr.heap.size < w1.heap.size := by have := b1.size; simp at this; omega
          have HB1 := hid (below_next HQ.out (below_next ((Below.refl wr.heap.size wr).alloc (Nat.le_refl _) _) b1))
          clear b1 c0 c1 c2 c3 c4 c5
          generalize tkR (rowI 183 0 0) 10 0 0 0 = R
          simp only [whV]
          go_wp2
          go_roundw
          case rel => first | exact ⟨4, by omega, by omega, by go_num, hid (HB1.out.alloc HB1.out.size _)⟩ | ((repeat apply Exists.intro); exact ⟨⟨4, by omega, by omega, by go_num, hid (HB1.out.alloc HB1.out.size _)⟩, rfl⟩)
          case measure => simp [intOf]
        · have n1 := hid (show tkE (rowI 121 11 0) 0 11 0 0 = 21 by kernel_rfl)
          have c0 : wr.cell? ⟨wo.heap.size, 24, none⟩ = some (.int .u8 121) := (HQ.out.cell (p := ⟨wo.heap.size, 24, none⟩) qA).trans (by rw [← HWA.out]; simp)
          have c1 : wr.cell? ⟨wo.heap.size, 25, none⟩ = some (.int .u8 0) := (HQ.out.cell (p := ⟨wo.heap.size, 25, none⟩) qA).trans (by rw [← HWA.out]; simp)
          have c2 : wr.cell? ⟨wo.heap.size, 26, none⟩ = some (.int .u8 11) := (HQ.out.cell (p := ⟨wo.heap.size, 26, none⟩) qA).trans (by rw [← HWA.out]; simp)
          have c3 : wr.cell? ⟨wo.heap.size, 27, none⟩ = some (.int .i16 0) := (HQ.out.cell (p := ⟨wo.heap.size, 27, none⟩) qA).trans (by rw [← HWA.out]; simp)
          have c4 : wr.cell? ⟨wo.heap.size, 28, none⟩ = some (.int .i32 0) := (HQ.out.cell (p := ⟨wo.heap.size, 28, none⟩) qA).trans (by rw [← HWA.out]; simp)
          have c5 : wr.cell? ⟨wo.heap.size, 29, none⟩ = some (.int .i64 21) := (HQ.out.cell (p := ⟨wo.heap.size, 29, none⟩) qA).trans (by rw [← HWA.out]; simp)
          go_wp2_with fail
          refine (of_is 121 0 11 0 0 _ _ rfl n1.out _ (by decide) (by decide) (by decide) (by decide) (by decide) (by decide) (by decide) (by decide) (by decide) (by decide) (X.out.sz.alloc _)).mono ?_
          rintro e w1 ⟨rfl, b1⟩
          have d5 : w1.cell? ⟨wr.heap.size, 5, none⟩ = some (.int .i64 21) := cn b1 (by simp)
          have q1 : wr.heap.size < w1.heap.size := by have := b1.size; simp at this; omega
          have HB1 := hid (below_next HQ.out (below_next ((Below.refl wr.heap.size wr).alloc (Nat.le_refl _) _) b1))
          clear b1 c0 c1 c2 c3 c4 c5
          generalize tkR (rowI 121 11 0) 0 11 0 0 = R
          simp only [whV]
          go_wp2
          go_roundw
          case rel => first | exact ⟨5, by omega, by omega, by go_num, hid (HB1.out.alloc HB1.out.size _)⟩ | ((repeat apply Exists.intro); exact ⟨⟨5, by omega, by omega, by go_num, hid (HB1.out.alloc HB1.out.size _)⟩, rfl⟩)
          case measure => simp [intOf]
        · have n1 := hid (show tkE (rowI 123 1 0) 10 1 (-8) 0 = 0 by kernel_rfl)
          have c0 : wr.cell? ⟨wo.heap.size, 30, none⟩ = some (.int .u8 123) := (HQ.out.cell (p := ⟨wo.heap.size, 30, none⟩) qA).trans (by rw [← HWA.out]; simp)
          have c1 : wr.cell? ⟨wo.heap.size, 31, none⟩ = some (.int .u8 10) := (HQ.out.cell (p := ⟨wo.heap.size, 31, none⟩) qA).trans (by rw [← HWA.out]; simp)
          have c2 : wr.cell? ⟨wo.heap.size, 32, none⟩ = some (.int .u8 1) := (HQ.out.cell (p := ⟨wo.heap.size, 32, none⟩) qA).trans (by rw [← HWA.out]; simp)
          have c3 : wr.cell? ⟨wo.heap.size, 33, none⟩ = some (.int .i16 (-8)) := (HQ.out.cell (p := ⟨wo.heap.size, 33, none⟩) qA).trans (by rw [← HWA.out]; simp)
          have c4 : wr.cell? ⟨wo.heap.size, 34, none⟩ = some (.int .i32 0) := (HQ.out.cell (p := ⟨wo.heap.size, 34, none⟩) qA).trans (by rw [← HWA.out]; simp)
          have c5 : wr.cell? ⟨wo.heap.size, 35, none⟩ = some (.int .i64 0) := (HQ.out.cell (p := ⟨wo.heap.size, 35, none⟩) qA).trans (by rw [← HWA.out]; simp)
          go_wp2_with fail
          refine (of_is 123 10 1 (-8) 0 _ _ rfl n1.out _ (by decide) (by decide) (by decide) (by decide) (by decide) (by decide) (by decide) (by decide) (by decide) (by decide) (X.out.sz.alloc _)).mono ?_
          rintro e w1 ⟨rfl, b1⟩
          have d5 : w1.cell? ⟨wr.heap.size, 5, none⟩ = some (.int .i64 0) := cn b1 (by simp)
          have q1 : wr.heap.size < w1.heap.size := by have := b1.size; simp at this; omega
          have HB1 := hid (below_next HQ.out (below_next ((Below.refl wr.heap.size wr).alloc (Nat.le_refl _) _) b1))
          clear b1 c0 c1 c2 c3 c4 c5
          generalize tkR (rowI 123 1 0) 10 1 (-8) 0 = R
          simp only [whV]
          go_wp2
          go_roundw
          case rel => first | exact ⟨6, by omega, by omega, by go_num, hid (HB1.out.alloc HB1.out.size _)⟩ | ((repeat apply Exists.intro); exact ⟨⟨6, by omega, by omega, by go_num, hid (HB1.out.alloc HB1.out.size _)⟩, rfl⟩)
          case measure => simp [intOf]
        · have n1 := hid (show tkE (rowI 183 1 0) 0 1 0 0 = 22 by kernel_rfl)
          have c0 : wr.cell? ⟨wo.heap.size, 36, none⟩ = some (.int .u8 183) := (HQ.out.cell (p := ⟨wo.heap.size, 36, none⟩) qA).trans (by rw [← HWA.out]; simp)
          have c1 : wr.cell? ⟨wo.heap.size, 37, none⟩ = some (.int .u8 0) := (HQ.out.cell (p := ⟨wo.heap.size, 37, none⟩) qA).trans (by rw [← HWA.out]; simp)
          have c2 : wr.cell? ⟨wo.heap.size, 38, none⟩ = some (.int .u8 1) := (HQ.out.cell (p := ⟨wo.heap.size, 38, none⟩) qA).trans (by rw [← HWA.out]; simp)
          have c3 : wr.cell? ⟨wo.heap.size, 39, none⟩ = some (.int .i16 0) := (HQ.out.cell (p := ⟨wo.heap.size, 39, none⟩) qA).trans (by rw [← HWA.out]; simp)
          have c4 : wr.cell? ⟨wo.heap.size, 40, none⟩ = some (.int .i32 0) := (HQ.out.cell (p := ⟨wo.heap.size, 40, none⟩) qA).trans (by rw [← HWA.out]; simp)
          have c5 : wr.cell? ⟨wo.heap.size, 41, none⟩ = some (.int .i64 22) := (HQ.out.cell (p := ⟨wo.heap.size, 41, none⟩) qA).trans (by rw [← HWA.out]; simp)
          go_wp2_with fail
          refine (of_is 183 0 1 0 0 _ _ rfl n1.out _ (by decide) (by decide) (by decide) (by decide) (by decide) (by decide) (by decide) (by decide) (by decide) (by decide) (X.out.sz.alloc _)).mono ?_
          rintro e w1 ⟨rfl, b1⟩
          have d5 : w1.cell? ⟨wr.heap.size, 5, none⟩ = some (.int .i64 22) := cn b1 (by simp)
          have q1 : wr.heap.size < w1.heap.size := by have := b1.size; simp at this; omega
          have HB1 := hid (below_next HQ.out (below_next ((Below.refl wr.heap.size wr).alloc (Nat.le_refl _) _) b1))
          clear b1 c0 c1 c2 c3 c4 c5
          generalize tkR (rowI 183 1 0) 0 1 0 0 = R
          simp only [whV]
          go_wp2
          go_roundw
          case rel => first | exact ⟨7, by omega, by omega, by go_num, hid (HB1.out.alloc HB1.out.size _)⟩ | ((repeat apply Exists.intro); exact ⟨⟨7, by omega, by omega, by go_num, hid (HB1.out.alloc HB1.out.size _)⟩, rfl⟩)
          case measure => simp [intOf]
        · have n1 := hid (show tkE (rowI 149 0 1) 0 0 0 1 = 22 by kernel_rfl)
          have c0 : wr.cell? ⟨wo.heap.size, 42, none⟩ = some (.int .u8 149) := (HQ.out.cell (p := ⟨wo.heap.size, 42, none⟩) qA).trans (by rw [← HWA.out]; simp)
          have c1 : wr.cell? ⟨wo.heap.size, 43, none⟩ = some (.int .u8 0) := (HQ.out.cell (p := ⟨wo.heap.size, 43, none⟩) qA).trans (by rw [← HWA.out]; simp)
          have c2 : wr.cell? ⟨wo.heap.size, 44, none⟩ = some (.int .u8 0) := (HQ.out.cell (p := ⟨wo.heap.size, 44, none⟩) qA).trans (by rw [← HWA.out]; simp)
          have c3 : wr.cell? ⟨wo.heap.size, 45, none⟩ = some (.int .i16 0) := (HQ.out.cell (p := ⟨wo.heap.size, 45, none⟩) qA).trans (by rw [← HWA.out]; simp)
          have c4 : wr.cell? ⟨wo.heap.size, 46, none⟩ = some (.int .i32 1) := (HQ.out.cell (p := ⟨wo.heap.size, 46, none⟩) qA).trans (by rw [← HWA.out]; simp)
          have c5 : wr.cell? ⟨wo.heap.size, 47, none⟩ = some (.int .i64 22) := (HQ.out.cell (p := ⟨wo.heap.size, 47, none⟩) qA).trans (by rw [← HWA.out]; simp)
          go_wp2_with fail
          refine (of_is 149 0 0 0 1 _ _ rfl n1.out _ (by decide) (by decide) (by decide) (by decide) (by decide) (by decide) (by decide) (by decide) (by decide) (by decide) (X.out.sz.alloc _)).mono ?_
          rintro e w1 ⟨rfl, b1⟩
          have d5 : w1.cell? ⟨wr.heap.size, 5, none⟩ = some (.int .i64 22) := cn b1 (by simp)
          have q1 : wr.heap.size < w1.heap.size := by have := b1.size; simp at this; omega
          have HB1 := hid (below_next HQ.out (below_next ((Below.refl wr.heap.size wr).alloc (Nat.le_refl _) _) b1))
          clear b1 c0 c1 c2 c3 c4 c5
          generalize tkR (rowI 149 0 1) 0 0 0 1 = R
          simp only [whV]
          go_wp2
          go_roundw
          case rel => first | exact ⟨8, by omega, by omega, by go_num, hid (HB1.out.alloc HB1.out.size _)⟩ | ((repeat apply Exists.intro); exact ⟨⟨8, by omega, by omega, by go_num, hid (HB1.out.alloc HB1.out.size _)⟩, rfl⟩)
          case measure => simp [intOf]
        · have n1 := hid (show tkE (rowI 15 0 0) 0 0 1 0 = 22 by kernel_rfl)
          have c0 : wr.cell? ⟨wo.heap.size, 48, none⟩ = some (.int .u8 15) := (HQ.out.cell (p := ⟨wo.heap.size, 48, none⟩) qA).trans (by rw [← HWA.out]; simp)
          have c1 : wr.cell? ⟨wo.heap.size, 49, none⟩ = some (.int .u8 0) := (HQ.out.cell (p := ⟨wo.heap.size, 49, none⟩) qA).trans (by rw [← HWA.out]; simp)
          have c2 : wr.cell? ⟨wo.heap.size, 50, none⟩ = some (.int .u8 0) := (HQ.out.cell (p := ⟨wo.heap.size, 50, none⟩) qA).trans (by rw [← HWA.out]; simp)
          have c3 : wr.cell? ⟨wo.heap.size, 51, none⟩ = some (.int .i16 1) := (HQ.out.cell (p := ⟨wo.heap.size, 51, none⟩) qA).trans (by rw [← HWA.out]; simp)
          have c4 : wr.cell? ⟨wo.heap.size, 52, none⟩ = some (.int .i32 0) := (HQ.out.cell (p := ⟨wo.heap.size, 52, none⟩) qA).trans (by rw [← HWA.out]; simp)
          have c5 : wr.cell? ⟨wo.heap.size, 53, none⟩ = some (.int .i64 22) := (HQ.out.cell (p := ⟨wo.heap.size, 53, none⟩) qA).trans (by rw [← HWA.out]; simp)
          go_wp2_with fail
          refine (of_is 15 0 0 1 0 _ _ rfl n1.out _ (by decide) (by decide) (by decide) (by decide) (by decide) (by decide) (by decide) (by decide) (by decide) (by decide) (X.out.sz.alloc _)).mono ?_
          rintro e w1 ⟨rfl, b1⟩
          have d5 : w1.cell? ⟨wr.heap.size, 5, none⟩ = some (.int .i64 22) := cn b1 (by simp)
          have q1 : wr.heap.size < w1.heap.size := by have := b1.size; simp at this; omega
          have HB1 := hid (below_next HQ.out (below_next ((Below.refl wr.heap.size wr).alloc (Nat.le_refl _) _) b1))
          clear b1 c0 c1 c2 c3 c4 c5
          generalize tkR (rowI 15 0 0) 0 0 1 0 = R
          simp only [whV]
          go_wp2
          go_roundw
          case rel => first | exact ⟨9, by omega, by omega, by go_num, hid (HB1.out.alloc HB1.out.size _)⟩ | ((repeat apply Exists.intro); exact ⟨⟨9, by omega, by omega, by go_num, hid (HB1.out.alloc HB1.out.size _)⟩, rfl⟩)
          case measure => simp [intOf]
        · have n1 := hid (show tkE (rowI 135 0 1) 0 0 0 1 = 22 by kernel_rfl)
          have c0 : wr.cell? ⟨wo.heap.size, 54, none⟩ = some (.int .u8 135) := (HQ.out.cell (p := ⟨wo.heap.size, 54, none⟩) qA).trans (by rw [← HWA.out]; simp)
          have c1 : wr.cell? ⟨wo.heap.size, 55, none⟩ = some (.int .u8 0) := (HQ.out.cell (p := ⟨wo.heap.size, 55, none⟩) qA).trans (by rw [← HWA.out]; simp)
          have c2 : wr.cell? ⟨wo.heap.size, 56, none⟩ = some (.int .u8 0) := (HQ.out.cell (p := ⟨wo.heap.size, 56, none⟩) qA).trans (by rw [← HWA.out]; simp)
          have c3 : wr.cell? ⟨wo.heap.size, 57, none⟩ = some (.int .i16 0) := (HQ.out.cell (p := ⟨wo.heap.size, 57, none⟩) qA).trans (by rw [← HWA.out]; simp)
          have c4 : wr.cell? ⟨wo.heap.size, 58, none⟩ = some (.int .i32 1) := (HQ.out.cell (p := ⟨wo.heap.size, 58, none⟩) qA).trans (by rw [← HWA.out]; simp)
          have c5 : wr.cell? ⟨wo.heap.size, 59, none⟩ = some (.int .i64 22) := (HQ.out.cell (p := ⟨wo.heap.size, 59, none⟩) qA).trans (by rw [← HWA.out]; simp)
          go_wp2_with fail
          refine (of_is 135 0 0 0 1 _ _ rfl n1.out _ (by decide) (by decide) (by decide) (by decide) (by decide) (by decide) (by decide) (by decide) (by decide) (by decide) (X.out.sz.alloc _)).mono ?_
          rintro e w1 ⟨rfl, b1⟩
          have d5 : w1.cell? ⟨wr.heap.size, 5, none⟩ = some (.int .i64 22) := cn b1 (by simp)
          have q1 : wr.heap.size < w1.heap.size := by have := b1.size; simp at this; omega
          have HB1 := hid (below_next HQ.out (below_next ((Below.refl wr.heap.size wr).alloc (Nat.le_refl _) _) b1))
          clear b1 c0 c1 c2 c3 c4 c5
          generalize tkR (rowI 135 0 1) 0 0 0 1 = R
          simp only [whV]
          go_wp2
          go_roundw
          case rel => first | exact ⟨10, by omega, by omega, by go_num, hid (HB1.out.alloc HB1.out.size _)⟩ | ((repeat apply Exists.intro); exact ⟨⟨10, by omega, by omega, by go_num, hid (HB1.out.alloc HB1.out.size _)⟩, rfl⟩)
          case measure => simp [intOf]
        · have n1 := hid (show tkE (rowI 5 0 0) 11 0 0 0 = 22 by kernel_rfl)
          have c0 : wr.cell? ⟨wo.heap.size, 60, none⟩ = some (.int .u8 5) := (HQ.out.cell (p := ⟨wo.heap.size, 60, none⟩) qA).trans (by rw [← HWA.out]; simp)
          have c1 : wr.cell? ⟨wo.heap.size, 61, none⟩ = some (.int .u8 11) := (HQ.out.cell (p := ⟨wo.heap.size, 61, none⟩) qA).trans (by rw [← HWA.out]; simp)
          have c2 : wr.cell? ⟨wo.heap.size, 62, none⟩ = some (.int .u8 0) := (HQ.out.cell (p := ⟨wo.heap.size, 62, none⟩) qA).trans (by rw [← HWA.out]; simp)
          have c3 : wr.cell? ⟨wo.heap.size, 63, none⟩ = some (.int .i16 0) := (HQ.out.cell (p := ⟨wo.heap.size, 63, none⟩) qA).trans (by rw [← HWA.out]; simp)
          have c4 : wr.cell? ⟨wo.heap.size, 64, none⟩ = some (.int .i32 0) := (HQ.out.cell (p := ⟨wo.heap.size, 64, none⟩) qA).trans (by rw [← HWA.out]; simp)
          have c5 : wr.cell? ⟨wo.heap.size, 65, none⟩ = some (.int .i64 22) := (HQ.out.cell (p := ⟨wo.heap.size, 65, none⟩) qA).trans (by rw [← HWA.out]; simp)
          go_wp2_with fail
          refine (of_is 5 11 0 0 0 _ _ rfl n1.out _ (by decide) (by decide) (by decide) (by decide) (by decide) (by decide) (by decide) (by decide) (by decide) (by decide) (X.out.sz.alloc _)).mono ?_
          rintro e w1 ⟨rfl, b1⟩
          have d5 : w1.cell? ⟨wr.heap.size, 5, none⟩ = some (.int .i64 22) := cn b1 (by simp)
          have q1 : wr.heap.size < w1.heap.size := by have := b1.size; simp at this; omega
          have HB1 := hid (below_next HQ.out (below_next ((Below.refl wr.heap.size wr).alloc (Nat.le_refl _) _) b1))
          clear b1 c0 c1 c2 c3 c4 c5
          generalize tkR (rowI 5 0 0) 11 0 0 0 = R
          simp only [whV]
          go_wp2
          go_roundw
          case rel => first | exact ⟨11, by omega, by omega, by go_num, hid (HB1.out.alloc HB1.out.size _)⟩ | ((repeat apply Exists.intro); exact ⟨⟨11, by omega, by omega, by go_num, hid (HB1.out.alloc HB1.out.size _)⟩, rfl⟩)
          case measure => simp [intOf]
        · have n1 := hid (show tkE (rowI 183 1 0) 11 1 0 0 = 21 by kernel_rfl)
          have c0 : wr.cell? ⟨wo.heap.size, 66, none⟩ = some (.int .u8 183) := (HQ.out.cell (p := ⟨wo.heap.size, 66, none⟩) qA).trans (by rw [← HWA.out]; simp)
          have c1 : wr.cell? ⟨wo.heap.size, 67, none⟩ = some (.int .u8 11) := (HQ.out.cell (p := ⟨wo.heap.size, 67, none⟩) qA).trans (by rw [← HWA.out]; simp)
          have c2 : wr.cell? ⟨wo.heap.size, 68, none⟩ = some (.int .u8 1) := (HQ.out.cell (p := ⟨wo.heap.size, 68, none⟩) qA).trans (by rw [← HWA.out]; simp)
          have c3 : wr.cell? ⟨wo.heap.size, 69, none⟩ = some (.int .i16 0) := (HQ.out.cell (p := ⟨wo.heap.size, 69, none⟩) qA).trans (by rw [← HWA.out]; simp)
          have c4 : wr.cell? ⟨wo.heap.size, 70, none⟩ = some (.int .i32 0) := (HQ.out.cell (p := ⟨wo.heap.size, 70, none⟩) qA).trans (by rw [← HWA.out]; simp)
          have c5 : wr.cell? ⟨wo.heap.size, 71, none⟩ = some (.int .i64 21) := (HQ.out.cell (p := ⟨wo.heap.size, 71, none⟩) qA).trans (by rw [← HWA.out]; simp)
          go_wp2_with fail
          refine (of_is 183 11 1 0 0 _ _ rfl n1.out _ (by decide) (by decide) (by decide) (by decide) (by decide) (by decide) (by decide) (by decide) (by decide) (by decide) (X.out.sz.alloc _)).mono ?_
          rintro e w1 ⟨rfl, b1⟩
          have d5 : w1.cell? ⟨wr.heap.size, 5, none⟩ = some (.int .i64 21) := cn b1 (by simp)
          have q1 : wr.heap.size < w1.heap.size := by have := b1.size; simp at this; omega
          have HB1 := hid (below_next HQ.out (below_next ((Below.refl wr.heap.size wr).alloc (Nat.le_refl _) _) b1))
          clear b1 c0 c1 c2 c3 c4 c5
          generalize tkR (rowI 183 1 0) 11 1 0 0 = R
          simp only [whV]
          go_wp2
          go_roundw
          case rel => first | exact ⟨12, by omega, by omega, by go_num, hid (HB1.out.alloc HB1.out.size _)⟩ | ((repeat apply Exists.intro); exact ⟨⟨12, by omega, by omega, by go_num, hid (HB1.out.alloc HB1.out.size _)⟩, rfl⟩)
          case measure => simp [intOf]
        · clear HQ HXA HWA
          have v1 := hid (show mkV ⟨6, 5, 0, true, false, 0, 0, 0, 0⟩ 3 0 7 0 = .agg #[.int .u8 85, .int .u8 3, .int .u8 0, .int .i16 7, .int .i32 0] by kernel_rfl)
          have e1 := hid (show mkE ⟨6, 5, 0, true, false, 0, 0, 0, 0⟩ 3 0 7 0 = 0 by kernel_rfl)
          have v2 := hid (show mkV ⟨1, 8, 0, false, true, 0, 0, 0, 0⟩ 0 0 0 0 = .agg #[.int .u8 0, .int .u8 0, .int .u8 0, .int .i16 0, .int .i32 0] by kernel_rfl)
          have e2 := hid (show mkE ⟨1, 8, 0, false, true, 0, 0, 0, 0⟩ 0 0 0 0 = 1 by kernel_rfl)
          have v3 := hid (show mkV r0 0 0 0 0 = .agg #[.int .u8 0, .int .u8 0, .int .u8 0, .int .i16 0, .int .i32 0] by kernel_rfl)
          have e3 := hid (show mkE r0 0 0 0 0 = 1 by kernel_rfl)
          go_wp2_with fail
          refine (make_is v1.out e1.out _ (by decide) (by decide) (by decide) (by decide) (by decide) (by decide) (by decide) (by decide) (by decide) (by decide) X.out.sz).mono ?_
          rintro e w1 ⟨rfl, b1⟩
          have X1 := hid (Bx.next b1 X.out)
          clear b1 X
          go_wp2_with fail
          refine (make_is v2.out e2.out _ (by decide) (by decide) (by decide) (by decide) (by decide) (by decide) (by decide) (by decide) (by decide) (by decide) (X1.out.sz.alloc _)).mono ?_
          rintro e w2 ⟨rfl, b2⟩
          have a0 : w2.cell? ⟨w1.heap.size, 0, none⟩ = some (.int .u8 85) := cn b2 (by simp)
          have a1 : w2.cell? ⟨w1.heap.size, 1, none⟩ = some (.int .u8 3) := cn b2 (by simp)
          have a2 : w2.cell? ⟨w1.heap.size, 2, none⟩ = some (.int .u8 0) := cn b2 (by simp)
          have a3 : w2.cell? ⟨w1.heap.size, 3, none⟩ = some (.int .i16 7) := cn b2 (by simp)
          have a4 : w2.cell? ⟨w1.heap.size, 4, none⟩ = some (.int .i32 0) := cn b2 (by simp)
          have q2 : w1.heap.size < w2.heap.size := by have := b2.size; simp at this; omega
          have X2 := hid (Bx.next b2 (Bx.next ((Below.refl w1.heap.size w1).alloc (Nat.le_refl _) _) X1.out))
          clear b2 X1
          go_wp2_with fail
          refine (make_is v3.out e3.out _ (by decide) (by decide) (by decide) (by decide) (by decide) (by decide) (by decide) (by decide) (by decide) (by decide) (X2.out.sz.alloc _)).mono ?_
          rintro e w3 ⟨rfl, b3⟩
          have a0' : w3.cell? ⟨w1.heap.size, 0, none⟩ = some (.int .u8 85) := cn b3 (cna _ a0)
          have a1' : w3.cell? ⟨w1.heap.size, 1, none⟩ = some (.int .u8 3) := cn b3 (cna _ a1)
          have a2' : w3.cell? ⟨w1.heap.size, 2, none⟩ = some (.int .u8 0) := cn b3 (cna _ a2)
          have a3' : w3.cell? ⟨w1.heap.size, 3, none⟩ = some (.int .i16 7) := cn b3 (cna _ a3)
          have a4' : w3.cell? ⟨w1.heap.size, 4, none⟩ = some (.int .i32 0) := cn b3 (cna _ a4)
          clear a0 a1 a2 a3 a4
          have a0 := a0'
          have a1 := a1'
          have a2 := a2'
          have a3 := a3'
          have a4 := a4'
          clear a0' a1' a2' a3' a4'
          have q3 : w1.heap.size < w3.heap.size := by have := b3.size; simp at this; omega
          have X3 := hid (Bx.next b3 (Bx.next ((Below.refl w2.heap.size w2).alloc (Nat.le_refl _) _) X2.out))
          clear b3 X2 q2
          go_wp2_with fail
          refine (decode_s _ 7 _ _ (by omega)).mono ?_
          rintro e w4 ⟨rfl, b4⟩
          have a0' : w4.cell? ⟨w1.heap.size, 0, none⟩ = some (.int .u8 85) := cn b4 (cna _ (cna _ a0))
          have a1' : w4.cell? ⟨w1.heap.size, 1, none⟩ = some (.int .u8 3) := cn b4 (cna _ (cna _ a1))
          have a2' : w4.cell? ⟨w1.heap.size, 2, none⟩ = some (.int .u8 0) := cn b4 (cna _ (cna _ a2))
          have a3' : w4.cell? ⟨w1.heap.size, 3, none⟩ = some (.int .i16 7) := cn b4 (cna _ (cna _ a3))
          have a4' : w4.cell? ⟨w1.heap.size, 4, none⟩ = some (.int .i32 0) := cn b4 (cna _ (cna _ a4))
          clear a0 a1 a2 a3 a4
          have a0 := a0'
          have a1 := a1'
          have a2 := a2'
          have a3 := a3'
          have a4 := a4'
          clear a0' a1' a2' a3' a4'
          have q4 : w1.heap.size < w4.heap.size := by have := b4.size; simp at this; omega
          have X4 := hid (Bx.next b4 (Bx.next ((Below.refl _ _).alloc (Nat.le_refl _) _) (Bx.next ((Below.refl w3.heap.size w3).alloc (Nat.le_refl _) _) X3.out)))
          clear b4 X3 q3
          simp only [insV]
          go_wp2_with fail
          refine (decode_l _ 9 _ _ (by omega)).mono ?_
          rintro e w5 ⟨rfl, b5⟩
          have a0' : w5.cell? ⟨w1.heap.size, 0, none⟩ = some (.int .u8 85) := cn b5 (cna _ (cna _ a0))
          have a1' : w5.cell? ⟨w1.heap.size, 1, none⟩ = some (.int .u8 3) := cn b5 (cna _ (cna _ a1))
          have a2' : w5.cell? ⟨w1.heap.size, 2, none⟩ = some (.int .u8 0) := cn b5 (cna _ (cna _ a2))
          have a3' : w5.cell? ⟨w1.heap.size, 3, none⟩ = some (.int .i16 7) := cn b5 (cna _ (cna _ a3))
          have a4' : w5.cell? ⟨w1.heap.size, 4, none⟩ = some (.int .i32 0) := cn b5 (cna _ (cna _ a4))
          clear a0 a1 a2 a3 a4
          have a0 := a0'
          have a1 := a1'
          have a2 := a2'
          have a3 := a3'
          have a4 := a4'
          clear a0' a1' a2' a3' a4'
          have q5 : w1.heap.size < w5.heap.size := by have := b5.size; simp at this; omega
          have X5 := hid (Bx.next b5 (Bx.next ((Below.refl _ _).alloc (Nat.le_refl _) _) (Bx.next ((Below.refl w4.heap.size w4).alloc (Nat.le_refl _) _) X4.out)))
          clear b5 X4 q4
          simp only [insV]
          go_wp2_with fail
          refine (encode_no 0 16 0 0 0 _ (by decide) (by decide) (by decide) (by decide) (by decide) (by decide) (by decide) (by decide) (by decide) (by decide) (.inl (by decide))).mono ?_
          rintro e w6 ⟨rfl, b6⟩
          have a0' : w6.cell? ⟨w1.heap.size, 0, none⟩ = some (.int .u8 85) := cn b6 (cna _ a0)
          have a1' : w6.cell? ⟨w1.heap.size, 1, none⟩ = some (.int .u8 3) := cn b6 (cna _ a1)
          have a2' : w6.cell? ⟨w1.heap.size, 2, none⟩ = some (.int .u8 0) := cn b6 (cna _ a2)
          have a3' : w6.cell? ⟨w1.heap.size, 3, none⟩ = some (.int .i16 7) := cn b6 (cna _ a3)
          have a4' : w6.cell? ⟨w1.heap.size, 4, none⟩ = some (.int .i32 0) := cn b6 (cna _ a4)
          clear a0 a1 a2 a3 a4
          have a0 := a0'
          have a1 := a1'
          have a2 := a2'
          have a3 := a3'
          have a4 := a4'
          clear a0' a1' a2' a3' a4'
          have q6 : w1.heap.size < w6.heap.size := by have := b6.size; simp at this; omega
          have X6 := hid (Bx.next b6 (Bx.next ((Below.refl w5.heap.size w5).alloc (Nat.le_refl _) _) X5.out))
          clear b6 X5 q5
          go_wp2_with fail
          refine (ureads_is (L := [0]) 149 0 0 0 0 (by kernel_rfl) _ (by decide) (by decide) (by decide) (by decide) (by decide) (by decide) (by decide) (by decide) (by decide) (by decide) X6.out.sz).mono ?_
          rintro e w7 ⟨v7, rfl, own7⟩
          have b7 := own7.2
          obtain ⟨p7, cap7, rfl, hs7⟩ := own_ints own7
          clear own7
          have a0' : w7.cell? ⟨w1.heap.size, 0, none⟩ = some (.int .u8 85) := cn b7 a0
          have a1' : w7.cell? ⟨w1.heap.size, 1, none⟩ = some (.int .u8 3) := cn b7 a1
          have a2' : w7.cell? ⟨w1.heap.size, 2, none⟩ = some (.int .u8 0) := cn b7 a2
          have a3' : w7.cell? ⟨w1.heap.size, 3, none⟩ = some (.int .i16 7) := cn b7 a3
          have a4' : w7.cell? ⟨w1.heap.size, 4, none⟩ = some (.int .i32 0) := cn b7 a4
          clear a0 a1 a2 a3 a4
          have a0 := a0'
          have a1 := a1'
          have a2 := a2'
          have a3 := a3'
          have a4 := a4'
          clear a0' a1' a2' a3' a4'
          have q7 : w1.heap.size < w7.heap.size := by have := b7.size; omega
          have X7 := hid (Bx.next b7 X6.out)
          clear b7 X6 q6
          go_wp2_with fail
          refine (ureads_is (L := [1, 2]) 15 2 1 0 0 (by kernel_rfl) _ (by decide) (by decide) (by decide) (by decide) (by decide) (by decide) (by decide) (by decide) (by decide) (by decide) X7.out.sz).mono ?_
          rintro e w8 ⟨v8, rfl, own8⟩
          have b8 := own8.2
          obtain ⟨p8, cap8, rfl, hs8⟩ := own_ints own8
          clear own8
          have a0' : w8.cell? ⟨w1.heap.size, 0, none⟩ = some (.int .u8 85) := cn b8 a0
          have a1' : w8.cell? ⟨w1.heap.size, 1, none⟩ = some (.int .u8 3) := cn b8 a1
          have a2' : w8.cell? ⟨w1.heap.size, 2, none⟩ = some (.int .u8 0) := cn b8 a2
          have a3' : w8.cell? ⟨w1.heap.size, 3, none⟩ = some (.int .i16 7) := cn b8 a3
          have a4' : w8.cell? ⟨w1.heap.size, 4, none⟩ = some (.int .i32 0) := cn b8 a4
          clear a0 a1 a2 a3 a4
          have a0 := a0'
          have a1 := a1'
          have a2 := a2'
          have a3 := a3'
          have a4 := a4'
          clear a0' a1' a2' a3' a4'
          have q8 : w1.heap.size < w8.heap.size := by have := b8.size; omega
          have X8 := hid (Bx.next b8 X7.out)
          have hs7' := hs7.below b8
          clear b8 X7 q7 hs7
          obtain ⟨_, hs7⟩ := hs7'
          obtain ⟨g7, f7, rfl, _, hc7⟩ := hs7.resolve_left (by decide)
          obtain ⟨_, hs8⟩ := hs8
          obtain ⟨g8, f8, rfl, _, hc8⟩ := hs8.resolve_left (by decide)
          have y0 : w8.cell? ⟨g7, f7, none⟩ = some (.int .i64 0) := hc7 0 (by decide)
          have z0 : w8.cell? ⟨g8, f8, none⟩ = some (.int .i64 1) := hc8 0 (by decide)
          have z1 : w8.cell? ⟨g8, f8 + 1, none⟩ = some (.int .i64 2) := hc8 1 (by decide)
          clear hc7 hc8 hs7 hs8
          go_wp2_with fail
          refine (uwrites_is (N := 0) 133 0 0 0 0 (by kernel_rfl) _ (by decide) (by decide) (by decide) (by decide) (by decide) (by decide) (by decide) (by decide) (by decide) (by decide) X8.out.sz).mono ?_
          rintro e w9 ⟨rfl, b9⟩
          have a0' : w9.cell? ⟨w1.heap.size, 0, none⟩ = some (.int .u8 85) := cn b9 a0
          have a1' : w9.cell? ⟨w1.heap.size, 1, none⟩ = some (.int .u8 3) := cn b9 a1
          have a2' : w9.cell? ⟨w1.heap.size, 2, none⟩ = some (.int .u8 0) := cn b9 a2
          have a3' : w9.cell? ⟨w1.heap.size, 3, none⟩ = some (.int .i16 7) := cn b9 a3
          have a4' : w9.cell? ⟨w1.heap.size, 4, none⟩ = some (.int .i32 0) := cn b9 a4
          clear a0 a1 a2 a3 a4
          have a0 := a0'
          have a1 := a1'
          have a2 := a2'
          have a3 := a3'
          have a4 := a4'
          clear a0' a1' a2' a3' a4'
          have X9 := hid (Bx.next b9 X8.out)
          clear b9 X8 y0 z0 z1
          go_wp2_with fail
          refine (uplaces_is (N := 2) 24 0 0 0 0 (by kernel_rfl) _ (by decide) (by decide) (by decide) (by decide) (by decide) (by decide) (by decide) (by decide) (by decide) (by decide) X9.out.sz).mono ?_
          rintro e w10 ⟨rfl, b10⟩
          have a0' : w10.cell? ⟨w1.heap.size, 0, none⟩ = some (.int .u8 85) := cn b10 a0
          have a1' : w10.cell? ⟨w1.heap.size, 1, none⟩ = some (.int .u8 3) := cn b10 a1
          have a2' : w10.cell? ⟨w1.heap.size, 2, none⟩ = some (.int .u8 0) := cn b10 a2
          have a3' : w10.cell? ⟨w1.heap.size, 3, none⟩ = some (.int .i16 7) := cn b10 a3
          have a4' : w10.cell? ⟨w1.heap.size, 4, none⟩ = some (.int .i32 0) := cn b10 a4
          clear a0 a1 a2 a3 a4
          have a0 := a0'
          have a1 := a1'
          have a2 := a2'
          have a3 := a3'
          have a4 := a4'
          clear a0' a1' a2' a3' a4'
          have X10 := hid (Bx.next b10 X9.out)
          clear b10 X9
          go_wp2_with fail
          refine (wakes_any _ X10.out.sz).mono ?_
          rintro e w11 ⟨rfl, b11⟩
          have X11 := hid (Bx.next b11 X10.out)
          clear b11
          go_wp2
          go_ret
          exact ⟨rfl, X11.out.2⟩
end Go.Proofs.YtkapbeipjjcalaaDoor
