/-
  The walk of law InsnUses: the registers that any instruction reads, the one that it writes and the places that it takes are the document's. The table of sizes is as start-up lays it (the card ties it); no other condition.
-/
import Derived.Test.YtkapbeipjjcalaaDoorUseK
namespace Go.Proofs.YtkapbeipjjcalaaDoor
set_option linter.unusedSimpArgs false
set_option linter.unusedVariables false
open Go.ChangeShapes Go.WideShapes Go.ChangeAt Go.RowKit Go.Joins Go.Deep

set_option maxHeartbeats 2000000 in
theorem insnUses_walk (op dst src off imm : Int) (w : World) (h0 : 0 ≤ op) (h1 : op < 256) (d0 : 0 ≤ dst) (d1 : dst < 256) (s0 : 0 ≤ src) (s1 : src < 256) (o0 : -32768 ≤ off) (o1 : off < 32768) (m0 : -2147483648 ≤ imm) (m1 : imm < 2147483648) (hz : SzOk w) :
    Calls Tryd.prog 3 #[.agg #[.int .u8 op, .int .u8 dst, .int .u8 src, .int .i16 off, .int .i32 imm]] w fun e w' => e = .returned (.bool true) ∧ Below w.heap.size w w' := by
  have HL := hid fun W h => ureads op dst src off imm W h0 h1 d0 d1 s0 s1 o0 o1 m0 m1 h
  have HM := hid fun W => urreads op dst src off imm W h0 h1 d0 d1 s0 s1 o0 o1 m0 m1
  have HW := hid fun W h => uwrites op dst src off imm W h0 h1 d0 d1 s0 s1 o0 o1 m0 m1 h
  have HV := hid fun W => urwrites op dst src off imm W h0 h1 d0 d1 s0 s1 o0 o1 m0 m1
  have HP := hid fun W h => uplaces op dst src off imm W h0 h1 d0 d1 s0 s1 o0 o1 m0 m1 h
  have HQ := hid fun W => urplaces op dst src off imm W h0 h1 d0 d1 s0 s1 o0 o1 m0 m1
  have hlen := uL_len op dst src off imm
  generalize uL op dst src off imm = L at HL HM hlen
  generalize uW op dst src off imm = N at HW HV
  generalize uP op dst src off imm = P at HP HQ
  have HZ := hid hz
  clear hz
  go_enter Tryd.func3, Tryd.ntmps3
  go_wp2_with fail
  refine (HL.out _ (HZ.out.alloc _)).mono ?_
  rintro e w1 ⟨v, rfl, own1⟩
  have hb1 := own1.2
  obtain ⟨q, cap, rfl, hq⟩ := own_ints own1
  clear own1
  have HB := hid (Bx.next hb1 (Bx.next ((Below.refl w.heap.size w).alloc (Nat.le_refl _) _) ⟨HZ.out, Below.refl _ _⟩))
  have k0 : w1.cell? ⟨w.heap.size, 0, none⟩ = some (.int .u8 op) := cn hb1 (by simp)
  have k1 : w1.cell? ⟨w.heap.size, 1, none⟩ = some (.int .u8 dst) := cn hb1 (by simp)
  have k2 : w1.cell? ⟨w.heap.size, 2, none⟩ = some (.int .u8 src) := cn hb1 (by simp)
  have k3 : w1.cell? ⟨w.heap.size, 3, none⟩ = some (.int .i16 off) := cn hb1 (by simp)
  have k4 : w1.cell? ⟨w.heap.size, 4, none⟩ = some (.int .i32 imm) := cn hb1 (by simp)
  have HQ1 := hid hq
  clear hq hb1
  go_wp2_with fail
  refine (HM.out _).mono ?_
  rintro e w2 ⟨v2, rfl, own2⟩
  have b2 := own2.2
  obtain ⟨q2, cap2, rfl, hq2⟩ := own_ints own2
  clear own2
  have i0 : w2.cell? ⟨w.heap.size, 0, none⟩ = some (.int .u8 op) := cn b2 k0
  have i1 : w2.cell? ⟨w.heap.size, 1, none⟩ = some (.int .u8 dst) := cn b2 k1
  have i2 : w2.cell? ⟨w.heap.size, 2, none⟩ = some (.int .u8 src) := cn b2 k2
  have i3 : w2.cell? ⟨w.heap.size, 3, none⟩ = some (.int .i16 off) := cn b2 k3
  have i4 : w2.cell? ⟨w.heap.size, 4, none⟩ = some (.int .i32 imm) := cn b2 k4
  clear k0 k1 k2 k3 k4
  have HB2 := hid (Bx.next b2 HB.out)
  have HP1 := hid (HQ1.out.below b2)
  have HP2 := hid hq2
  clear b2 hq2 HB HQ1
  go_wp2
  go_loopw [5] (fun i wr => ∃ k : Nat, k ≤ L.length ∧ i = .int .i64 k ∧ Hid (Below w2.heap.size w2 wr)) (fun i _ => L.length - (intOf i).toNat)
  case atStart => exact ⟨0, by omega, rfl, hid (Below.refl _ _)⟩
  case round =>
    obtain ⟨k, hk, rfl, HR⟩ := hrel
    by_cases hlt : k < L.length
    · obtain ⟨_, c1⟩ := HP1.out
      obtain ⟨_, c2⟩ := HP2.out
      obtain ⟨b, f, rfl, hb, hc⟩ := c1.resolve_left (by omega)
      obtain ⟨b', f', rfl, hb', hc'⟩ := c2.resolve_left (by omega)
      have r1 : wr.cell? ⟨b, f + k, none⟩ = some (.int .i64 (L.getD k 0)) := (HR.out.cell (p := ⟨b, f + k, none⟩) hb).trans (hc k hlt)
      have r2 : wr.cell? ⟨b', f' + k, none⟩ = some (.int .i64 (L.getD k 0)) := (HR.out.cell (p := ⟨b', f' + k, none⟩) hb').trans (hc' k hlt)
      have hli : (k : Int) < (L.length : Int) := by omega
      have hl0 : 0 ≤ (k : Int) := by omega
      clear c1 c2 hc hc'
      generalize L.getD k 0 = z at r1 r2
      go_wp2
      go_quiet (fail)
      go_wp2
      exact ⟨⟨k + 1, by omega, by go_num, hid (below_dn HR.out _)⟩, by simp [intOf]; omega⟩
    · have hli : decide ((k : Int) < (L.length : Int)) = false := by simp; omega
      have j0 : wr.cell? ⟨w.heap.size, 0, none⟩ = some (.int .u8 op) := cn HR.out i0
      have j1 : wr.cell? ⟨w.heap.size, 1, none⟩ = some (.int .u8 dst) := cn HR.out i1
      have j2 : wr.cell? ⟨w.heap.size, 2, none⟩ = some (.int .u8 src) := cn HR.out i2
      have j3 : wr.cell? ⟨w.heap.size, 3, none⟩ = some (.int .i16 off) := cn HR.out i3
      have j4 : wr.cell? ⟨w.heap.size, 4, none⟩ = some (.int .i32 imm) := cn HR.out i4
      have X : Bx w wr := Bx.next HR.out HB2.out
      clear i0 i1 i2 i3 i4 HR HB2 HP1 HP2
      go_wp2_with fail
      go_region_held3 (fun w' => w'.cell? ⟨w.heap.size, 0, none⟩ = some (.int .u8 op) ∧ w'.cell? ⟨w.heap.size, 1, none⟩ = some (.int .u8 dst) ∧ w'.cell? ⟨w.heap.size, 2, none⟩ = some (.int .u8 src) ∧ w'.cell? ⟨w.heap.size, 3, none⟩ = some (.int .i16 off) ∧ w'.cell? ⟨w.heap.size, 4, none⟩ = some (.int .i32 imm) ∧ Bx w w')
        (first | (go_split_ands; exact ⟨cn b9 (by assumption), cn b9 (by assumption), cn b9 (by assumption), cn b9 (by assumption), cn b9 (by assumption), Bx.next b9 (by assumption)⟩) | exact ⟨cn (below_dr wr) j0, cn (below_dr wr) j1, cn (below_dr wr) j2, cn (below_dr wr) j3, cn (below_dr wr) j4, Bx.next (below_dr wr) X⟩)
        (first | (go_at_call 8; go_split_ands; refine (HW.out _ (Bx.sz (by assumption))).mono ?_; rintro e w9 ⟨rfl, b9⟩) | (go_at_call 9; refine (HV.out _).mono ?_; rintro e w9 ⟨rfl, b9⟩) | (go_at_call 10; go_split_ands; refine (HP.out _ (Bx.sz (by assumption))).mono ?_; rintro e w9 ⟨rfl, b9⟩) | (go_at_call 11; refine (HQ.out _).mono ?_; rintro e w9 ⟨rfl, b9⟩) | (go_at_call 12; go_split_ands; refine (wakes_any _ (Bx.sz (by assumption))).mono ?_; rintro e w9 ⟨rfl, b9⟩))
      go_wp2
      go_ret
      exact ⟨rfl, (show Bx w _ by go_split_ands; assumption).2⟩
end Go.Proofs.YtkapbeipjjcalaaDoor
