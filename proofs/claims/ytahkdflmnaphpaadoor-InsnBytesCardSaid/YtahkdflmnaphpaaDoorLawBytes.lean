/-
  Law InsnBytes: the bytes that insn.Encode makes of any instruction are those that the document's own Encode makes; what the caller writes into an answer shows in no later one. The table of sizes is as start-up lays it (the card ties it); no other condition.
-/
import Derived.Test.YtahkdflmnaphpaaDoorInsnW
import Derived.Test.YtahkdflmnaphpaaDoorInsnK
import Derived.Test.YtahkdflmnaphpaaDoorInsnE
namespace Go.Proofs.YtahkdflmnaphpaaDoor
set_option linter.unusedSimpArgs false
set_option linter.unusedVariables false
open Go.ChangeShapes Go.WideShapes Go.ChangeAt Go.RowKit Go.Joins Go.Deep

theorem encB_bd {op dst src off imm : Int} (h0 : 0 ≤ op) (h1 : op < 256) (d0 : 0 ≤ dst) (d1 : dst ≤ 15) (s0 : 0 ≤ src) (s1 : src ≤ 15) : ∀ z ∈ encB op dst src off imm, 0 ≤ z ∧ z < 256 := by
  intro z hz
  simp only [encB, List.mem_cons, List.not_mem_nil, or_false] at hz
  rcases hz with rfl | rfl | rfl | rfl | rfl | rfl | rfl | rfl <;> omega
theorem cell_of_bytes {w : World} {g : Nat} {l : List Int} {t : TypeId} (h : w.heap[g]? = some (.cells (bytesV l) t (0, 0))) (j : Nat) (hj : j < l.length) : w.cell? ⟨g, 0 + j, none⟩ = some (.int .u8 (l.getD j 0)) := by
  rw [cell_of_row w g (0 + j) _ _ _ h]
  unfold bytesV
  simp [List.getElem?_eq_getElem hj]
theorem bytesSl {w : World} {g : Nat} {l : List Int} {t : TypeId} (hl : l.length = 8) (hz : ∀ z ∈ l, 0 ≤ z ∧ z < 256) (hg : g < w.heap.size) (h : w.heap[g]? = some (.cells (bytesV l) t (0, 0))) : ByteSl w (some ⟨g, 0, none⟩) 8 l :=
  ⟨hl, hz, .inr ⟨g, 0, rfl, hg, fun j hj => cell_of_bytes h j (by omega)⟩⟩
theorem block_set {w : World} {g : Nat} {cs : Array Value} {t : TypeId} (h : w.heap[g]? = some (.cells cs t (0, 0))) (i : Nat) (u : Value) : (w.setCell ⟨g, i, none⟩ u).heap[g]? = some (.cells (cs.setIfInBounds i u) t (0, 0)) := by
  simp [World.setCell, Array.getElem?_modify, h]
theorem block_frozen {w : World} {g : Nat} {cs : Array Value} {t : TypeId} (h : w.heap[g]? = some (.cells cs t (0, 0))) (i : Nat) : w.frozen? ⟨g, i, none⟩ = false := by
  simp [World.frozen?, h]

set_option maxHeartbeats 2000000 in
theorem insnBytes_no (op dst src off imm : Int) (h0 : 0 ≤ op) (h1 : op < 256) (d0 : 0 ≤ dst) (d1 : dst < 256) (s0 : 0 ≤ src) (s1 : src < 256) (o0 : -32768 ≤ off) (o1 : off < 32768) (m0 : -2147483648 ≤ imm) (m1 : imm < 2147483648) (w : World) (hz : SzOk w) (hx : 15 < dst ∨ 15 < src) : Calls Tryd.prog 6 #[.agg #[.int .u8 op, .int .u8 dst, .int .u8 src, .int .i16 off, .int .i32 imm]] w fun e w' => e = .returned (.bool true) ∧ Below w.heap.size w w' := by
  have HE := hid fun W => encode_no op dst src off imm W h0 h1 d0 d1 s0 s1 o0 o1 m0 m1 hx
  have HF := hid fun W => rencode_no op dst src off imm W h0 h1 d0 d1 s0 s1 o0 o1 m0 m1 hx
  have HS := hid fun (W : World) => same_yes none none 0 0 0 [] W (by omega) ⟨rfl, by simp, .inl rfl⟩ ⟨rfl, by simp, .inl rfl⟩
  clear hx
  have HZ := hid hz
  have HB1 := hid ((Below.refl w.heap.size w).alloc (Nat.le_refl _) (.cells #[.int .u8 op, .int .u8 dst, .int .u8 src, .int .i16 off, .int .i32 imm] 24))
  clear hz
  go_enter Tryd.func6, Tryd.ntmps6
  go_wp2
  go_loopw [3] (fun t wr => ∃ k : Nat, k ≤ 2 ∧ t = .int .i64 k ∧ Hid (Below (w.heap.size + 1) (w.alloc (.cells #[.int .u8 op, .int .u8 dst, .int .u8 src, .int .i16 off, .int .i32 imm] 24)) wr)) (fun t _ => 2 - (intOf t).toNat)
  case atStart => exact ⟨0, by omega, rfl, hid (Below.refl _ _)⟩
  case round =>
    obtain ⟨k, hk, rfl, HR⟩ := hrel
    have hsz : w.heap.size < wr.heap.size := by have := HR.out.size; simp at this; omega
    have c0 : wr.cell? ⟨w.heap.size, 0, none⟩ = some (.int .u8 op) := (HR.out.cell (p := ⟨w.heap.size, 0, none⟩) (by simp)).trans (by simp)
    have c1 : wr.cell? ⟨w.heap.size, 1, none⟩ = some (.int .u8 dst) := (HR.out.cell (p := ⟨w.heap.size, 1, none⟩) (by simp)).trans (by simp)
    have c2 : wr.cell? ⟨w.heap.size, 2, none⟩ = some (.int .u8 src) := (HR.out.cell (p := ⟨w.heap.size, 2, none⟩) (by simp)).trans (by simp)
    have c3 : wr.cell? ⟨w.heap.size, 3, none⟩ = some (.int .i16 off) := (HR.out.cell (p := ⟨w.heap.size, 3, none⟩) (by simp)).trans (by simp)
    have c4 : wr.cell? ⟨w.heap.size, 4, none⟩ = some (.int .i32 imm) := (HR.out.cell (p := ⟨w.heap.size, 4, none⟩) (by simp)).trans (by simp)
    by_cases hlt : k < 2
    · go_wp2_with fail
      refine (HE.out _).mono ?_
      rintro e w2 ⟨rfl, b2⟩
      have e0 : w2.cell? ⟨w.heap.size, 0, none⟩ = some (.int .u8 op) := (b2.cell (p := ⟨w.heap.size, 0, none⟩) hsz).trans c0
      have e1 : w2.cell? ⟨w.heap.size, 1, none⟩ = some (.int .u8 dst) := (b2.cell (p := ⟨w.heap.size, 1, none⟩) hsz).trans c1
      have e2 : w2.cell? ⟨w.heap.size, 2, none⟩ = some (.int .u8 src) := (b2.cell (p := ⟨w.heap.size, 2, none⟩) hsz).trans c2
      have e3 : w2.cell? ⟨w.heap.size, 3, none⟩ = some (.int .i16 off) := (b2.cell (p := ⟨w.heap.size, 3, none⟩) hsz).trans c3
      have e4 : w2.cell? ⟨w.heap.size, 4, none⟩ = some (.int .i32 imm) := (b2.cell (p := ⟨w.heap.size, 4, none⟩) hsz).trans c4
      clear c0 c1 c2 c3 c4
      have HB2 := hid b2
      clear b2
      go_wp2_with fail
      refine (HF.out _).mono ?_
      rintro e w3 ⟨rfl, b3⟩
      have HB3 := hid b3
      clear b3 e0 e1 e2 e3 e4
      go_wp2_with fail
      refine (HS.out _).mono ?_
      rintro e w4 ⟨rfl, b4⟩
      have HB4 := hid (HR.out.trans ((below_next (below_next HB2.out HB3.out) b4).mono (by omega)))
      clear b4
      go_wp2
      refine wp_loop_rounds 1 ?_
      rw [rounds_succ]
      go_wp2
      go_roundw
      case rel => first | exact ⟨k + 1, by omega, by go_num, HB4⟩ | ((repeat apply Exists.intro); exact ⟨⟨k + 1, by omega, by go_num, HB4⟩, rfl⟩)
      case measure => simp [intOf]; omega
    · obtain rfl : k = 2 := by omega
      clear c0 c1 c2 c3 c4 hlt hk hsz
      have HW := hid (HB1.out.trans (HR.out.mono (by omega)))
      go_wp2_with fail
      refine (wakes_any _ (HZ.out.below HW.out)).mono ?_
      rintro e w5 ⟨rfl, b5⟩
      have HB5 := hid b5
      clear b5
      go_wp2
      go_ret
      exact ⟨rfl, below_next HW.out HB5.out⟩

set_option maxHeartbeats 2000000 in
theorem insnBytes_yes (op dst src off imm : Int) (h0 : 0 ≤ op) (h1 : op < 256) (d0 : 0 ≤ dst) (d1 : dst < 256) (s0 : 0 ≤ src) (s1 : src < 256) (o0 : -32768 ≤ off) (o1 : off < 32768) (m0 : -2147483648 ≤ imm) (m1 : imm < 2147483648) (w : World) (hz : SzOk w) (x1 : dst ≤ 15) (x2 : src ≤ 15) : Calls Tryd.prog 6 #[.agg #[.int .u8 op, .int .u8 dst, .int .u8 src, .int .i16 off, .int .i32 imm]] w fun e w' => e = .returned (.bool true) ∧ Below w.heap.size w w' := by
  have HE := hid fun W => encode_yes op dst src off imm W h0 h1 d0 x1 s0 x2 o0 o1 m0 m1
  have HF := hid fun W => rencode_yes op dst src off imm W h0 h1 d0 x1 s0 x2 o0 o1 m0 m1
  have HL := hid (show (encB op dst src off imm).length = 8 from rfl)
  have HY := hid (encB_bd (off := off) (imm := imm) h0 h1 d0 x1 s0 x2)
  generalize encB op dst src off imm = l at HE HF HL HY
  have HZ := hid hz
  have HB1 := hid ((Below.refl w.heap.size w).alloc (Nat.le_refl _) (.cells #[.int .u8 op, .int .u8 dst, .int .u8 src, .int .i16 off, .int .i32 imm] 24))
  clear hz
  go_enter Tryd.func6, Tryd.ntmps6
  go_wp2
  go_loopw [3] (fun t wr => ∃ k : Nat, k ≤ 2 ∧ t = .int .i64 k ∧ Hid (Below (w.heap.size + 1) (w.alloc (.cells #[.int .u8 op, .int .u8 dst, .int .u8 src, .int .i16 off, .int .i32 imm] 24)) wr)) (fun t _ => 2 - (intOf t).toNat)
  case atStart => exact ⟨0, by omega, rfl, hid (Below.refl _ _)⟩
  case round =>
    obtain ⟨k, hk, rfl, HR⟩ := hrel
    have hsz : w.heap.size < wr.heap.size := by have := HR.out.size; simp at this; omega
    have c0 : wr.cell? ⟨w.heap.size, 0, none⟩ = some (.int .u8 op) := (HR.out.cell (p := ⟨w.heap.size, 0, none⟩) (by simp)).trans (by simp)
    have c1 : wr.cell? ⟨w.heap.size, 1, none⟩ = some (.int .u8 dst) := (HR.out.cell (p := ⟨w.heap.size, 1, none⟩) (by simp)).trans (by simp)
    have c2 : wr.cell? ⟨w.heap.size, 2, none⟩ = some (.int .u8 src) := (HR.out.cell (p := ⟨w.heap.size, 2, none⟩) (by simp)).trans (by simp)
    have c3 : wr.cell? ⟨w.heap.size, 3, none⟩ = some (.int .i16 off) := (HR.out.cell (p := ⟨w.heap.size, 3, none⟩) (by simp)).trans (by simp)
    have c4 : wr.cell? ⟨w.heap.size, 4, none⟩ = some (.int .i32 imm) := (HR.out.cell (p := ⟨w.heap.size, 4, none⟩) (by simp)).trans (by simp)
    by_cases hlt : k < 2
    · go_wp2_with fail
      refine (HE.out _).mono ?_
      rintro e w2 ⟨g, rfl, b2, hg1, hg2, hblk⟩
      have e0 : w2.cell? ⟨w.heap.size, 0, none⟩ = some (.int .u8 op) := (b2.cell (p := ⟨w.heap.size, 0, none⟩) hsz).trans c0
      have e1 : w2.cell? ⟨w.heap.size, 1, none⟩ = some (.int .u8 dst) := (b2.cell (p := ⟨w.heap.size, 1, none⟩) hsz).trans c1
      have e2 : w2.cell? ⟨w.heap.size, 2, none⟩ = some (.int .u8 src) := (b2.cell (p := ⟨w.heap.size, 2, none⟩) hsz).trans c2
      have e3 : w2.cell? ⟨w.heap.size, 3, none⟩ = some (.int .i16 off) := (b2.cell (p := ⟨w.heap.size, 3, none⟩) hsz).trans c3
      have e4 : w2.cell? ⟨w.heap.size, 4, none⟩ = some (.int .i32 imm) := (b2.cell (p := ⟨w.heap.size, 4, none⟩) hsz).trans c4
      clear c0 c1 c2 c3 c4
      have HB2 := hid b2
      have HK := hid hblk
      clear b2 hblk
      go_wp2_with fail
      refine (HF.out _).mono ?_
      rintro e w3 ⟨g', rfl, b3, hg3, hg4, hblk'⟩
      have HB3 := hid b3
      have HK3 := hid ((b3.block g hg2).trans HK.out)
      have HA := hid (bytesSl HL.out HY.out (Nat.lt_of_lt_of_le hg2 b3.size) HK3.out)
      have HA' := hid (bytesSl HL.out HY.out hg4 hblk')
      have hg5 : g < w3.heap.size := Nat.lt_of_lt_of_le hg2 b3.size
      clear b3 hblk' e0 e1 e2 e3 e4
      go_wp2_with fail
      refine (same_yes _ _ 8 _ _ l _ (by omega) HA.out HA'.out).mono ?_
      rintro e w4 ⟨rfl, b4⟩
      have HB4 := hid (HR.out.trans ((below_next (below_next HB2.out HB3.out) b4).mono (by omega)))
      have HK4 := hid ((b4.block g hg5).trans HK3.out)
      have hg6 : w.heap.size + 1 ≤ g := by omega
      have HN : Hid ((bytesV l).size = 8) := hid (by unfold bytesV; simp [HL.out])
      generalize bytesV l = cs at HK4 HN
      clear b4 HA HA' HK HK3 hg1 hg2 hg3 hg4 hg5 hsz
      go_wp2
      obtain ⟨wo, rfl⟩ : ∃ wo : World, wo = wr := ⟨_, rfl⟩
      go_loopw [8] (fun t wr => ∃ j : Nat, j ≤ 8 ∧ t = .int .i64 j ∧ Hid (Below (w.heap.size + 1) (w.alloc (.cells #[.int .u8 op, .int .u8 dst, .int .u8 src, .int .i16 off, .int .i32 imm] 24)) wr) ∧ Hid (∃ cs : Array Value, wr.heap[g]? = some (.cells cs 5 (0, 0)) ∧ cs.size = 8)) (fun t _ => 8 - (intOf t).toNat)
      case atStart => exact ⟨0, by omega, rfl, HB4, hid ⟨cs, HK4.out, HN.out⟩⟩
      case round =>
        clear HB4 HK4 HN
        obtain ⟨j, hj, rfl, HB4, HK4⟩ := hrel
        obtain ⟨cs', hk4, hn4⟩ := HK4.out
        by_cases hjlt : j < 8
        · have r1 : wr.cell? ⟨g, j, none⟩ = some cs'[j] := by rw [cell_of_row wr g j _ _ _ hk4]; simp
          have r2 : wr.frozen? ⟨g, j, none⟩ = false := block_frozen hk4 j
          have HB5 := hid (HB4.out.setCell (p := ⟨g, j, none⟩) hg6 (.int .u8 90))
          have HK5 := hid (show ∃ cs : Array Value, (wr.setCell ⟨g, j, none⟩ (.int .u8 90)).heap[g]? = some (.cells cs 5 (0, 0)) ∧ cs.size = 8 from ⟨_, block_set hk4 j _, by simpa using hn4⟩)
          generalize cs'[j] = z at r1
          have hli : (j : Int) < 8 := by omega
          have hl0 : 0 ≤ (j : Int) := by omega
          clear hk4 hn4 HK4
          go_wp2
          go_roundw
          case rel => first | exact ⟨j + 1, by omega, by go_num, HB5, HK5⟩ | ((repeat apply Exists.intro); exact ⟨⟨j + 1, by omega, by go_num, HB5, HK5⟩, rfl⟩)
          case measure => simp [intOf]; omega
        · obtain rfl : j = 8 := by omega
          clear hk4 hn4 HK4 hjlt
          go_wp2
          go_roundw
          case rel => first | exact ⟨k + 1, by omega, by go_num, HB4⟩ | ((repeat apply Exists.intro); exact ⟨⟨k + 1, by omega, by go_num, HB4⟩, rfl⟩)
          case measure => simp [intOf]; omega
    · obtain rfl : k = 2 := by omega
      clear c0 c1 c2 c3 c4 hlt hk hsz
      have HW := hid (HB1.out.trans (HR.out.mono (by omega)))
      go_wp2_with fail
      refine (wakes_any _ (HZ.out.below HW.out)).mono ?_
      rintro e w5 ⟨rfl, b5⟩
      have HB5 := hid b5
      clear b5
      go_wp2
      go_ret
      exact ⟨rfl, below_next HW.out HB5.out⟩

theorem insnBytes_walk (op dst src off imm : Int) (h0 : 0 ≤ op) (h1 : op < 256) (d0 : 0 ≤ dst) (d1 : dst < 256) (s0 : 0 ≤ src) (s1 : src < 256) (o0 : -32768 ≤ off) (o1 : off < 32768) (m0 : -2147483648 ≤ imm) (m1 : imm < 2147483648) (w : World) (hz : SzOk w) : Calls Tryd.prog 6 #[.agg #[.int .u8 op, .int .u8 dst, .int .u8 src, .int .i16 off, .int .i32 imm]] w fun e w' => e = .returned (.bool true) ∧ Below w.heap.size w w' := by
  by_cases hx : 15 < dst ∨ 15 < src
  · exact insnBytes_no op dst src off imm h0 h1 d0 d1 s0 s1 o0 o1 m0 m1 w hz hx
  · exact insnBytes_yes op dst src off imm h0 h1 d0 d1 s0 s1 o0 o1 m0 m1 w hz (by omega) (by omega)


/-! ### InsnBytes -/
namespace insnBytes
set_option maxRecDepth 100000 in
theorem contract (H : Type) (enc : TypeId × Value → H) (W : World) (base : Nat) (args : Array Value) (ds gs : List (DataW H)) (before : List MemPlace)
    (hval : ∀ (j : Nat) t v, Tryd.f6.params[j]? = some t → args[j]? = some v → Value.okWide Tryd.prog W .any base t v)
    (hW : DataW.Whole enc Tryd.prog Tryd.f6.params.toList Rows.insnBytesSpec.vars false W args.toList ds gs before) (hL : laidMetH Tryd.prog Rows.insnBytesRow.laid W)
    (hsz : (DataW.weightsEach Tryd.prog (Tryd.f6.params.toList ++ (OpenSpec.ofChange Rows.insnBytesSpec).bare.plain.varTypes Tryd.prog) (ds ++ gs)).all (· ≤ reachBytes) = true) :
    Calls Tryd.prog 6 args W fun e W' => ∃ v, e = .returned v ∧ Rows.insnBytesSpec.post enc Tryd.prog Tryd.f6 false true false false W args v W' := by
  have hW' := hW
  obtain ⟨p, q, hA0, hV, rfl, hfz, hnd⟩ := hW
  have hA : DataW.TrodAll enc Tryd.prog W 0 (fun _ => true) true Tryd.f6.params.toList args.toList ds p := hA0
  rw [Tryd.params6] at hA hval
  obtain ⟨v0, vs0, d0, ds0, p0, q0, hargs, rfl, rfl, h0, r0⟩ := trodAll_cons hA
  obtain ⟨rfl, rfl, rfl⟩ := trodAll_nil r0
  obtain rfl : args = #[v0] := by cases args; simp_all
  obtain ⟨rfl, rfl⟩ := trodVars_none hV
  obtain ⟨cs0, rfl, z0, g0⟩ := open_struct Tryd.underlying24 (by kernel_rfl) (hval 0 24 v0 rfl rfl) h0
  obtain ⟨x0_0, x0_1, x0_2, x0_3, x0_4, rfl⟩ := array5_of (z0.trans (show Tryd.prog.cellsOf 24 = 5 by kernel_rfl))
  obtain ⟨_, y0_0, t0_0⟩ := g0 0 _ _ rfl rfl
  obtain ⟨op, e0_0, _, wop⟩ := DataW.trod_int (k := .u8) Tryd.underlying5 t0_0
  obtain rfl := (List.cons.inj e0_0).1
  obtain ⟨_, y0_1, t0_1⟩ := g0 1 _ _ rfl rfl
  obtain ⟨dst, e0_1, _, wdst⟩ := DataW.trod_int (k := .u8) Tryd.underlying5 t0_1
  obtain rfl := (List.cons.inj e0_1).1
  obtain ⟨_, y0_2, t0_2⟩ := g0 2 _ _ rfl rfl
  obtain ⟨src, e0_2, _, wsrc⟩ := DataW.trod_int (k := .u8) Tryd.underlying5 t0_2
  obtain rfl := (List.cons.inj e0_2).1
  obtain ⟨_, y0_3, t0_3⟩ := g0 3 _ _ rfl rfl
  obtain ⟨off, e0_3, _, woff⟩ := DataW.trod_int (k := .i16) Tryd.underlying22 t0_3
  obtain rfl := (List.cons.inj e0_3).1
  obtain ⟨_, y0_4, t0_4⟩ := g0 4 _ _ rfl rfl
  obtain ⟨imm, e0_4, _, wimm⟩ := DataW.trod_int (k := .i32) Tryd.underlying21 t0_4
  obtain rfl := (List.cons.inj e0_4).1
  obtain ⟨lo_op, hi_op⟩ := bounds_u8 wop
  obtain ⟨lo_dst, hi_dst⟩ := bounds_u8 wdst
  obtain ⟨lo_src, hi_src⟩ := bounds_u8 wsrc
  obtain ⟨lo_off, hi_off⟩ := bounds_i16 woff
  obtain ⟨lo_imm, hi_imm⟩ := bounds_i32 wimm
  clear hA0
  refine (insnBytes_walk op dst src off imm lo_op (by omega) lo_dst (by omega) lo_src (by omega) lo_off (by omega) lo_imm (by omega) W (sz_of_laid hL)).mono fun e W' ⟨he, hb⟩ => ?_
  subst he
  exact ⟨_, rfl, law_shut laid hW' rfl rfl Tryd.underlying4 (by kernel_rfl) rfl rfl rfl hb⟩
set_option maxRecDepth 100000 in
theorem laid_met (os : Os) : laidMet Tryd.prog Rows.insnBytesRow.laid ((laidWorld os).forCall (fun _ _ => 0) ⟨#[], #[.agg #[.int .u8 0, .int .u8 0, .int .u8 0, .int .i16 0, .int .i32 0]], []⟩).memory :=
  laidMet_of_run' 8 (by kernel_rfl) (by kernel_rfl)
set_option maxRecDepth 100000 in
theorem reads (os : Os) {H : Type} (enc : TypeId × Value → H) : ∃ places, DataW.whole enc Tryd.prog ((laidWorld os).forCall (fun _ _ => 0) ⟨#[], #[.agg #[.int .u8 0, .int .u8 0, .int .u8 0, .int .i16 0, .int .i32 0]], []⟩).memory Tryd.f6.params.toList Rows.insnBytesSpec.vars false (#[.agg #[.int .u8 0, .int .u8 0, .int .u8 0, .int .i16 0, .int .i32 0]] : Array Value).toList 8 = some ([.agg [.lit (.int .u8 0), .lit (.int .u8 0), .lit (.int .u8 0), .lit (.int .i16 0), .lit (.int .i32 0)]], [], places) :=
  ⟨[], by kernel_rfl⟩
set_option maxRecDepth 100000 in
theorem lifted (os : Os) (started : os.Started) (H : Type) (enc : TypeId × Value → H) (F : Stop.Interp) :
    ReturnsInHanded {} Tryd.checked os 6 .any ((OpenSpec.ofChange Rows.insnBytesSpec).preRow enc Tryd.prog Tryd.f6 Rows.insnBytesRow.domain false Rows.insnBytesRow.laid) (((OpenSpec.ofChange Rows.insnBytesSpec).at F).post enc Tryd.prog Tryd.f6 false true false false) := by
  obtain ⟨places, hx⟩ := reads os enc
  refine returnsInHanded_of_row (C := Tryd.checked) (s := OpenSpec.ofChange Rows.insnBytesSpec) own started (by kernel_rfl) Tryd.func6
    (witness_row_at (enc := enc) (C := Tryd.checked) false (laidWorld os) #[.agg #[.int .u8 0, .int .u8 0, .int .u8 0, .int .i16 0, .int .i32 0]] rfl (by kernel_rfl) (by kernel_rfl) (by kernel_rfl)
      (OpenSpec.preRow_of_cond 8 hx (by kernel_rfl) (fun k hk => by cases hk) (by kernel_rfl) (laid_met os))) ?_
  intro W base args ds gs before hval hW _ _ hsz hL _ _
  exact contract H enc W base args ds gs before hval hW hL hsz
set_option maxRecDepth 100000 in
theorem said : Rows.InsnBytesSaid :=
  OpenClaim.holds_of_cond 6 Tryd.f6 rfl rfl rfl rfl rfl rfl rfl ⟨rfl, rfl, rfl, rfl, rfl⟩ rfl rfl rfl rfl rfl (by kernel_rfl) Tryd.func6 (by kernel_rfl)
    (of_decide_eq_true (by kernel_rfl)) (by unfold Func.isWrapper; first | (rw [if_pos (by decide +kernel)]; kernel_rfl) | (rw [if_neg (by decide +kernel)]; exact ⟨rfl, rfl⟩))
    (fun os started H enc _ F => by rw [OpenClaim.pre_eq_preRow]; exact lifted os started H enc F)
theorem plain (f : FuncId) (fn : Func) (hf : Tryd.pinned.checked.prog.funcNamed "stockade/stockadelaw02.InsnBytes" = some f) (hfn : Tryd.pinned.checked.prog.funcs[f]? = some fn) :
    false = Tryd.pinned.checked.prog.looks [] ∧ ∀ (j : Nat) t, fn.params[j]? = some t → Tryd.pinned.checked.prog.wantsStandIn t = false := by
  obtain rfl : f = 6 := Option.some.inj ((show Tryd.prog.funcNamed "stockade/stockadelaw02.InsnBytes" = some 6 by kernel_rfl).symm.trans hf) |>.symm
  obtain rfl : fn = Tryd.f6 := (Option.some.inj (Tryd.func6.symm.trans hfn)).symm
  exact ⟨by kernel_rfl, plain_of (by kernel_rfl)⟩
/-- The card. -/
theorem card : Rows.InsnBytesCardSaid :=
  Claim7.holds_tied_plain_at .later [] _ _ _ _ said (fun _ h => by cases h) (by kernel_rfl) (fun _ h => by cases h) insnBytes_row_tie rfl ⟨rfl, rfl⟩ (by kernel_rfl) rfl plain (by kernel_rfl)
end insnBytes

end Go.Proofs.YtahkdflmnaphpaaDoor
