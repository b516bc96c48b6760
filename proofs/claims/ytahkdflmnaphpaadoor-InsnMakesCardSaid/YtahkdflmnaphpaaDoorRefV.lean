/-
  The contract of the document's own Make.
-/
import Derived.Test.YtahkdflmnaphpaaDoorInsnQ
namespace Go.Proofs.YtahkdflmnaphpaaDoor
set_option linter.unusedSimpArgs false
set_option linter.unusedVariables false
open Go.ChangeShapes Go.WideShapes Go.ChangeAt Go.RowKit

theorem rows_at : (rowsI.all fun r => decide (0 ≤ r.at_) && decide (r.at_ ≤ 64) && decide (0 ≤ r.op) && decide (r.op < 256)) = true := by kernel_rfl
def mkV (q : Rw) (dst src off imm : Int) : Value := if mkE q dst src off imm = 0 then insV (opI q) dst (mkS q src) off (mkM q imm) else insV 0 0 0 0 0
theorem mk_none {q : Rw} (h : findW q = none) (dst src off imm : Int) : mkE q dst src off imm = 1 ∧ mkV q dst src off imm = insV 0 0 0 0 0 := by
  have h1 : mkE q dst src off imm = 1 := by
    unfold mkE
    rcases found_none h src imm with a | a
    · rw [if_pos a]
    · by_cases b : whB q r0 = true
      · rw [if_pos b]
      · rw [if_neg b, if_pos a]
  exact ⟨h1, by unfold mkV; rw [h1]; rfl⟩
theorem mk_some {q : Rw} {r : RR} (h : findW q = some r) (dst src off imm : Int) :
    mkE q dst src off imm = tkE (rowI r.op (rS r src) (rM r imm)) dst (rS r src) off (rM r imm) ∧
    mkV q dst src off imm = if tkE (rowI r.op (rS r src) (rM r imm)) dst (rS r src) off (rM r imm) = 0 then insV r.op dst (rS r src) off (rM r imm) else insV 0 0 0 0 0 := by
  obtain ⟨h1, h2, h3, h4, h5⟩ := found_W h src imm
  have he : mkE q dst src off imm = tkE (rowI r.op (rS r src) (rM r imm)) dst (rS r src) off (rM r imm) := by
    unfold mkE
    rw [h1, h2, h3, h4, h5]
    rfl
  exact ⟨he, by unfold mkV; rw [he, h1, h2, h3]⟩
theorem row_bd {q : Rw} {r : RR} (h : findW q = some r) : 0 ≤ r.at_ ∧ r.at_ ≤ 64 ∧ 0 ≤ r.op ∧ r.op < 256 := by
  have hm : r ∈ rowsI := List.mem_of_find?_eq_some h
  have hc := rows_at
  rw [List.all_eq_true] at hc
  have := hc r hm
  simp only [Bool.and_eq_true, decide_eq_true_eq] at this
  exact ⟨this.1.1.1, this.1.1.2, this.1.2, this.2⟩
theorem below_dV {B : Nat} {a w : World} (h : Below B a w) (n : Nat) : Below B a (w.drewN n) := ⟨h.os, h.tape, h.output, h.size, h.block⟩

set_option maxRecDepth 100000 in
set_option maxHeartbeats 4000000 in
theorem rmake_any (q : Rw) (op dst src off imm : Int) (w : World) (h0 : 0 ≤ op) (h1 : op < 256) (d0 : 0 ≤ dst) (d1 : dst < 256) (s0 : 0 ≤ src) (s1 : src < 256) (o0 : -32768 ≤ off) (o1 : off < 32768) (m0 : -2147483648 ≤ imm) (m1 : imm < 2147483648) :
    Calls Tryd.prog 18 #[whV q, .agg #[.int .u8 op, .int .u8 dst, .int .u8 src, .int .i16 off, .int .i32 imm]] w fun e w' => e = .returned (.tuple #[mkV q dst src off imm, .int .i64 (mkE q dst src off imm)]) ∧ Below w.heap.size w w' := by
  have hst : (rowsI.drop 0).find? (fun r => whB (toRw r) q) = findW q := rfl
  have HST := hid hst
  have HM := hid fun (h : findW q = none) => mk_none h dst src off imm
  have HN := hid fun (r : RR) (h : findW q = some r) => And.intro (mk_some h dst src off imm) (row_bd h)
  generalize mkV q dst src off imm = V at HM HN ⊢
  generalize mkE q dst src off imm = E at HM HN ⊢
  clear hst
  unfold whV
  go_enter Tryd.func18, Tryd.ntmps18
  go_wp2_with fail
  refine (rows_any _).mono ?_
  rintro e w1 ⟨v, rfl, hown⟩
  have b1 := hid hown.2
  obtain ⟨g, cap, rfl, hg1, hg2, hrow⟩ := own_form hown
  clear hown hg1
  obtain ⟨hc, hf⟩ := bcell b1.out
  have hb1 : Below w.heap.size w w1 := ((((Below.refl _ _).alloc (Nat.le_refl _) _).alloc (by simp) _).alloc (by simp; omega) _).trans (b1.out.mono (by simp; omega))
  have hz : w.heap.size + 2 < w1.heap.size := by have := b1.out.size; simp at this; omega
  have hz' : w.heap.size + 1 < w1.heap.size := by omega
  have hz'' : w.heap.size < w1.heap.size := by omega
  have a0 : w1.cell? ⟨w.heap.size, 0, none⟩ = some (.int .i64 q.cls) := by rw [hc _ _ (by simp; omega)]; simp [go_sem]
  have a1 : w1.cell? ⟨w.heap.size, 1, none⟩ = some (.int .i64 q.op) := by rw [hc _ _ (by simp; omega)]; simp [go_sem]
  have a2 : w1.cell? ⟨w.heap.size, 2, none⟩ = some (.int .i64 q.size) := by rw [hc _ _ (by simp; omega)]; simp [go_sem]
  have a3 : w1.cell? ⟨w.heap.size, 3, none⟩ = some (.bool q.wide) := by rw [hc _ _ (by simp; omega)]; simp [go_sem]
  have a4 : w1.cell? ⟨w.heap.size, 4, none⟩ = some (.bool q.reg) := by rw [hc _ _ (by simp; omega)]; simp [go_sem]
  have HB := hid b1.out
  have HR := hid hrow
  clear hc hf hrow
  go_wp2
  go_loopw [7] (fun i wr => ∃ k : Nat, k ≤ 114 ∧ i = .int .i64 k ∧ Hid ((rowsI.drop k).find? (fun r => whB (toRw r) q) = findW q) ∧ Below w1.heap.size w1 wr) (fun i _ => 114 - (intOf i).toNat)
  case atStart => exact ⟨0, by omega, rfl, HST, Below.refl _ _⟩
  case round =>
    clear HST
    obtain ⟨k, hk, rfl, HST, hbr⟩ := hrel
    have hb2 := hid (hb1.trans (hbr.mono (by omega)))
    have y2 : w.heap.size + 2 < wr.heap.size := Nat.lt_of_lt_of_le hz hbr.size
    have y1 : w.heap.size + 1 < wr.heap.size := by omega
    have y0 : w.heap.size < wr.heap.size := by omega
    by_cases hlt : k < 114
    · have c0 := (hbr.cell (p := ⟨w.heap.size, 0, none⟩) hz'').trans a0
      have c1 := (hbr.cell (p := ⟨w.heap.size, 1, none⟩) hz'').trans a1
      have c2 := (hbr.cell (p := ⟨w.heap.size, 2, none⟩) hz'').trans a2
      have c3 := (hbr.cell (p := ⟨w.heap.size, 3, none⟩) hz'').trans a3
      have c4 := (hbr.cell (p := ⟨w.heap.size, 4, none⟩) hz'').trans a4
      clear a0 a1 a2 a3 a4
      obtain ⟨r, hr⟩ : ∃ r, rowsI[k]? = some r := ⟨rowsI[k]'(by rw [rowsI_len]; exact hlt), by simp⟩
      have HW := hid ((HR.out k r hr).below hbr hg2)
      have HK := hid hr
      clear hr HR
      have hli : (k : Int) < 114 := by omega
      have hl0 : 0 ≤ (k : Int) := by omega
      have r0 : wr.cell? ⟨g, k * 11, none⟩ = some (.int .u8 r.op) := HW.out 0 _ rfl
      have r1 : wr.cell? ⟨g, k * 11 + 1, none⟩ = some (.int .i64 r.cls) := HW.out 1 _ rfl
      have r2 : wr.cell? ⟨g, k * 11 + 2, none⟩ = some (.int .i64 r.o) := HW.out 2 _ rfl
      have r3 : wr.cell? ⟨g, k * 11 + 3, none⟩ = some (.int .i64 r.size) := HW.out 3 _ rfl
      have r4 : wr.cell? ⟨g, k * 11 + 4, none⟩ = some (.bool r.wide) := HW.out 4 _ rfl
      have r5 : wr.cell? ⟨g, k * 11 + 5, none⟩ = some (.bool r.reg) := HW.out 5 _ rfl
      have r7 : wr.cell? ⟨g, k * 11 + 7, none⟩ = some (.int .i64 r.src) := HW.out 7 _ rfl
      have r9 : wr.cell? ⟨g, k * 11 + 9, none⟩ = some (.int .i64 r.imm) := HW.out 9 _ rfl
      have r10 : wr.cell? ⟨g, k * 11 + 10, none⟩ = some (.int .i64 r.at_) := HW.out 10 _ rfl
      have hne : ∀ W, (binOp .neq 30 (.agg #[.int .i64 r.cls, .int .i64 r.o, .int .i64 r.size, .bool r.wide, .bool r.reg]) (.agg #[.int .i64 q.cls, .int .i64 q.op, .int .i64 q.size, .bool q.wide, .bool q.reg])).run Tryd.prog W = .ok (.bool (!whB (toRw r) q)) W := fun W => neq_what30 (toRw r) q W
      cases hm : whB (toRw r) q
      · rw [hm] at hne
        simp only [Bool.not_false] at hne
        have hh := hid hm
        clear hm
        go_wp2
        go_quiet (fail)
        go_wp2
        exact ⟨⟨k + 1, by omega, by go_num, hid (find_next HST.out HK.out hh.out), below_dV hbr _⟩, by simp [intOf]; omega⟩
      · rw [hm] at hne
        simp only [Bool.not_true] at hne
        have hF := find_here HST.out HK.out hm
        obtain ⟨⟨hE, hV⟩, l0, l1, l2, l3⟩ := HN.out r hF
        have HE := hid hE
        have HV := hid hV
        have HBW := hid (HB.out.trans (hbr.mono HB.out.size))
        clear hm hF hE hV HM HN HST HK HB hbr hk hlt
        cases hi : (r.imm == 4)
        · cases hs : (r.src == 4)
          · have ei : (r.imm == 4) = false := hi
            have es : (r.src == 4) = false := hs
            have hS : rS r src = src := by unfold rS; rw [if_neg (by simpa using hs)]
            have hM : rM r imm = imm := by unfold rM; rw [if_neg (by simpa using hi)]
            have HT := hid fun W => rof_any r.op dst (src) off (imm) W l2 l3 d0 d1 (by omega) (by omega) o0 o1 (by omega) (by omega)
            have he := HE.out
            have hv := HV.out
            rw [hS, hM] at he hv
            clear hS hM hi hs HE HV
            rw [← he] at hv
            rw [← he] at HT
            generalize tkR (rowI r.op (src) (imm)) dst (src) off (imm) = T at HT
            clear he
            have HV2 := hid hv
            clear hv
            obtain ⟨hc, hf⟩ := bcell HBW.out
            go_wp2
            go_quiet (fail)
            go_wp2_with fail
            refine (HT.out _).mono ?_
            rintro e w3 ⟨rfl, b3⟩
            have p2 : w.heap.size + 2 < w3.heap.size := by have := b3.size; simp at this; omega
            have p1 : w.heap.size + 1 < w3.heap.size := by omega
            obtain ⟨hc3, hf3⟩ := bcell b3
            have k0 : w3.cell? ⟨w.heap.size + 1, 0, none⟩ = some (.int .u8 r.op) := by rw [hc3 _ _ (by simp; omega)]; simp [go_sem, hc, y0, y1, y2]
            have k1 : w3.cell? ⟨w.heap.size + 1, 1, none⟩ = some (.int .u8 dst) := by rw [hc3 _ _ (by simp; omega)]; simp [go_sem, hc, y0, y1, y2]
            have k2 : w3.cell? ⟨w.heap.size + 1, 2, none⟩ = some (.int .u8 src) := by rw [hc3 _ _ (by simp; omega)]; simp [go_sem, hc, y0, y1, y2]
            have k3 : w3.cell? ⟨w.heap.size + 1, 3, none⟩ = some (.int .i16 off) := by rw [hc3 _ _ (by simp; omega)]; simp [go_sem, hc, y0, y1, y2]
            have k4 : w3.cell? ⟨w.heap.size + 1, 4, none⟩ = some (.int .i32 imm) := by rw [hc3 _ _ (by simp; omega)]; simp [go_sem, hc, y0, y1, y2]
            have f0 : w3.frozen? ⟨w.heap.size + 2, 0, none⟩ = false := by rw [hf3 _ _ (by simp; omega)]; simp [go_sem, hf, y0, y1, y2]
            have u0 : w3.cell? ⟨w.heap.size + 2, 0, none⟩ = some (.int .u8 0) := by rw [hc3 _ _ (by simp; omega)]; simp [go_sem, hc, y0, y1, y2]
            have f1 : w3.frozen? ⟨w.heap.size + 2, 1, none⟩ = false := by rw [hf3 _ _ (by simp; omega)]; simp [go_sem, hf, y0, y1, y2]
            have u1 : w3.cell? ⟨w.heap.size + 2, 1, none⟩ = some (.int .u8 0) := by rw [hc3 _ _ (by simp; omega)]; simp [go_sem, hc, y0, y1, y2]
            have f2 : w3.frozen? ⟨w.heap.size + 2, 2, none⟩ = false := by rw [hf3 _ _ (by simp; omega)]; simp [go_sem, hf, y0, y1, y2]
            have u2 : w3.cell? ⟨w.heap.size + 2, 2, none⟩ = some (.int .u8 0) := by rw [hc3 _ _ (by simp; omega)]; simp [go_sem, hc, y0, y1, y2]
            have f3 : w3.frozen? ⟨w.heap.size + 2, 3, none⟩ = false := by rw [hf3 _ _ (by simp; omega)]; simp [go_sem, hf, y0, y1, y2]
            have u3 : w3.cell? ⟨w.heap.size + 2, 3, none⟩ = some (.int .i16 0) := by rw [hc3 _ _ (by simp; omega)]; simp [go_sem, hc, y0, y1, y2]
            have f4 : w3.frozen? ⟨w.heap.size + 2, 4, none⟩ = false := by rw [hf3 _ _ (by simp; omega)]; simp [go_sem, hf, y0, y1, y2]
            have u4 : w3.cell? ⟨w.heap.size + 2, 4, none⟩ = some (.int .i32 0) := by rw [hc3 _ _ (by simp; omega)]; simp [go_sem, hc, y0, y1, y2]
            have hb3 := hid ((((below_dV hb2.out _).setCell (by simp) _)).trans (b3.mono (by simp; omega)))
            clear hc hf hc3 hf3 b3 c0 c1 c2 c3 c4 hne HT r0 r1 r2 r3 r4 r5 r7 r9 r10
            unfold whV
            by_cases hE0 : E = 0
            · subst hE0
              go_wp2
              exact bodyPost_ret (v := .tuple #[insV r.op dst (src) off (imm), .int .i64 0]) (by simp [results, Tryd.results18, go_sem, p1, p2, u0, u1, u2, u3, u4]; try rfl) rfl ⟨by rw [HV2.out]; simp, ((((((hb3.out.setCell (by simp; omega) _).setCell (by simp; omega) _).setCell (by simp; omega) _).setCell (by simp; omega) _).setCell (by simp; omega) _).alloc (by simp; omega) _)⟩
            · have hk0 : (E != 0) = true := by simpa using hE0
              have HE0 := hid hE0
              clear hE0
              go_wp2
              exact bodyPost_ret (v := .tuple #[insV 0 0 0 0 0, .int .i64 E]) (by simp [results, Tryd.results18, go_sem, p1, p2, u0, u1, u2, u3, u4]; try rfl) rfl ⟨by rw [HV2.out]; simp [HE0.out], ((((((hb3.out.setCell (by simp; omega) _).setCell (by simp; omega) _).setCell (by simp; omega) _).setCell (by simp; omega) _).setCell (by simp; omega) _).alloc (by simp; omega) _)⟩
          · have ei : (r.imm == 4) = false := hi
            have es : (r.src == 4) = true := hs
            have hS : rS r src = r.at_ := by unfold rS; rw [if_pos (by simpa using hs)]
            have hM : rM r imm = imm := by unfold rM; rw [if_neg (by simpa using hi)]
            have HT := hid fun W => rof_any r.op dst (r.at_) off (imm) W l2 l3 d0 d1 (by omega) (by omega) o0 o1 (by omega) (by omega)
            have he := HE.out
            have hv := HV.out
            rw [hS, hM] at he hv
            clear hS hM hi hs HE HV
            rw [← he] at hv
            rw [← he] at HT
            generalize tkR (rowI r.op (r.at_) (imm)) dst (r.at_) off (imm) = T at HT
            clear he
            have HV2 := hid hv
            clear hv
            obtain ⟨hc, hf⟩ := bcell HBW.out
            go_wp2
            go_quiet (fail)
            go_wp2_with fail
            refine (HT.out _).mono ?_
            rintro e w3 ⟨rfl, b3⟩
            have p2 : w.heap.size + 2 < w3.heap.size := by have := b3.size; simp at this; omega
            have p1 : w.heap.size + 1 < w3.heap.size := by omega
            obtain ⟨hc3, hf3⟩ := bcell b3
            have k0 : w3.cell? ⟨w.heap.size + 1, 0, none⟩ = some (.int .u8 r.op) := by rw [hc3 _ _ (by simp; omega)]; simp [go_sem, hc, y0, y1, y2]
            have k1 : w3.cell? ⟨w.heap.size + 1, 1, none⟩ = some (.int .u8 dst) := by rw [hc3 _ _ (by simp; omega)]; simp [go_sem, hc, y0, y1, y2]
            have k2 : w3.cell? ⟨w.heap.size + 1, 2, none⟩ = some (.int .u8 r.at_) := by rw [hc3 _ _ (by simp; omega)]; simp [go_sem, hc, y0, y1, y2]
            have k3 : w3.cell? ⟨w.heap.size + 1, 3, none⟩ = some (.int .i16 off) := by rw [hc3 _ _ (by simp; omega)]; simp [go_sem, hc, y0, y1, y2]
            have k4 : w3.cell? ⟨w.heap.size + 1, 4, none⟩ = some (.int .i32 imm) := by rw [hc3 _ _ (by simp; omega)]; simp [go_sem, hc, y0, y1, y2]
            have f0 : w3.frozen? ⟨w.heap.size + 2, 0, none⟩ = false := by rw [hf3 _ _ (by simp; omega)]; simp [go_sem, hf, y0, y1, y2]
            have u0 : w3.cell? ⟨w.heap.size + 2, 0, none⟩ = some (.int .u8 0) := by rw [hc3 _ _ (by simp; omega)]; simp [go_sem, hc, y0, y1, y2]
            have f1 : w3.frozen? ⟨w.heap.size + 2, 1, none⟩ = false := by rw [hf3 _ _ (by simp; omega)]; simp [go_sem, hf, y0, y1, y2]
            have u1 : w3.cell? ⟨w.heap.size + 2, 1, none⟩ = some (.int .u8 0) := by rw [hc3 _ _ (by simp; omega)]; simp [go_sem, hc, y0, y1, y2]
            have f2 : w3.frozen? ⟨w.heap.size + 2, 2, none⟩ = false := by rw [hf3 _ _ (by simp; omega)]; simp [go_sem, hf, y0, y1, y2]
            have u2 : w3.cell? ⟨w.heap.size + 2, 2, none⟩ = some (.int .u8 0) := by rw [hc3 _ _ (by simp; omega)]; simp [go_sem, hc, y0, y1, y2]
            have f3 : w3.frozen? ⟨w.heap.size + 2, 3, none⟩ = false := by rw [hf3 _ _ (by simp; omega)]; simp [go_sem, hf, y0, y1, y2]
            have u3 : w3.cell? ⟨w.heap.size + 2, 3, none⟩ = some (.int .i16 0) := by rw [hc3 _ _ (by simp; omega)]; simp [go_sem, hc, y0, y1, y2]
            have f4 : w3.frozen? ⟨w.heap.size + 2, 4, none⟩ = false := by rw [hf3 _ _ (by simp; omega)]; simp [go_sem, hf, y0, y1, y2]
            have u4 : w3.cell? ⟨w.heap.size + 2, 4, none⟩ = some (.int .i32 0) := by rw [hc3 _ _ (by simp; omega)]; simp [go_sem, hc, y0, y1, y2]
            have hb3 := hid (((((below_dV hb2.out _).setCell (by simp) _).setCell (by simp) _)).trans (b3.mono (by simp; omega)))
            clear hc hf hc3 hf3 b3 c0 c1 c2 c3 c4 hne HT r0 r1 r2 r3 r4 r5 r7 r9 r10
            unfold whV
            by_cases hE0 : E = 0
            · subst hE0
              go_wp2
              exact bodyPost_ret (v := .tuple #[insV r.op dst (r.at_) off (imm), .int .i64 0]) (by simp [results, Tryd.results18, go_sem, p1, p2, u0, u1, u2, u3, u4]; try rfl) rfl ⟨by rw [HV2.out]; simp, ((((((hb3.out.setCell (by simp; omega) _).setCell (by simp; omega) _).setCell (by simp; omega) _).setCell (by simp; omega) _).setCell (by simp; omega) _).alloc (by simp; omega) _)⟩
            · have hk0 : (E != 0) = true := by simpa using hE0
              have HE0 := hid hE0
              clear hE0
              go_wp2
              exact bodyPost_ret (v := .tuple #[insV 0 0 0 0 0, .int .i64 E]) (by simp [results, Tryd.results18, go_sem, p1, p2, u0, u1, u2, u3, u4]; try rfl) rfl ⟨by rw [HV2.out]; simp [HE0.out], ((((((hb3.out.setCell (by simp; omega) _).setCell (by simp; omega) _).setCell (by simp; omega) _).setCell (by simp; omega) _).setCell (by simp; omega) _).alloc (by simp; omega) _)⟩
        · cases hs : (r.src == 4)
          · have ei : (r.imm == 4) = true := hi
            have es : (r.src == 4) = false := hs
            have hS : rS r src = src := by unfold rS; rw [if_neg (by simpa using hs)]
            have hM : rM r imm = r.at_ := by unfold rM; rw [if_pos (by simpa using hi)]
            have HT := hid fun W => rof_any r.op dst (src) off (r.at_) W l2 l3 d0 d1 (by omega) (by omega) o0 o1 (by omega) (by omega)
            have he := HE.out
            have hv := HV.out
            rw [hS, hM] at he hv
            clear hS hM hi hs HE HV
            rw [← he] at hv
            rw [← he] at HT
            generalize tkR (rowI r.op (src) (r.at_)) dst (src) off (r.at_) = T at HT
            clear he
            have HV2 := hid hv
            clear hv
            obtain ⟨hc, hf⟩ := bcell HBW.out
            go_wp2
            go_quiet (fail)
            go_wp2_with fail
            refine (HT.out _).mono ?_
            rintro e w3 ⟨rfl, b3⟩
            have p2 : w.heap.size + 2 < w3.heap.size := by have := b3.size; simp at this; omega
            have p1 : w.heap.size + 1 < w3.heap.size := by omega
            obtain ⟨hc3, hf3⟩ := bcell b3
            have k0 : w3.cell? ⟨w.heap.size + 1, 0, none⟩ = some (.int .u8 r.op) := by rw [hc3 _ _ (by simp; omega)]; simp [go_sem, hc, y0, y1, y2]
            have k1 : w3.cell? ⟨w.heap.size + 1, 1, none⟩ = some (.int .u8 dst) := by rw [hc3 _ _ (by simp; omega)]; simp [go_sem, hc, y0, y1, y2]
            have k2 : w3.cell? ⟨w.heap.size + 1, 2, none⟩ = some (.int .u8 src) := by rw [hc3 _ _ (by simp; omega)]; simp [go_sem, hc, y0, y1, y2]
            have k3 : w3.cell? ⟨w.heap.size + 1, 3, none⟩ = some (.int .i16 off) := by rw [hc3 _ _ (by simp; omega)]; simp [go_sem, hc, y0, y1, y2]
            have k4 : w3.cell? ⟨w.heap.size + 1, 4, none⟩ = some (.int .i32 r.at_) := by rw [hc3 _ _ (by simp; omega)]; simp [go_sem, hc, y0, y1, y2]
            have f0 : w3.frozen? ⟨w.heap.size + 2, 0, none⟩ = false := by rw [hf3 _ _ (by simp; omega)]; simp [go_sem, hf, y0, y1, y2]
            have u0 : w3.cell? ⟨w.heap.size + 2, 0, none⟩ = some (.int .u8 0) := by rw [hc3 _ _ (by simp; omega)]; simp [go_sem, hc, y0, y1, y2]
            have f1 : w3.frozen? ⟨w.heap.size + 2, 1, none⟩ = false := by rw [hf3 _ _ (by simp; omega)]; simp [go_sem, hf, y0, y1, y2]
            have u1 : w3.cell? ⟨w.heap.size + 2, 1, none⟩ = some (.int .u8 0) := by rw [hc3 _ _ (by simp; omega)]; simp [go_sem, hc, y0, y1, y2]
            have f2 : w3.frozen? ⟨w.heap.size + 2, 2, none⟩ = false := by rw [hf3 _ _ (by simp; omega)]; simp [go_sem, hf, y0, y1, y2]
            have u2 : w3.cell? ⟨w.heap.size + 2, 2, none⟩ = some (.int .u8 0) := by rw [hc3 _ _ (by simp; omega)]; simp [go_sem, hc, y0, y1, y2]
            have f3 : w3.frozen? ⟨w.heap.size + 2, 3, none⟩ = false := by rw [hf3 _ _ (by simp; omega)]; simp [go_sem, hf, y0, y1, y2]
            have u3 : w3.cell? ⟨w.heap.size + 2, 3, none⟩ = some (.int .i16 0) := by rw [hc3 _ _ (by simp; omega)]; simp [go_sem, hc, y0, y1, y2]
            have f4 : w3.frozen? ⟨w.heap.size + 2, 4, none⟩ = false := by rw [hf3 _ _ (by simp; omega)]; simp [go_sem, hf, y0, y1, y2]
            have u4 : w3.cell? ⟨w.heap.size + 2, 4, none⟩ = some (.int .i32 0) := by rw [hc3 _ _ (by simp; omega)]; simp [go_sem, hc, y0, y1, y2]
            have hb3 := hid (((((below_dV hb2.out _).setCell (by simp) _).setCell (by simp) _)).trans (b3.mono (by simp; omega)))
            clear hc hf hc3 hf3 b3 c0 c1 c2 c3 c4 hne HT r0 r1 r2 r3 r4 r5 r7 r9 r10
            unfold whV
            by_cases hE0 : E = 0
            · subst hE0
              go_wp2
              exact bodyPost_ret (v := .tuple #[insV r.op dst (src) off (r.at_), .int .i64 0]) (by simp [results, Tryd.results18, go_sem, p1, p2, u0, u1, u2, u3, u4]; try rfl) rfl ⟨by rw [HV2.out]; simp, ((((((hb3.out.setCell (by simp; omega) _).setCell (by simp; omega) _).setCell (by simp; omega) _).setCell (by simp; omega) _).setCell (by simp; omega) _).alloc (by simp; omega) _)⟩
            · have hk0 : (E != 0) = true := by simpa using hE0
              have HE0 := hid hE0
              clear hE0
              go_wp2
              exact bodyPost_ret (v := .tuple #[insV 0 0 0 0 0, .int .i64 E]) (by simp [results, Tryd.results18, go_sem, p1, p2, u0, u1, u2, u3, u4]; try rfl) rfl ⟨by rw [HV2.out]; simp [HE0.out], ((((((hb3.out.setCell (by simp; omega) _).setCell (by simp; omega) _).setCell (by simp; omega) _).setCell (by simp; omega) _).setCell (by simp; omega) _).alloc (by simp; omega) _)⟩
          · have ei : (r.imm == 4) = true := hi
            have es : (r.src == 4) = true := hs
            have hS : rS r src = r.at_ := by unfold rS; rw [if_pos (by simpa using hs)]
            have hM : rM r imm = r.at_ := by unfold rM; rw [if_pos (by simpa using hi)]
            have HT := hid fun W => rof_any r.op dst (r.at_) off (r.at_) W l2 l3 d0 d1 (by omega) (by omega) o0 o1 (by omega) (by omega)
            have he := HE.out
            have hv := HV.out
            rw [hS, hM] at he hv
            clear hS hM hi hs HE HV
            rw [← he] at hv
            rw [← he] at HT
            generalize tkR (rowI r.op (r.at_) (r.at_)) dst (r.at_) off (r.at_) = T at HT
            clear he
            have HV2 := hid hv
            clear hv
            obtain ⟨hc, hf⟩ := bcell HBW.out
            go_wp2
            go_quiet (fail)
            go_wp2_with fail
            refine (HT.out _).mono ?_
            rintro e w3 ⟨rfl, b3⟩
            have p2 : w.heap.size + 2 < w3.heap.size := by have := b3.size; simp at this; omega
            have p1 : w.heap.size + 1 < w3.heap.size := by omega
            obtain ⟨hc3, hf3⟩ := bcell b3
            have k0 : w3.cell? ⟨w.heap.size + 1, 0, none⟩ = some (.int .u8 r.op) := by rw [hc3 _ _ (by simp; omega)]; simp [go_sem, hc, y0, y1, y2]
            have k1 : w3.cell? ⟨w.heap.size + 1, 1, none⟩ = some (.int .u8 dst) := by rw [hc3 _ _ (by simp; omega)]; simp [go_sem, hc, y0, y1, y2]
            have k2 : w3.cell? ⟨w.heap.size + 1, 2, none⟩ = some (.int .u8 r.at_) := by rw [hc3 _ _ (by simp; omega)]; simp [go_sem, hc, y0, y1, y2]
            have k3 : w3.cell? ⟨w.heap.size + 1, 3, none⟩ = some (.int .i16 off) := by rw [hc3 _ _ (by simp; omega)]; simp [go_sem, hc, y0, y1, y2]
            have k4 : w3.cell? ⟨w.heap.size + 1, 4, none⟩ = some (.int .i32 r.at_) := by rw [hc3 _ _ (by simp; omega)]; simp [go_sem, hc, y0, y1, y2]
            have f0 : w3.frozen? ⟨w.heap.size + 2, 0, none⟩ = false := by rw [hf3 _ _ (by simp; omega)]; simp [go_sem, hf, y0, y1, y2]
            have u0 : w3.cell? ⟨w.heap.size + 2, 0, none⟩ = some (.int .u8 0) := by rw [hc3 _ _ (by simp; omega)]; simp [go_sem, hc, y0, y1, y2]
            have f1 : w3.frozen? ⟨w.heap.size + 2, 1, none⟩ = false := by rw [hf3 _ _ (by simp; omega)]; simp [go_sem, hf, y0, y1, y2]
            have u1 : w3.cell? ⟨w.heap.size + 2, 1, none⟩ = some (.int .u8 0) := by rw [hc3 _ _ (by simp; omega)]; simp [go_sem, hc, y0, y1, y2]
            have f2 : w3.frozen? ⟨w.heap.size + 2, 2, none⟩ = false := by rw [hf3 _ _ (by simp; omega)]; simp [go_sem, hf, y0, y1, y2]
            have u2 : w3.cell? ⟨w.heap.size + 2, 2, none⟩ = some (.int .u8 0) := by rw [hc3 _ _ (by simp; omega)]; simp [go_sem, hc, y0, y1, y2]
            have f3 : w3.frozen? ⟨w.heap.size + 2, 3, none⟩ = false := by rw [hf3 _ _ (by simp; omega)]; simp [go_sem, hf, y0, y1, y2]
            have u3 : w3.cell? ⟨w.heap.size + 2, 3, none⟩ = some (.int .i16 0) := by rw [hc3 _ _ (by simp; omega)]; simp [go_sem, hc, y0, y1, y2]
            have f4 : w3.frozen? ⟨w.heap.size + 2, 4, none⟩ = false := by rw [hf3 _ _ (by simp; omega)]; simp [go_sem, hf, y0, y1, y2]
            have u4 : w3.cell? ⟨w.heap.size + 2, 4, none⟩ = some (.int .i32 0) := by rw [hc3 _ _ (by simp; omega)]; simp [go_sem, hc, y0, y1, y2]
            have hb3 := hid ((((((below_dV hb2.out _).setCell (by simp) _).setCell (by simp) _).setCell (by simp) _)).trans (b3.mono (by simp; omega)))
            clear hc hf hc3 hf3 b3 c0 c1 c2 c3 c4 hne HT r0 r1 r2 r3 r4 r5 r7 r9 r10
            unfold whV
            by_cases hE0 : E = 0
            · subst hE0
              go_wp2
              exact bodyPost_ret (v := .tuple #[insV r.op dst (r.at_) off (r.at_), .int .i64 0]) (by simp [results, Tryd.results18, go_sem, p1, p2, u0, u1, u2, u3, u4]; try rfl) rfl ⟨by rw [HV2.out]; simp, ((((((hb3.out.setCell (by simp; omega) _).setCell (by simp; omega) _).setCell (by simp; omega) _).setCell (by simp; omega) _).setCell (by simp; omega) _).alloc (by simp; omega) _)⟩
            · have hk0 : (E != 0) = true := by simpa using hE0
              have HE0 := hid hE0
              clear hE0
              go_wp2
              exact bodyPost_ret (v := .tuple #[insV 0 0 0 0 0, .int .i64 E]) (by simp [results, Tryd.results18, go_sem, p1, p2, u0, u1, u2, u3, u4]; try rfl) rfl ⟨by rw [HV2.out]; simp [HE0.out], ((((((hb3.out.setCell (by simp; omega) _).setCell (by simp; omega) _).setCell (by simp; omega) _).setCell (by simp; omega) _).setCell (by simp; omega) _).alloc (by simp; omega) _)⟩
    · obtain rfl : k = 114 := by omega
      obtain ⟨hE, hV⟩ := HM.out (find_over HST.out)
      have HV1 := hid hV
      have HE1 := hid hE
      obtain ⟨hc, hf⟩ := bcell (HB.out.trans (hbr.mono HB.out.size))
      clear a0 a1 a2 a3 a4 hlt hE hV HM HN HST
      go_wp2
      exact bodyPost_ret (v := .tuple #[insV 0 0 0 0 0, .int .i64 1]) (by simp [results, Tryd.results18, go_sem, hc, y2]; try rfl) rfl ⟨by rw [HV1.out, HE1.out], (((((hb2.out.setCell (by simp; omega) _).setCell (by simp; omega) _).setCell (by simp; omega) _).setCell (by simp; omega) _).setCell (by simp; omega) _)⟩

end Go.Proofs.YtahkdflmnaphpaaDoor
