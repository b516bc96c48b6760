/-
  The laws' View: a view of the document's frame as the program's. Contract of the laws' View. A view that a law is given by value, opened; that it fits its type.
-/
import Derived.Test.YtoanbjnhoggpjaaJStX
import Derived.Test.YtoanbjnhoggpjaaJStL
import Derived.Test.YtoanbjnhoggpjaaJStY
import Derived.Deep.MidRow
import Derived.BigRegion
import Derived.Deep.RegionLaw
namespace Go.Proofs.Ytoanbjnhoggpjaa
set_option linter.unusedSimpArgs false
set_option linter.unusedVariables false
set_option maxRecDepth 100000
set_option maxRecDepth 100000
open Go.ChangeShapes Go.WideShapes Go.ChangeAt Go.RowKit Me

/-- The first k slots of a frame, the others nought. -/
def mixV (V : Vw) (k : Nat) : Vw := ⟨V.vs, fun i => if i < k then V.fr i else s0, V.p⟩
theorem mixV_ok {V : Vw} (h : FOk V.fr) (k : Nat) : FOk (mixV V k).fr := fun i hi => by
  unfold mixV
  dsimp only
  split
  · exact h i hi
  · exact s0_ok
theorem vwC_congr {S T : Vw} (h1 : ∀ k, k < 11 → S.vs k = T.vs k) (h2 : ∀ k, k < 64 → S.fr k = T.fr k) (h3 : S.p = T.p) : vwC S = vwC T := by
  unfold vwC valC fC
  rw [h3]
  congr 1
  · rw [List.flatMap_def, List.flatMap_def]
    congr 1
    apply List.map_congr_left
    intro k hk
    rw [h1 k (List.mem_range.1 hk)]
  · congr 1
    rw [List.flatMap_def, List.flatMap_def]
    congr 1
    apply List.map_congr_left
    intro k hk
    rw [h2 k (List.mem_range.1 hk)]
theorem mixV_step (V : Vw) (k : Nat) : putSl (mixV V k) k (V.fr k) = mixV V (k + 1) := by
  unfold putSl mixV
  congr 1
  funext i
  by_cases h : i = k
  · subst h; simp
  · by_cases h2 : i < k
    · simp [h, h2, Nat.lt_succ_of_lt h2]
    · simp [h, h2, show ¬ i < k + 1 by omega]
theorem mixV_all (V : Vw) : vwC (mixV V 64) = vwC V := vwC_congr (fun _ _ => rfl) (fun k hk => by simp [mixV, hk]) rfl
/-- What is built of eleven values and a length, the frame nought. -/
def bldC (c : List Value) (p : Int) : List Value := c ++ (fC f0 ++ [.int .i64 p])
theorem bldC_is (V : Vw) : bldC (valC V.vs) V.p = vwC (mixV V 0) := by
  unfold bldC vwC mixV fC f0
  rfl
theorem bld_vw (c : Fin 44 → Value) (p : Int) (W : World) : (Instr.build 58 #[(0, .agg (List.ofFn c).toArray), (2, .int .i64 p)]).run Try.prog W = .ok (.agg (bldC (List.ofFn c) p).toArray) W := by kernel_rfl
end Go.Proofs.Ytoanbjnhoggpjaa

namespace Go.Proofs.Ytoanbjnhoggpjaa
set_option linter.unusedSimpArgs false
set_option linter.unusedVariables false
set_option maxRecDepth 100000
set_option maxRecDepth 100000
open Go.ChangeShapes Go.WideShapes Go.ChangeAt Go.RowKit Me

theorem yinfo49 : (Try.prog.info? 52).map (·.size) = some 877 := by kernel_rfl
theorem yinfo42 : (Try.prog.info? 45).map (·.size) = some 44 := by kernel_rfl
theorem bld_51 (h k m n o y0 y1 y2 y3 y4 y5 y6 y7 : Int) (W : World) : (Instr.build 54 #[(0, .int .u8 h), (1, .agg #[.int .u8 y0, .int .u8 y1, .int .u8 y2, .int .u8 y3, .int .u8 y4, .int .u8 y5, .int .u8 y6, .int .u8 y7]), (2, .agg #[.int .u8 k, .int .i64 m, .int .u64 n, .int .i64 o])]).run Try.prog W = .ok (.agg #[.int .u8 h, .int .u8 y0, .int .u8 y1, .int .u8 y2, .int .u8 y3, .int .u8 y4, .int .u8 y5, .int .u8 y6, .int .u8 y7, .int .u8 k, .int .i64 m, .int .u64 n, .int .i64 o]) W := by kernel_rfl
theorem bld_view (V : Vw) (W : World) : (Instr.build 58 #[(0, .agg (valC V.vs).toArray), (2, .int .i64 V.p)]).run Try.prog W = .ok (.agg (vwC (mixV V 0)).toArray) W := by
  have hl := valC_len V.vs
  have e : valC V.vs = List.ofFn (fun i : Fin 44 => (valC V.vs)[i.val]'(by omega)) := by
    apply List.ext_getElem
    · rw [List.length_ofFn, hl]
    · intro i h1 h2
      rw [List.getElem_ofFn]
  have := bld_vw (fun i : Fin 44 => (valC V.vs)[i.val]'(by omega)) V.p W
  rw [← e, bldC_is] at this
  exact this
theorem range_vals {w : World} {g : Nat} {V : Vw} (hr : w.rangeAt g 0 (vwC V)) : w.rangeAt g 0 (valC V.vs) := fun j v hv => by
  have hj := (List.getElem?_eq_some_iff.1 hv).1
  exact hr j v (by unfold vwC; rw [List.getElem?_append_left hj]; exact hv)
set_option maxHeartbeats 16000000 in
theorem view_any (V : Vw) (hV : VwOk V) (w : World) : Calls Try.prog 23 #[vwV V] w fun e w' => e = .returned (vwV V) ∧ Below w.heap.size w w' := by
  have ZV : ∀ w, (zeroValue 58).run Try.prog w = .ok (.agg (vwC (vw0 0)).toArray) w := (zero_of_info zv_info).1
  have BV := hid (bld_view V)
  have BS := bld_51
  have hF := hid hV.2.1
  have hl0 : (vwC (vw0 0)).length = 877 := vwC_len _ f0_ok
  have hlm : (vwC (mixV V 0)).length = 877 := vwC_len _ (mixV_ok hV.2.1 0)
  have hlV : (vwC V).length = 877 := vwC_len _ hV.2.1
  have a := RwT.new (g := w.heap.size) (n := 877) (w := w) (W := w) (cs := vwC V) 52 (Below.refl _ _) (Nat.le_refl _) hlV.symm
  have b := RwT.new (g := w.heap.size) (n := 877) (w := w) (cs := vwC (vw0 0)) 58 a.i.bel (by simp) hl0.symm
  have e1 : (w.alloc (.cells (vwC V).toArray 52)).heap.size = w.heap.size + 1 := by simp
  have e2 : ((w.alloc (.cells (vwC V).toArray 52)).alloc (.cells (vwC (vw0 0)).toArray 58)).heap.size = w.heap.size + 1 + 1 := by simp
  have hg2 : w.heap.size ≤ ((w.alloc (.cells (vwC V).toArray 52)).alloc (.cells (vwC (vw0 0)).toArray 58)).heap.size := by rw [e2]; omega
  have c := RwT.new (g := w.heap.size) (n := 877) (w := w) (cs := vwC (vw0 0)) 58 b.i.bel hg2 hl0.symm
  have a2 := (a.alloc (by simp) (.cells (vwC (vw0 0)).toArray 58)).alloc hg2 (.cells (vwC (vw0 0)).toArray 58)
  have a0 := hid (a.alloc (by simp) (.cells (vwC (vw0 0)).toArray 58))
  have b2 := b.alloc hg2 (.cells (vwC (vw0 0)).toArray 58)
  rw [e1] at b2
  rw [e2] at c
  have TC := hid c.t
  have c3 := c.whole (vs := vwC (mixV V 0)) (by omega) hlm
  have a3 := a2.apart (c := w.heap.size + 1 + 1) (o := 0) (vs := vwC (mixV V 0)) (by omega) (by omega)
  have b3 := b2.apart (c := w.heap.size + 1 + 1) (o := 0) (vs := vwC (mixV V 0)) (by omega) (by omega)
  have hi42 : Hid ((Try.prog.info? 45).map (·.size) = some (valC V.vs).length) := hid (by rw [valC_len]; exact yinfo42)
  have h876 := range_vpkt hV.2.1 a0.out.i.r0
  have hma := mixV_all V
  replace hma := hid hma
  replace a3 := hid a3
  replace b3 := hid b3
  replace c3 := hid c3
  have hM := hid (fun k => mixV_ok hV.2.1 k)
  have hS := hid (mixV_step V)
  clear a b c a2 b2 e1 e2 hg2 hl0 hlm hlV hV
  unfold vwV
  obtain ⟨CZ, hCZ⟩ : ∃ CF, (vwC (vw0 0)).toArray = CF := ⟨_, rfl⟩
  obtain ⟨CV, hCV⟩ : ∃ CF, (vwC V).toArray = CF := ⟨_, rfl⟩
  rw [hCZ] at ZV TC a0 a3 b3 c3 h876
  rw [hCV] at TC a0 a3 b3 c3 h876
  rw [show Value.agg (vwC V).toArray = .agg CV from congrArg _ hCV]
  replace hCV := hid hCV
  clear hCZ
  go_enter Try.func23, Try.ntmps23
  go_wp2_with (first | ((with_reducible refine at_load (d := some 6) 45 ?_); refine wpList_load_g (by rfl) 45 _ rfl w.heap.size (0) rfl (valC V.vs) _ (range_vals a0.out.i.r0) Try.underlying45 rfl hi42.out ?_) | ((with_reducible refine at_build (d := some 9) 58 ?_); refine wpList_val (.agg (vwC (mixV V 0)).toArray) ?a1 ?a2 ?a3; (case a1 => rfl); (case a2 => exact exec_build #[(0, .agg (valC V.vs).toArray), (2, .int .i64 V.p)] (by simp [Act.eval]) (BV.out _))) | ((with_reducible refine at_store (x := .tmp 3) (y := .tmp 9) 58 ?_); refine wpList_store_vw (.tmp 3) (.tmp 9) rfl rfl (w.heap.size + 1 + 1) (mixV V 0) (hM.out 0) rfl rfl TC.out ?_))
  clear a0 TC h876
  go_loopw [4] (fun i w' => ∃ k : Nat, k ≤ 64 ∧ i = .int .i64 k ∧ Hid (RwT w.heap.size w w' w.heap.size 877 (vwC V)) ∧ Hid (RwT w.heap.size w w' (w.heap.size + 1) 877 (vwC (vw0 0))) ∧ Hid (RwT w.heap.size w w' (w.heap.size + 1 + 1) 877 (vwC (mixV V k)))) (fun i _ => 64 - (intOf i).toNat)
  case atStart => exact ⟨0, by omega, rfl, a3, b3, c3⟩
  case round =>
    obtain ⟨k, hk, rfl, A4, B4, C4⟩ := hrel
    by_cases hlt : k < 64
    · have hlt' : (k : Int) < 64 := by omega
      obtain ⟨wu, rfl⟩ : ∃ wu : World, wu = wr := ⟨_, rfl⟩
      have hJ := hid (hS.out k)
      have HLT := hid hlt
      have hso := hF.out k hlt
      have hMk := hid (hM.out k)
      go_wp2_with fail
      have ra := range_fslot hF.out A4.out.i.r0 k hlt
      have C5 := C4.out
      have rc := range_fslot hMk.out C5.i.r0 k hlt
      have hz : (mixV V k).fr k = s0 := by simp [mixV]
      rw [hz] at rc
      have fc : ∀ j, j < 13 → wu.frozen? ⟨w.heap.size + 1 + 1, 44 + k * 13 + j, none⟩ = false := fun j hj => by
        have := (C5.t (44 + k * 13 + j) (by omega)).2
        rwa [Nat.zero_add] at this
      generalize V.fr k = fs at hJ ra hso
      obtain ⟨fh, fb, vk, vm, vn, vo⟩ := fs
      have hs8 := hso.2.1
      dsimp only at hs8
      have hso' := hid hso
      clear hso hz C5 hlt
      obtain ⟨y0, y1, y2, y3, y4, y5, y6, y7, rfl⟩ := eight hs8
      clear hs8
      have qa0 : wu.cell? ⟨w.heap.size, 44 + k * 13, none⟩ = some (.int .u8 fh) := ra 0 _ rfl
      have qa1 : wu.cell? ⟨w.heap.size, 44 + k * 13 + 1, none⟩ = some (.int .u8 y0) := ra 1 _ rfl
      have qa2 : wu.cell? ⟨w.heap.size, 44 + k * 13 + 2, none⟩ = some (.int .u8 y1) := ra 2 _ rfl
      have qa3 : wu.cell? ⟨w.heap.size, 44 + k * 13 + 3, none⟩ = some (.int .u8 y2) := ra 3 _ rfl
      have qa4 : wu.cell? ⟨w.heap.size, 44 + k * 13 + 4, none⟩ = some (.int .u8 y3) := ra 4 _ rfl
      have qa5 : wu.cell? ⟨w.heap.size, 44 + k * 13 + 5, none⟩ = some (.int .u8 y4) := ra 5 _ rfl
      have qa6 : wu.cell? ⟨w.heap.size, 44 + k * 13 + 6, none⟩ = some (.int .u8 y5) := ra 6 _ rfl
      have qa7 : wu.cell? ⟨w.heap.size, 44 + k * 13 + 7, none⟩ = some (.int .u8 y6) := ra 7 _ rfl
      have qa8 : wu.cell? ⟨w.heap.size, 44 + k * 13 + 8, none⟩ = some (.int .u8 y7) := ra 8 _ rfl
      have qa9 : wu.cell? ⟨w.heap.size, 44 + k * 13 + 9, none⟩ = some (.int .u8 vk) := ra 9 _ rfl
      have qa10 : wu.cell? ⟨w.heap.size, 44 + k * 13 + 10, none⟩ = some (.int .i64 vm) := ra 10 _ rfl
      have qa11 : wu.cell? ⟨w.heap.size, 44 + k * 13 + 11, none⟩ = some (.int .u64 vn) := ra 11 _ rfl
      have qa12 : wu.cell? ⟨w.heap.size, 44 + k * 13 + 12, none⟩ = some (.int .i64 vo) := ra 12 _ rfl
      have qc0 : wu.cell? ⟨w.heap.size + 1 + 1, 44 + k * 13, none⟩ = some (.int .u8 0) := rc 0 _ rfl
      have fc0 : wu.frozen? ⟨w.heap.size + 1 + 1, 44 + k * 13, none⟩ = false := fc 0 (by decide)
      have qc1 : wu.cell? ⟨w.heap.size + 1 + 1, 44 + k * 13 + 1, none⟩ = some (.int .u8 0) := rc 1 _ rfl
      have fc1 : wu.frozen? ⟨w.heap.size + 1 + 1, 44 + k * 13 + 1, none⟩ = false := fc 1 (by decide)
      have qc2 : wu.cell? ⟨w.heap.size + 1 + 1, 44 + k * 13 + 2, none⟩ = some (.int .u8 0) := rc 2 _ rfl
      have fc2 : wu.frozen? ⟨w.heap.size + 1 + 1, 44 + k * 13 + 2, none⟩ = false := fc 2 (by decide)
      have qc3 : wu.cell? ⟨w.heap.size + 1 + 1, 44 + k * 13 + 3, none⟩ = some (.int .u8 0) := rc 3 _ rfl
      have fc3 : wu.frozen? ⟨w.heap.size + 1 + 1, 44 + k * 13 + 3, none⟩ = false := fc 3 (by decide)
      have qc4 : wu.cell? ⟨w.heap.size + 1 + 1, 44 + k * 13 + 4, none⟩ = some (.int .u8 0) := rc 4 _ rfl
      have fc4 : wu.frozen? ⟨w.heap.size + 1 + 1, 44 + k * 13 + 4, none⟩ = false := fc 4 (by decide)
      have qc5 : wu.cell? ⟨w.heap.size + 1 + 1, 44 + k * 13 + 5, none⟩ = some (.int .u8 0) := rc 5 _ rfl
      have fc5 : wu.frozen? ⟨w.heap.size + 1 + 1, 44 + k * 13 + 5, none⟩ = false := fc 5 (by decide)
      have qc6 : wu.cell? ⟨w.heap.size + 1 + 1, 44 + k * 13 + 6, none⟩ = some (.int .u8 0) := rc 6 _ rfl
      have fc6 : wu.frozen? ⟨w.heap.size + 1 + 1, 44 + k * 13 + 6, none⟩ = false := fc 6 (by decide)
      have qc7 : wu.cell? ⟨w.heap.size + 1 + 1, 44 + k * 13 + 7, none⟩ = some (.int .u8 0) := rc 7 _ rfl
      have fc7 : wu.frozen? ⟨w.heap.size + 1 + 1, 44 + k * 13 + 7, none⟩ = false := fc 7 (by decide)
      have qc8 : wu.cell? ⟨w.heap.size + 1 + 1, 44 + k * 13 + 8, none⟩ = some (.int .u8 0) := rc 8 _ rfl
      have fc8 : wu.frozen? ⟨w.heap.size + 1 + 1, 44 + k * 13 + 8, none⟩ = false := fc 8 (by decide)
      have qc9 : wu.cell? ⟨w.heap.size + 1 + 1, 44 + k * 13 + 9, none⟩ = some (.int .u8 0) := rc 9 _ rfl
      have fc9 : wu.frozen? ⟨w.heap.size + 1 + 1, 44 + k * 13 + 9, none⟩ = false := fc 9 (by decide)
      have qc10 : wu.cell? ⟨w.heap.size + 1 + 1, 44 + k * 13 + 10, none⟩ = some (.int .i64 0) := rc 10 _ rfl
      have fc10 : wu.frozen? ⟨w.heap.size + 1 + 1, 44 + k * 13 + 10, none⟩ = false := fc 10 (by decide)
      have qc11 : wu.cell? ⟨w.heap.size + 1 + 1, 44 + k * 13 + 11, none⟩ = some (.int .u64 0) := rc 11 _ rfl
      have fc11 : wu.frozen? ⟨w.heap.size + 1 + 1, 44 + k * 13 + 11, none⟩ = false := fc 11 (by decide)
      have qc12 : wu.cell? ⟨w.heap.size + 1 + 1, 44 + k * 13 + 12, none⟩ = some (.int .i64 0) := rc 12 _ rfl
      have fc12 : wu.frozen? ⟨w.heap.size + 1 + 1, 44 + k * 13 + 12, none⟩ = false := fc 12 (by decide)
      have la := A4.out.i.sz
      have lc := C4.out.i.sz
      clear ra rc fc
      have hu : undef = Value.tuple #[] := rfl
      go_region
      all_goals
        go_wp2
        go_roundw
        case rel => first | exact ⟨k + 1, by have := HLT.out; omega, by go_num, hid (by have X := (A4.out.apart (c := w.heap.size + 1 + 1) (o := 44 + k * 13) (vs := sC ⟨fh, [y0, y1, y2, y3, y4, y5, y6, y7], vk, vm, vn, vo⟩) (by omega) (by omega)).next (below_dr _) (by rw [size_setRow]; exact A4.out.i.bel.size); exact X), hid (by have X := (B4.out.apart (c := w.heap.size + 1 + 1) (o := 44 + k * 13) (vs := sC ⟨fh, [y0, y1, y2, y3, y4, y5, y6, y7], vk, vm, vn, vo⟩) (by omega) (by omega)).next (below_dr _) (by rw [size_setRow]; exact A4.out.i.bel.size); exact X), hid (by have X := C4.out.putSl (x := ⟨fh, [y0, y1, y2, y3, y4, y5, y6, y7], vk, vm, vn, vo⟩) hMk.out hso'.out HLT.out (by omega); rw [hJ.out] at X; have Y := X.next (below_dr _) (by rw [size_setRow]; exact A4.out.i.bel.size); exact Y)⟩ | ((repeat apply Exists.intro); exact ⟨⟨k + 1, by have := HLT.out; omega, by go_num, hid (by have X := (A4.out.apart (c := w.heap.size + 1 + 1) (o := 44 + k * 13) (vs := sC ⟨fh, [y0, y1, y2, y3, y4, y5, y6, y7], vk, vm, vn, vo⟩) (by omega) (by omega)).next (below_dr _) (by rw [size_setRow]; exact A4.out.i.bel.size); exact X), hid (by have X := (B4.out.apart (c := w.heap.size + 1 + 1) (o := 44 + k * 13) (vs := sC ⟨fh, [y0, y1, y2, y3, y4, y5, y6, y7], vk, vm, vn, vo⟩) (by omega) (by omega)).next (below_dr _) (by rw [size_setRow]; exact A4.out.i.bel.size); exact X), hid (by have X := C4.out.putSl (x := ⟨fh, [y0, y1, y2, y3, y4, y5, y6, y7], vk, vm, vn, vo⟩) hMk.out hso'.out HLT.out (by omega); rw [hJ.out] at X; have Y := X.next (below_dr _) (by rw [size_setRow]; exact A4.out.i.bel.size); exact Y)⟩, rfl⟩)
        case measure => have := HLT.out; simp [intOf]; omega
    · have hk8 : k = 64 := by omega
      subst hk8
      have C5 := C4.out
      rw [hma.out] at C5
      have hsv : Hid ((Try.prog.info? 58).map (·.size) = some (vwC V).length) := hid (by rw [vwC_len V hF.out]; exact yinfo55)
      have D := B4.out.whole (vs := vwC V) (by omega) (vwC_len V hF.out)
      replace C5 := hid C5
      replace D := hid D
      clear hlt hk
      go_wp2_with (first | ((with_reducible refine at_load (d := some 33) 58 ?_); refine wpList_load_g (by rfl) 58 _ rfl (w.heap.size + 1 + 1) (0) rfl (vwC V) _ C5.out.i.r0 Try.underlying58 rfl hsv.out ?_) | ((with_reducible refine at_store (x := .tmp 2) (y := .tmp 33) 58 ?_); refine wpList_store_vw (.tmp 2) (.tmp 33) rfl rfl (w.heap.size + 1) V hF.out rfl rfl B4.out.t ?_))
      exact bodyPost_ret (row_res rfl _ _ (w.heap.size + 1) 0 (vwC V) _ rfl D.out.i.r0 Try.underlying58 rfl hsv.out) rfl ⟨by rw [hCV.out], D.out.i.bel⟩
end Go.Proofs.Ytoanbjnhoggpjaa

namespace Go.Proofs.Ytoanbjnhoggpjaa
set_option linter.unusedSimpArgs false
set_option linter.unusedVariables false
set_option maxRecDepth 100000
set_option maxRecDepth 100000
open Go.ChangeShapes Go.WideShapes Go.ChangeAt Go.RowKit Go.Deep Me

section
variable {H : Type} {enc : TypeId × Value → H} {w : World} {base : Nat} {spare : Nat → Bool} {held : Bool}
theorem z22 : Try.prog.cellsOf 46 = 8 := by kernel_rfl
theorem z27 : Try.prog.cellsOf 48 = 13 := by kernel_rfl
theorem z29 : Try.prog.cellsOf 50 = 832 := by kernel_rfl
theorem z42 : Try.prog.cellsOf 45 = 44 := by kernel_rfl
theorem z49 : Try.prog.cellsOf 52 = 877 := by kernel_rfl
theorem yval_at {fuel : Nat} {cs : List Value} {x : DataW H × List MemPlace} (h : DataW.trod enc Try.prog w base spare held fuel 44 cs = some x) : ∃ v : Vl, VOk v ∧ cs = vC v := by
  obtain ⟨xs, n, _, _, hl, hx, hf⟩ := DataW.trod_struct Try.underlying44 h
  rw [Me.c25] at hl
  match cs, hl with
  | [c0, c1, c2, c3], _ =>
    have f0 := hf 0 _ rfl
    have f1 := hf 1 _ rfl
    have f2 := hf 2 _ rfl
    have f3 := hf 3 _ rfl
    match xs, hx with
    | [y0, y1, y2, y3], _ =>
      simp only [Me.c5, Me.c3, Me.c23, Me.c2, List.drop, List.take, List.getElem?_cons_zero, List.getElem?_cons_succ] at f0 f1 f2 f3
      obtain ⟨n0, e0, _, w0⟩ := DataW.trod_int (k := .u8) Try.underlying5 f0
      obtain ⟨n1, e1, _, w1⟩ := DataW.trod_int (k := .i64) Try.underlying3 f1
      obtain ⟨n2, e2, _, w2⟩ := DataW.trod_int (k := .u64) Try.underlying22 f2
      obtain ⟨n3, e3, _, w3⟩ := DataW.trod_int (k := .i64) Try.underlying2 f3
      obtain rfl := (List.cons.inj e0).1
      obtain rfl := (List.cons.inj e1).1
      obtain rfl := (List.cons.inj e2).1
      obtain rfl := (List.cons.inj e3).1
      exact ⟨⟨n0, n1, n2, n3⟩, ⟨ybd_u8 w0, ybd_i64 w1, ybd_u64 w2, ybd_i64 w3⟩, rfl⟩
theorem yb8_at {fuel : Nat} {c0 c1 c2 c3 c4 c5 c6 c7 : Value} {x : DataW H × List MemPlace} (h : DataW.trod enc Try.prog w base spare held fuel 46 [c0, c1, c2, c3, c4, c5, c6, c7] = some x) :
    ∃ l : List Int, l.length = 8 ∧ (∀ z ∈ l, 0 ≤ z ∧ z < 256) ∧ [c0, c1, c2, c3, c4, c5, c6, c7] = bC l := by
  obtain ⟨xs, n, _, _, _, hx, hf⟩ := DataW.trod_array Try.underlying46 h
  match xs, hx with
  | [y0, y1, y2, y3, y4, y5, y6, y7], _ =>
    have key : ∀ (i : Nat) (c : Value) (y : DataW H × List MemPlace), DataW.trod enc Try.prog w base spare held n 5 [c] = some y → ∃ z : Int, c = .int .u8 z ∧ 0 ≤ z ∧ z < 256 := fun i c y hy => by
      obtain ⟨z, e, _, wz⟩ := DataW.trod_int (k := .u8) Try.underlying5 hy
      obtain rfl := (List.cons.inj e).1
      exact ⟨z, rfl, ybd_u8 wz⟩
    have f0 := hf 0 (by decide)
    have f1 := hf 1 (by decide)
    have f2 := hf 2 (by decide)
    have f3 := hf 3 (by decide)
    have f4 := hf 4 (by decide)
    have f5 := hf 5 (by decide)
    have f6 := hf 6 (by decide)
    have f7 := hf 7 (by decide)
    rw [Me.c5] at f0 f1 f2 f3 f4 f5 f6 f7
    obtain ⟨z0, rfl, p0⟩ := key 0 c0 y0 f0
    obtain ⟨z1, rfl, p1⟩ := key 1 c1 y1 f1
    obtain ⟨z2, rfl, p2⟩ := key 2 c2 y2 f2
    obtain ⟨z3, rfl, p3⟩ := key 3 c3 y3 f3
    obtain ⟨z4, rfl, p4⟩ := key 4 c4 y4 f4
    obtain ⟨z5, rfl, p5⟩ := key 5 c5 y5 f5
    obtain ⟨z6, rfl, p6⟩ := key 6 c6 y6 f6
    obtain ⟨z7, rfl, p7⟩ := key 7 c7 y7 f7
    refine ⟨[z0, z1, z2, z3, z4, z5, z6, z7], rfl, fun z hz => ?_, rfl⟩
    simp only [List.mem_cons, List.not_mem_nil, or_false] at hz
    rcases hz with rfl | rfl | rfl | rfl | rfl | rfl | rfl | rfl <;> assumption
theorem yfslot_at {fuel : Nat} {cs : List Value} {x : DataW H × List MemPlace} (h : DataW.trod enc Try.prog w base spare held fuel 48 cs = some x) : ∃ s : Sl, SOk s ∧ cs = sC s := by
  obtain ⟨xs, n, _, _, hl, hx, hf⟩ := DataW.trod_struct Try.underlying48 h
  rw [z27] at hl
  match cs, hl with
  | [c0, c1, c2, c3, c4, c5, c6, c7, c8, c9, c10, c11, c12], _ =>
    have f0 := hf 0 _ rfl
    have f1 : DataW.trod enc Try.prog w base spare held n 46 (([c0, c1, c2, c3, c4, c5, c6, c7, c8, c9, c10, c11, c12].drop 1).take (Try.prog.cellsOf 46)) = xs[1]? := hf 1 _ rfl
    have f2 : DataW.trod enc Try.prog w base spare held n 44 (([c0, c1, c2, c3, c4, c5, c6, c7, c8, c9, c10, c11, c12].drop 9).take (Try.prog.cellsOf 44)) = xs[2]? := hf 2 _ rfl
    rw [z22] at f1
    rw [Me.c25] at f2
    match xs, hx with
    | [y0, y1, y2], _ =>
      simp only [Me.c5, List.drop, List.take, List.getElem?_cons_zero, List.getElem?_cons_succ] at f0 f1 f2
      obtain ⟨n0, e0, _, w0⟩ := DataW.trod_int (k := .u8) Try.underlying5 f0
      obtain ⟨l, hl8, hlb, el⟩ := yb8_at f1
      obtain ⟨v, hv, ev⟩ := yval_at f2
      obtain rfl := (List.cons.inj e0).1
      refine ⟨⟨n0, l, v⟩, ⟨ybd_u8 w0, hl8, hlb, hv⟩, ?_⟩
      show Value.int .u8 n0 :: ([c1, c2, c3, c4, c5, c6, c7, c8] ++ [c9, c10, c11, c12]) = _
      rw [el, ev]
      rfl
theorem yvals_at {fuel : Nat} {cs : List Value} {x : DataW H × List MemPlace} (hl : cs.length = 44) (h : DataW.trod enc Try.prog w base spare held fuel 45 cs = some x) : ∃ f : Nat → Vl, (∀ k, k < 11 → VOk (f k)) ∧ cs = valC f := by
  obtain ⟨xs, m, _, _, hlc, hx, hg⟩ := DataW.trod_array Try.underlying45 h
  have hch := ychoose (fun i (r : Vl) => VOk r ∧ (cs.drop (i * 4)).take 4 = vC r) 11 (fun i hi => by
    have h1 := hg i hi
    rw [Me.c25] at h1
    rw [List.getElem?_eq_getElem (by omega)] at h1
    exact yval_at h1)
  obtain ⟨l, hll, hlp⟩ := hch
  have hd : ∀ i, i < 11 → VOk (l.getD i v0) ∧ (cs.drop (i * 4)).take 4 = vC (l.getD i v0) := fun i hi => by
    rw [List.getD_eq_getElem?_getD, List.getElem?_eq_getElem (by omega)]
    exact hlp i (by omega)
  refine ⟨fun k => l.getD k v0, fun k hk => (hd k hk).1, ?_⟩
  apply List.ext_getElem?
  intro q
  by_cases hq : q < 44
  · have hdq : q / 4 * 4 + q % 4 = q := by omega
    have hi : q / 4 < 11 := by omega
    have hm : q % 4 < 4 := by omega
    generalize q / 4 = i at *
    generalize q % 4 = j at *
    subst hdq
    have e : (valC fun k => l.getD k v0)[i * 4 + j]? = (vC (l.getD i v0))[j]? := flat_at (fun k => vC (l.getD k v0)) 4 11 (fun k _ => vC_len _) i j hi hm
    rw [e, ← (hd i hi).2, List.getElem?_take_of_lt hm, List.getElem?_drop]
  · rw [List.getElem?_eq_none (by omega), List.getElem?_eq_none (by rw [valC_len]; omega)]
theorem yframe_at {fuel : Nat} {cs : List Value} {x : DataW H × List MemPlace} (hl : cs.length = 832) (h : DataW.trod enc Try.prog w base spare held fuel 50 cs = some x) : ∃ f : Nat → Sl, FOk f ∧ cs = fC f := by
  obtain ⟨xs, m, _, _, hlc, hx, hg⟩ := DataW.trod_array Try.underlying50 h
  have hch := ychoose (fun i (r : Sl) => SOk r ∧ (cs.drop (i * 13)).take 13 = sC r) 64 (fun i hi => by
    have h1 := hg i hi
    rw [z27] at h1
    rw [List.getElem?_eq_getElem (by omega)] at h1
    exact yfslot_at h1)
  obtain ⟨l, hll, hlp⟩ := hch
  have hd : ∀ i, i < 64 → SOk (l.getD i s0) ∧ (cs.drop (i * 13)).take 13 = sC (l.getD i s0) := fun i hi => by
    rw [List.getD_eq_getElem?_getD, List.getElem?_eq_getElem (by omega)]
    exact hlp i (by omega)
  have hF : FOk (fun k => l.getD k s0) := fun k hk => (hd k hk).1
  refine ⟨fun k => l.getD k s0, hF, ?_⟩
  apply List.ext_getElem?
  intro q
  by_cases hq : q < 832
  · have hdq : q / 13 * 13 + q % 13 = q := by omega
    have hi : q / 13 < 64 := by omega
    have hm : q % 13 < 13 := by omega
    generalize q / 13 = i at *
    generalize q % 13 = j at *
    subst hdq
    rw [fC_at hF i j hi hm, ← (hd i hi).2, List.getElem?_take_of_lt hm, List.getElem?_drop]
  · rw [List.getElem?_eq_none (by omega), List.getElem?_eq_none (by rw [fC_len hF]; omega)]
theorem open_view {r : Reach} {b0 : Nat} {v : Value} {d : DataW H} {p : List MemPlace} (hv : Value.okWide Try.prog w r b0 52 v) (h : DataW.Trod enc Try.prog w base spare held 52 v d p) : ∃ V : Vw, VwOk V ∧ v = vwV V := by
  obtain ⟨cs, rfl, hsz⟩ := okWide_struct Try.underlying52 hv
  rw [z49] at hsz
  obtain ⟨fuel, hf⟩ := h
  obtain ⟨xs, n, _, hx, hlc, hlen, hg⟩ := DataW.trod_struct Try.underlying52 hf
  have hc : (Value.agg cs).cells.toList = cs.toList := rfl
  rw [hc] at hg
  have hl : cs.toList.length = 877 := by simpa using hsz
  have hx3 : xs.length = 3 := hlen
  have f0 : DataW.trod enc Try.prog w base spare held n 45 ((cs.toList.drop 0).take (Try.prog.cellsOf 45)) = xs[0]? := hg 0 _ rfl
  have f1 : DataW.trod enc Try.prog w base spare held n 50 ((cs.toList.drop 44).take (Try.prog.cellsOf 50)) = xs[1]? := hg 1 _ rfl
  have f2 : DataW.trod enc Try.prog w base spare held n 3 ((cs.toList.drop 876).take (Try.prog.cellsOf 3)) = xs[2]? := hg 2 _ rfl
  rw [z42, List.drop_zero] at f0
  rw [z29] at f1
  rw [Me.c3] at f2
  rw [List.getElem?_eq_getElem (by omega)] at f0 f1 f2
  obtain ⟨vs, hvs, e0⟩ := yvals_at (by rw [List.length_take]; omega) f0
  obtain ⟨fr, hfr, e1⟩ := yframe_at (by rw [List.length_take, List.length_drop]; omega) f1
  obtain ⟨n2, g2, _, w2⟩ := DataW.trod_int (k := .i64) Try.underlying3 f2
  refine ⟨⟨vs, fr, n2⟩, ⟨hvs, hfr, ybd_i64 w2⟩, ?_⟩
  unfold vwV vwC
  congr 1
  apply Array.ext'
  simp only [List.toList_toArray]
  rw [← e0, ← e1, ← g2]
  have d1 : (cs.toList.drop 44).take 832 ++ (cs.toList.drop 876).take 1 = cs.toList.drop 44 := by
    rw [show 876 = 44 + 832 from rfl, ← List.drop_drop]
    rw [List.take_of_length_le (l := (cs.toList.drop 44).drop 832) (by rw [List.length_drop, List.length_drop]; omega), List.take_append_drop]
  rw [d1, List.take_append_drop]
end
def yslotT : List TypeId := [5, 5, 5, 5, 5, 5, 5, 5, 5, 5, 3, 22, 2]
def yvwT : List TypeId := (List.replicate 11 [5, 3, 22, 2]).flatten ++ ((List.replicate 64 yslotT).flatten ++ [3])
theorem ytypes49 : Try.prog.cellTypes Try.prog.depth 52 = some yvwT := by kernel_rfl
theorem yzip49 (w : World) : (yvwT.zip (vwC (vw0 0))).all (fun x => Cell.okWideB Try.prog w x.1 x.2) = true := by kernel_rfl
theorem view0_ok (w : World) : Value.okWideB Try.prog w 52 (.agg (vwC (vw0 0)).toArray) = true := by
  unfold Value.okWideB
  rw [Try.underlying52]
  simp only [Bool.and_eq_true, beq_iff_eq]
  have hl : (vwC (vw0 0)).toArray.size = 877 := by rw [List.size_toArray, vwC_len (vw0 0) f0_ok]
  refine ⟨by rw [hl, z49], rowB_of_zip ytypes49 (by rw [hl]; kernel_rfl) (yzip49 w)⟩
end Go.Proofs.Ytoanbjnhoggpjaa
