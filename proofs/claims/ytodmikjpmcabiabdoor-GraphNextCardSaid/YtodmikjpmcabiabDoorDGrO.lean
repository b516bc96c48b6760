/-
  Contracts of the graph laws' own, ints, kept.
-/
import Derived.Test.YtodmikjpmcabiabDoorDGrY
import Derived.Test.YtodmikjpmcabiabDoorDInsnK
import Derived.Deep.AppendLies
namespace Go.Proofs.YtodmikjpmcabiabDoor
set_option linter.unusedSimpArgs false
set_option linter.unusedVariables false
set_option maxRecDepth 100000
set_option maxRecDepth 100000
open Go.ChangeShapes Go.WideShapes Go.ChangeAt Go.RowKit

def xm : I5 := ⟨149, 0, 0, 7, 0⟩
theorem xm_ok : xm.ok := by unfold I5.ok xm; decide
theorem app_ok {c : List I5} (h : CdOk c) : CdOk (c ++ [xm]) := by
  intro x hx
  rcases List.mem_append.1 hx with h1 | h1
  · exact h x h1
  · rw [List.mem_singleton.1 h1]; exact xm_ok
theorem src_xm (w : World) (t : TypeId) : SrcP (w.heap.size + 1) (w.alloc (.cells #[.int .u8 149, .int .u8 0, .int .u8 0, .int .i16 7, .int .i32 0] t)) (some ⟨w.heap.size, 0, none⟩) (cellsI xm) := by
  refine .inr ⟨w.heap.size, 0, rfl, by omega, fun j u hu => ?_⟩
  rw [Nat.zero_add, World.cell?_alloc_at _ _ _ _ rfl]
  simpa [cellsI, xm] using hu
theorem slice_cut (g n m ck : Nat) (hm : m ≤ ck) (he : ∀ W, ((sizeOf (Tryd.prog.elem 22)).run Tryd.prog W) = .ok 5 W) (W : World) :
    (Instr.slice 22 (.slice (some ⟨g, 0, none⟩) n ck) none (some (.int .i64 m)) none).run Tryd.prog W = .ok (.slice (some ⟨g, 0, none⟩) m ck) W := by
  rw [run_slice_h (P := Tryd.prog) (w := W) (ht := by rfl) (kh := .i64) (h := (m : Int)) (h0 := by omega) (h2 := by omega), he W]
  simp only [Result.andThen, sliced, Int.toNat_natCast, Nat.sub_zero]
  by_cases h0 : ck = 0
  · rw [if_pos h0]
  · rw [if_neg h0, Option.map_some]
    rfl
theorem sz_ins : ∀ W, ((sizeOf (Tryd.prog.elem 22)).run Tryd.prog W) = .ok 5 W := by intro W; kernel_rfl
theorem one_I (c : List I5) : ∀ u ∈ c.flatMap cellsI, u.oneCell' = true := by
  intro u hu
  obtain ⟨x, _, hx⟩ := List.mem_flatMap.1 hu
  simp only [cellsI, List.mem_cons, List.not_mem_nil, or_false] at hx
  rcases hx with rfl | rfl | rfl | rfl | rfl <;> rfl
set_option maxHeartbeats 4000000 in
theorem own_I (p : Option Addr) (cap : Nat) (c : List I5) (w : World) (hsl : CdSl w.heap.size w p c.length c) (hn : c.length ≤ 130) :
    Calls Tryd.prog 10 #[.slice p c.length cap] w fun e w' => ∃ g ck, e = .returned (.slice (some ⟨g, 0, none⟩) c.length ck) ∧ c.length < ck ∧
      w'.ownsRow w.heap.size 45 5 (.slice (some ⟨g, 0, none⟩) (c.length + 1) ck) (c.length + 1) ((c ++ [xm]).flatMap cellsI) ∧ Below w.heap.size w w' := by
  obtain ⟨ii, hii, hp⟩ := Option.map_eq_some_iff.1 insInfo
  injection hp with hi1 hp
  injection hp with hi2 hi3
  have HII := hid (And.intro hii (And.intro hi1 (And.intro hi2 hi3)))
  clear hii hi1 hi2 hi3
  have HS := hid (src_code hsl)
  have HL := hid (flat5_len c)
  have HO := hid (one_I c)
  have hN := hid hn
  clear hsl hn
  go_enter Tryd.func10, Tryd.ntmps10
  go_wp2_with (at_builtin; refine stop_app ?_)
  unfold Stop
  refine list_app _ rfl (.const (.slice none 0 0)) (.tmp 4) _ (by rfl) w.heap.size 45 ii _ 5 12 Tryd.underlying22 HII.out.1 HII.out.2.1 HII.out.2.2.1 HII.out.2.2.2 rfl (by decide) (.slice none 0 0) 0 [] (by exact rfl) (World.ownsRow_nil _ _ _ _) w.heap.size p c.length cap (c.flatMap cellsI) (by exact rfl) HL.out HS.out HO.out (by have := hN.out; simp only [maxLen]; omega) (by have := hN.out; omega) (Nat.le_refl _) ?_
  intro v5 w5 own5 grow5 at5
  rw [Nat.zero_add, List.nil_append] at own5
  have HB5 := hid ((Below.refl w.heap.size w).grown grow5 (Nat.le_refl _) (fun k e => by cases e))
  have HO5 := hid own5
  clear own5 grow5 at5
  go_wp2_with (at_builtin; refine stop_app ?_)
  unfold Stop
  refine list_app _ rfl (.tmp 6) (.tmp 8) _ (by rfl) w.heap.size 45 ii _ 5 12 Tryd.underlying22 HII.out.1 HII.out.2.1 HII.out.2.2.1 HII.out.2.2.2 rfl (by decide) v5 c.length (c.flatMap cellsI) (by exact rfl) (HO5.out.alloc _) (w5.heap.size + 1) (some ⟨w5.heap.size, 0, none⟩) 1 1 (cellsI xm) (by exact rfl) rfl (src_xm w5 _) (by intro u hu; exact one_I [xm] u (by simpa using hu)) (by have := hN.out; simp only [maxLen]; omega) (by have := hN.out; omega) (by have := HB5.out.size; simp; omega) ?_
  intro v7 w7 own7 grow7 at7
  have own7' : w7.ownsRow w.heap.size 45 5 v7 (c.length + 1) ((c ++ [xm]).flatMap cellsI) := by
    rw [List.flatMap_append]
    simpa using own7
  have HB7 := hid ((HB5.out.alloc HB5.out.size (.cells #[.int .u8 149, .int .u8 0, .int .u8 0, .int .i16 7, .int .i32 0] 45)).grown grow7 (by have := HB5.out.size; simp; omega) (fun k e => (HO5.out.lt k e).1))
  obtain ⟨g, ck, rfl, hck⟩ : ∃ g ck, v7 = .slice (some ⟨g, 0, none⟩) (c.length + 1) ck ∧ c.length + 1 ≤ ck := by
    rcases own_formG own7' with ⟨_, h⟩ | h
    · omega
    · exact h
  have HO7 := hid own7'
  have HCK := hid hck
  have SC := slice_cut g (c.length + 1) c.length ck (by omega) sz_ins
  clear own7 own7' grow7 at7 hck
  go_wp2
  go_ret
  exact ⟨g, ck, rfl, by have := HCK.out; omega, HO7.out, HB7.out⟩
theorem below_dnq {B : Nat} {a w : World} (h : Below B a w) (n : Nat) : Below B a (w.drewN n) := ⟨h.os, h.tape, h.output, h.size, h.block⟩
/-- A list of numbers, as a slice has it. -/
def InL (w : World) (v : Value) (L : List Int) : Prop := ∃ p cap, v = .slice p L.length cap ∧ (L = [] ∨ ∃ g, p = some ⟨g, 0, none⟩ ∧ g < w.heap.size ∧ ∀ j, j < L.length → w.cell? ⟨g, j, none⟩ = some (.int .i64 (L.getD j 0)))
theorem InL.below {w w' : World} {v : Value} {L : List Int} (h : InL w v L) (z : Below w.heap.size w w') : InL w' v L := by
  obtain ⟨p, cap, e, h⟩ := h
  refine ⟨p, cap, e, h.imp id ?_⟩
  rintro ⟨g, e, hg, hc⟩
  exact ⟨g, e, Nat.lt_of_lt_of_le hg z.size, fun j hj => (z.cell hg).trans (hc j hj)⟩
theorem InL.of {w w' : World} {v : Value} {L : List Int} (h : w'.ownsRow w.heap.size 3 1 v L.length (L.map (Value.int .i64))) : InL w' v L := by
  rcases own_formG h with ⟨rfl, h0⟩ | ⟨g, cap, rfl, _⟩
  · exact ⟨none, 0, by rw [h0], .inl (List.eq_nil_of_length_eq_zero h0)⟩
  · refine ⟨_, cap, rfl, .inr ⟨g, rfl, (h.lt g rfl).2, fun j hj => ?_⟩⟩
    rw [h.cellAt j (by omega), List.getElem?_map, List.getElem?_eq_getElem hj]
    simp [List.getD_eq_getElem?_getD, List.getElem?_eq_getElem hj]
set_option maxHeartbeats 4000000 in
theorem ints_I (va vb : Value) (L : List Int) (w : World) (ha : InL w va L) (hb : InL w vb L) (hL : L.length ≤ 200) :
    Calls Tryd.prog 13 #[va, vb] w fun e w' => e = .returned (.bool true) ∧ Below w.heap.size w w' := by
  obtain ⟨pa, ca, rfl, ha⟩ := ha
  obtain ⟨pb, cb, rfl, hb⟩ := hb
  have HA := hid ha
  have HB := hid hb
  clear ha hb
  go_enter Tryd.func13, Tryd.ntmps13
  go_wp2_with fail
  go_loopw [5] (fun i wr => ∃ k : Nat, k ≤ L.length ∧ i = .int .i64 k ∧ Hid (Below w.heap.size w wr)) (fun i _ => L.length - (intOf i).toNat)
  case atStart => exact ⟨0, by omega, rfl, hid (Below.refl _ _)⟩
  case round =>
    obtain ⟨k, hk, rfl, HW⟩ := hrel
    by_cases hlt : k < L.length
    · have hlt' : (k : Int) < (L.length : Int) := by omega
      have hk0 : (0 : Int) ≤ k := by omega
      obtain ⟨ga, rfl, la, cla⟩ := HA.out.resolve_left (fun e => by rw [e] at hlt; simp at hlt)
      obtain ⟨gb, rfl, lb, clb⟩ := HB.out.resolve_left (fun e => by rw [e] at hlt; simp at hlt)
      have x1 := (HW.out.cell (p := ⟨ga, k, none⟩) la).trans (cla k hlt)
      have x2 := (HW.out.cell (p := ⟨gb, k, none⟩) lb).trans (clb k hlt)
      clear cla clb la lb
      generalize L.getD k 0 = T at *
      go_wp2_with fail
      go_quiet (fail)
      have HW2 := hid (below_dnq HW.out nq)
      go_wp2
      go_roundw
      case rel => first | exact ⟨k + 1, by omega, by go_num, HW2⟩ | ((repeat apply Exists.intro); exact ⟨⟨k + 1, by omega, by go_num, HW2⟩, rfl⟩)
      case measure => simp [intOf]; omega
    · obtain rfl : k = L.length := by omega
      go_wp2
      go_ret
      exact ⟨rfl, HW.out⟩
set_option maxHeartbeats 4000000 in
theorem kept_I (g ck cap : Nat) (p : Option Addr) (c : List I5) (w : World) (hl : CdSl w.heap.size w (some ⟨g, 0, none⟩) c.length c) (hc : CdSl w.heap.size w p c.length c) (hm : InsAt w g (c.length * 5) xm) (hck : c.length < ck) (hg : g < w.heap.size) (hn : c.length ≤ 130) :
    Calls Tryd.prog 14 #[.slice (some ⟨g, 0, none⟩) c.length ck, .slice p c.length cap] w fun e w' => e = .returned (.bool true) ∧ Below w.heap.size w w' := by
  have HL := hid hl
  have HC := hid hc
  have HM := hid hm
  have HN := hid hn
  have HG := hid hg
  have HCK := hid hck
  clear hl hc hm hn hg hck
  go_enter Tryd.func14, Tryd.ntmps14
  go_wp2_with fail
  go_loopw [5] (fun i wr => ∃ k : Nat, k ≤ c.length ∧ i = .int .i64 k ∧ Hid (Below w.heap.size w wr)) (fun i _ => c.length - (intOf i).toNat)
  case atStart => exact ⟨0, by omega, rfl, hid (Below.refl _ _)⟩
  case round =>
    obtain ⟨k, hk, rfl, HW⟩ := hrel
    have hn9 := HN.out
    by_cases hlt : k < c.length
    · have hlt' : (k : Int) < (c.length : Int) := by omega
      have hk0 : (0 : Int) ≤ k := by omega
      obtain ⟨g2, o2, e2, _, hi2⟩ := (HL.out.kept HW.out (Nat.le_refl _)).2.2.2.resolve_left (by omega)
      cases e2
      obtain ⟨b3, o3, rfl, _, hi3⟩ := (HC.out.kept HW.out (Nat.le_refl _)).2.2.2.resolve_left (by omega)
      obtain ⟨i0, i1, i2, i3, i4⟩ := hi2 k hlt
      obtain ⟨j0, j1, j2, j3, j4⟩ := hi3 k hlt
      rw [Nat.zero_add] at i0 i1 i2 i3 i4
      clear hi2 hi3
      generalize at5 c k = X at *
      obtain ⟨xo, xd, xs, xf, xi⟩ := X
      dsimp only at i0 i1 i2 i3 i4 j0 j1 j2 j3 j4
      go_wp2_with fail
      go_quiet (fail)
      have HW2 := hid (below_dnq HW.out nq)
      clear i0 i1 i2 i3 i4 j0 j1 j2 j3 j4
      go_wp2
      go_roundw
      case rel => first | exact ⟨k + 1, by omega, by go_num, HW2⟩ | ((repeat apply Exists.intro); exact ⟨⟨k + 1, by omega, by go_num, HW2⟩, rfl⟩)
      case measure => simp [intOf]; omega
    · obtain rfl : k = c.length := by omega
      obtain ⟨m0, m1, m2, m3, m4⟩ := HM.out.kept HW.out HG.out
      dsimp only [xm] at m0 m1 m2 m3 m4
      have SC : ∀ W, (Instr.slice 22 (.slice (some ⟨g, 0, none⟩) c.length ck) none (some (.int .i64 ((c.length : Int) + 1))) none).run Tryd.prog W = .ok (.slice (some ⟨g, 0, none⟩) (c.length + 1) ck) W := slice_cut g c.length (c.length + 1) ck HCK.out sz_ins
      have w1 : wrap64 ((c.length : Int) + 1) = (c.length : Int) + 1 := by have := HN.out; unfold wrap64; omega
      have l0 : (0 : Int) ≤ (c.length : Int) + 1 := by omega
      have l1 : (c.length : Int) + 1 ≤ (ck : Int) := by have := HCK.out; omega
      have l2 : (c.length : Int) < ((c.length + 1 : Nat) : Int) := by omega
      have l3 : (0 : Int) ≤ (c.length : Int) := by omega
      go_wp2
      go_ret
      exact ⟨rfl, HW.out⟩
end Go.Proofs.YtodmikjpmcabiabDoor
