/-
  GraphNext: the walk.
-/
import Derived.Test.YtodmikjpmcabiabDoorDGrO
import Derived.Test.YtodmikjpmcabiabDoorDGw2W
namespace Go.Proofs.YtodmikjpmcabiabDoor
set_option linter.unusedSimpArgs false
set_option linter.unusedVariables false
set_option maxRecDepth 100000
set_option maxRecDepth 100000
open Go.ChangeShapes Go.WideShapes Go.ChangeAt Go.RowKit

theorem wakes_true (W : World) : Calls Tryd.prog 9 #[] W fun e W' => e = .returned (.bool true) ∧ Below W.heap.size W W' :=
  Ev.Goes.true_ (n0 := 0) (c := GrW2.c0) (fn := Tryd.f9) Tryd.func9 (by kernel_rfl) (by decide) W (Nat.zero_le _)
    (GrW2.whole (Ev.orc_ok (Ev.evFn_sound (by kernel_rfl) 19) (fun f hf => by cases hf))) (by kernel_rfl)
theorem at5_take {c : List I5} {m j : Nat} (h : j < m) : at5 (c.take m) j = at5 c j := by
  unfold at5
  rw [List.getD_eq_getElem?_getD, List.getD_eq_getElem?_getD, List.getElem?_take, if_pos h]
theorem cd_take {n₀ : Nat} {w : World} {p : Option Addr} {n m : Nat} {c : List I5} (h : CdSl n₀ w p n c) (hm : m ≤ n) : CdSl n₀ w p m (c.take m) := by
  obtain ⟨h1, h2, h3, h4⟩ := h
  refine ⟨by rw [List.length_take]; omega, fun x hx => h2 x (List.mem_of_mem_take hx), by omega, ?_⟩
  rcases h4 with h4 | ⟨b, off, e, hb, hc⟩
  · exact .inl (by omega)
  · exact .inr ⟨b, off, e, hb, fun j hj => by rw [at5_take hj]; exact hc j (by omega)⟩
set_option maxRecDepth 100000 in
/-- A list of numbers in a block from N on. -/
def InG (N : Nat) (w : World) (v : Value) (L : List Int) : Prop := ∃ p cap, v = .slice p L.length cap ∧ (L = [] ∨ ∃ g, p = some ⟨g, 0, none⟩ ∧ N ≤ g ∧ g < w.heap.size ∧ ∀ j, j < L.length → w.cell? ⟨g, j, none⟩ = some (.int .i64 (L.getD j 0)))
theorem InG.il {N : Nat} {w : World} {v : Value} {L : List Int} (h : InG N w v L) : InL w v L := by
  obtain ⟨p, cap, e, h⟩ := h
  exact ⟨p, cap, e, h.imp id (fun ⟨g, e, _, hg, hc⟩ => ⟨g, e, hg, hc⟩)⟩
theorem InG.below {N : Nat} {w w' : World} {v : Value} {L : List Int} (h : InG N w v L) (z : Below w.heap.size w w') : InG N w' v L := by
  obtain ⟨p, cap, e, h⟩ := h
  exact ⟨p, cap, e, h.imp id (fun ⟨g, e, hn, hg, hc⟩ => ⟨g, e, hn, Nat.lt_of_lt_of_le hg z.size, fun j hj => (z.cell hg).trans (hc j hj)⟩)⟩
theorem InG.set {N : Nat} {w : World} {v : Value} {L : List Int} (h : InG N w v L) (b k : Nat) (hb : b < N) (u : Value) : InG N (w.setCell ⟨b, k, none⟩ u) v L := by
  obtain ⟨p, cap, e, h⟩ := h
  exact ⟨p, cap, e, h.imp id (fun ⟨g, e, hn, hg, hc⟩ => ⟨g, e, hn, by simpa using hg, fun j hj => (World.cell?_of_block (w := w) (a := ⟨g, j, none⟩) (Below.heap_setCell _ _ _ _ (by dsimp only; omega))).trans (hc j hj)⟩)⟩
theorem InG.of {N : Nat} {w w' : World} {v : Value} {L : List Int} (hN : N ≤ w.heap.size) (h : w'.ownsRow w.heap.size 3 1 v L.length (L.map (Value.int .i64))) : InG N w' v L := by
  rcases own_formG h with ⟨rfl, h0⟩ | ⟨g, cap, rfl, _⟩
  · exact ⟨none, 0, by rw [h0], .inl (List.eq_nil_of_length_eq_zero h0)⟩
  · have hl := h.lt g rfl
    refine ⟨_, cap, rfl, .inr ⟨g, rfl, by omega, hl.2, fun j hj => ?_⟩⟩
    rw [h.cellAt j (by omega), List.getElem?_map, List.getElem?_eq_getElem hj]
    simp [List.getD_eq_getElem?_getD, List.getElem?_eq_getElem hj]
theorem c2L_len (L : List Int) : (c2L L).length ≤ L.length := by
  unfold c2L
  split
  · split <;> simp
  · exact Nat.le_refl _
theorem nextG_len (c : List I5) (a : Int) : (nextG c a).length ≤ 2 := by
  unfold nextG
  split
  · have h1 := rawL_len c a.toNat
    have h2 := c2L_len (s2 (rawL c a.toNat))
    rw [s2_len] at h2
    unfold nxL
    omega
  · simp
theorem at5_last (c : List I5) : at5 (c ++ [xm]) c.length = xm := by unfold at5; simp [List.getD_eq_getElem?_getD]
/-- The memory between two rounds of the law's stores. -/
structure NxI (w1 : World) (N : Nat) (va vb vw : Value) (L : List Int) (wr : World) : Prop where
  own : ∃ ys : List Int, ys.length = L.length ∧ wr.ownsRow w1.heap.size 3 1 va L.length (ys.map (Value.int .i64))
  ib : InG N wr vb L
  iw : InG N wr vw L
  bel : Below w1.heap.size w1 wr
set_option maxHeartbeats 8000000 in
theorem graphNext_walk (p : Option Addr) (cap : Nat) (c : List I5) (a : Int) (w : World) (hz : SzOk w) (hsl : CdSl w.heap.size w p c.length c) :
    Calls Tryd.prog 3 #[.slice p c.length cap, .int .i64 a] w fun e w' => e = .returned (.bool true) ∧ Below w.heap.size w w' := by
  have HW9 := hid wakes_true
  by_cases hb : (130 : Int) < c.length
  · clear hz hsl
    go_enter Tryd.func3, Tryd.ntmps3
    go_wp2_with fail
    refine (HW9.out _).mono ?_
    rintro e w1 ⟨rfl, z⟩
    have HB := hid z
    clear z
    go_wp2
    go_ret
    exact ⟨rfl, HB.out⟩
  have hn : c.length ≤ 130 := by omega
  have HOW := hid (own_I p cap c w hsl hn)
  have HZ := hid hz
  have HS := hid hsl
  have HN := hid hn
  have hok := hid hsl.2.1
  have hR := hid (nextG_rnxt c a)
  have hL := hid (nextG_len c a)
  clear hz hsl hn
  generalize hGL : nextG c a = L at *
  replace hGL := hid hGL
  go_enter Tryd.func3, Tryd.ntmps3
  go_wp2_with fail
  refine HOW.out.mono ?_
  rintro e w1 ⟨g, ck, rfl, hck, ho, b1⟩
  have hcd := own_cd ho (by simp) (app_ok hok.out) (by have := HN.out; omega)
  have hl1 : CdSl w1.heap.size w1 (some ⟨g, 0, none⟩) c.length c := by
    have := cd_take (m := c.length) hcd (by omega)
    rwa [List.take_left'] at this
    rfl
  have HM1 : Hid (InsAt w1 g (c.length * 5) xm) := hid (by
    obtain ⟨_, _, _, h4⟩ := hcd
    obtain ⟨g', o', e', _, hi⟩ := h4.resolve_left (by omega)
    cases e'
    have := hi c.length (by omega)
    rwa [at5_last, Nat.zero_add] at this)
  have HG := hid (ho.lt g rfl)
  have HL1 := hid hl1
  have HB1 := hid b1
  have HCK := hid hck
  clear hcd hl1 ho b1 HOW
  go_wp2_with fail
  refine (gNext_I (some ⟨g, 0, none⟩) ck c a w1 (HZ.out.below HB1.out) HL1.out).mono ?_
  rintro e w2 ⟨va, rfl, oa, b2⟩
  rw [hGL.out] at oa
  have HB2 := hid b2
  have HOa := hid oa
  clear oa b2
  go_wp2_with fail
  refine (gNext_I (some ⟨g, 0, none⟩) ck c a w2 (HZ.out.below (below_next HB1.out HB2.out)) ((HL1.out.kept HB2.out (Nat.le_refl _)).wide HB2.out.size)).mono ?_
  rintro e w3 ⟨vb, rfl, ob, b3⟩
  rw [hGL.out] at ob
  have HB3 := hid (below_next HB2.out b3)
  have HOb := hid (InG.of (Nat.le_refl _) ob)
  have HOa3 := hid (own_nx HOa.out b3)
  have HZ2 := hid b3.size
  clear ob b3
  go_wp2_with fail
  refine (rNext_I p cap c a w3 ((HS.out.kept (below_next HB1.out HB3.out) (Nat.le_refl _)).wide (below_next HB1.out HB3.out).size)).mono ?_
  rintro e w4 ⟨vw, rfl, ow, b4⟩
  rw [← hR.out] at ow
  have HB4 := hid (below_next HB3.out b4)
  have HOw := hid (InG.of HZ2.out ow)
  have HOb4 := hid (HOb.out.below b4)
  have HOa4 := hid (own_nx HOa3.out b4)
  clear ow b4 HOb HOa3 HB3
  have hl2 : L.length ≤ 200 := by have := hL.out; omega
  have HIA := hid (InL.of (w := w1) HOa4.out)
  have HIW := hid HOw.out.il
  go_wp2_with fail
  refine (ints_I va vw L w4 HIA.out HIW.out hl2).mono ?_
  rintro e w5 ⟨rfl, b5⟩
  have I0 : Hid (NxI w1 w2.heap.size va vb vw L w5) := hid ⟨⟨L, rfl, own_nx HOa4.out b5⟩, HOb4.out.below b5, HOw.out.below b5, below_next HB4.out b5⟩
  have HVA : Hid (∀ g, va.ownBlock = some g → w1.heap.size ≤ g ∧ g < w2.heap.size) := hid (HOa.out.lt)
  have hf := own_formG HOa.out
  clear b5 HIA HIW HOa4 HOb4 HOw HB4 HOa
  obtain ⟨pa, ca, rfl⟩ : ∃ pa ca, va = .slice pa L.length ca := by
    rcases hf with ⟨h1, h2⟩ | ⟨g', cap', h1, _⟩
    · exact ⟨none, 0, by rw [h1, h2]⟩
    · exact ⟨_, _, h1⟩
  clear hf
  go_wp2_with fail
  go_loopw [10] (fun i wr => ∃ k : Nat, k ≤ L.length ∧ i = .int .i64 k ∧ Hid (NxI w1 w2.heap.size (.slice pa L.length ca) vb vw L wr)) (fun i _ => L.length - (intOf i).toNat)
  case atStart => exact ⟨0, by omega, rfl, I0⟩
  case round =>
    clear I0
    obtain ⟨k, hk, rfl, I1⟩ := hrel
    by_cases hlt : k < L.length
    · have hlt' : (k : Int) < (L.length : Int) := by omega
      have hk0 : (0 : Int) ≤ k := by omega
      obtain ⟨ys, hy, hoy⟩ := I1.out.own
      obtain ⟨ga, rfl⟩ : ∃ ga, pa = some ⟨ga, 0, none⟩ := by
        rcases own_formG hoy with ⟨_, h2⟩ | ⟨g', cap', h1, _⟩
        · omega
        · simp only [Value.slice.injEq] at h1
          exact ⟨g', h1.1⟩
      have hv := HVA.out ga rfl
      have x1 : wr.cell? ⟨ga, k, none⟩ = some (.int .i64 (ys.getD k 0)) := by
        rw [hoy.cellAt k (by omega), List.getElem?_map, List.getElem?_eq_getElem (by omega)]
        simp [List.getD_eq_getElem?_getD, List.getElem?_eq_getElem (show k < ys.length by omega)]
      have x2 := hoy.frozenAt k
      have x3 := (hoy.lt ga rfl).2
      have I2 : Hid (NxI w1 w2.heap.size (.slice (some ⟨ga, 0, none⟩) L.length ca) vb vw L (wr.setCell ⟨ga, k, none⟩ (.int .i64 (-7)))) := hid ⟨⟨ys.set k (-7), by simp [hy], by rw [List.map_set]; exact (hoy.stored k (.int .i64 (-7))).1⟩, I1.out.ib.set ga k hv.2 _, I1.out.iw.set ga k hv.2 _, I1.out.bel.setCell (p := ⟨ga, k, none⟩) hv.1 _⟩
      clear hoy I1 hv
      generalize ys.getD k 0 = Y at *
      go_wp2
      go_roundw
      case rel => first | exact ⟨k + 1, by omega, by go_num, I2⟩ | ((repeat apply Exists.intro); exact ⟨⟨k + 1, by omega, by go_num, I2⟩, rfl⟩)
      case measure => simp [intOf]; omega
    · obtain rfl : k = L.length := by omega
      have H1 := hid I1.out.ib.il
      have H2 := hid I1.out.iw.il
      have HB6 := hid I1.out.bel
      clear I1
      go_wp2_with fail
      refine (ints_I vb vw L wr H1.out H2.out hl2).mono ?_
      rintro e w7 ⟨rfl, b7⟩
      have HB7 := hid (below_next HB6.out b7)
      clear b7 H1 H2 HB6
      go_wp2_with fail
      refine (kept_I g ck cap p c w7 ((HL1.out.kept HB7.out (Nat.le_refl _)).wide HB7.out.size) ((HS.out.kept (below_next HB1.out HB7.out) (Nat.le_refl _)).wide (below_next HB1.out HB7.out).size) (HM1.out.kept HB7.out HG.out.2) HCK.out (Nat.lt_of_lt_of_le HG.out.2 HB7.out.size) HN.out).mono ?_
      rintro e w8 ⟨rfl, b8⟩
      have HB8 := hid (below_next HB7.out b8)
      clear b8
      go_wp2_with fail
      refine (HW9.out _).mono ?_
      rintro e w10 ⟨rfl, b9⟩
      have HB9 := hid (below_next HB1.out (below_next HB8.out b9))
      clear b9
      go_wp2
      go_ret
      exact ⟨rfl, HB9.out⟩
end Go.Proofs.YtodmikjpmcabiabDoor
