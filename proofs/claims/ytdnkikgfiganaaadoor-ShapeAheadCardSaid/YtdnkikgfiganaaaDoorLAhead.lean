/-
  The walk of law ShapeAhead: what is wrong by itself is told whatever stands behind it. The table of sizes is as start-up lays it (the card ties it); no other condition.
-/
import Derived.Test.YtdnkikgfiganaaaDoorMoH
import Derived.Test.YtdnkikgfiganaaaDoorTwin
import Derived.Deep.RegionHeld3
import Derived.Test.YtdnkikgfiganaaaDoorAhH
import Derived.Deep.RegionLaw
namespace Go.Proofs.YtdnkikgfiganaaaDoor
set_option linter.unusedSimpArgs false
set_option linter.unusedVariables false
open Go.ChangeShapes Go.WideShapes Go.ChangeAt Go.RowKit

set_option maxRecDepth 100000 in
theorem elem_size (W : World) : ((sizeOf (Tryd.prog.elem 23)).run Tryd.prog W) = .ok 5 W := by rfl
theorem right_maps_lit {W : World} {pm : Option Addr} {cm bc : Nat} {l : List M4} {b : Bool} (hz : SzOk W) (hml : MpSl W.heap.size W pm l.length l) (hi : InsC W bc) (hl : l.length ≤ 4) (hb : (badM l).isNone = b) : Calls Tryd.prog 19 #[.agg #[.slice pm l.length cm, .slice (some ⟨bc, 0, none⟩) 1 1]] W fun e w' => e = .returned (.bool b) ∧ Below W.heap.size W w' := by
  have hbc := World.block_lt_of_cell? W _ hi.1
  have h := right_I pm (some ⟨bc, 0, none⟩) cm 1 1 l.length l [xI] W hz hml
    ⟨rfl, fun x hx => by rw [List.mem_singleton.1 hx]; exact xI_ok, by decide, .inr ⟨bc, 0, rfl, hbc, fun j hj => by have e : j = 0 := Nat.lt_one_iff.1 hj; subst e; exact hi⟩⟩ (Nat.le_refl _)
  rw [right_maps hl, hb] at h
  exact h

theorem cell_five {W : World} {g a0 a1 a2 a3 a4 : Nat} {v0 v1 v2 v3 v4 : Value} {p : Addr} (h : p.block ≠ g) : (((((W.setCell ⟨g, a0, none⟩ v0).setCell ⟨g, a1, none⟩ v1).setCell ⟨g, a2, none⟩ v2).setCell ⟨g, a3, none⟩ v3).setCell ⟨g, a4, none⟩ v4).cell? p = W.cell? p := by
  have e : ∀ o, (⟨g, o, none⟩ : Addr) ≠ p := fun o e => h (by rw [← e])
  rw [set_oth (e _), set_oth (e _), set_oth (e _), set_oth (e _), set_oth (e _)]
theorem cell_fived {W : World} {g a0 a1 a2 a3 a4 : Nat} {v0 v1 v2 v3 v4 : Value} {p : Addr} (h : p.block ≠ g) : (((((W.setCell ⟨g, a0, none⟩ v0).setCell ⟨g, a1, none⟩ v1).setCell ⟨g, a2, none⟩ v2).setCell ⟨g, a3, none⟩ v3).setCell ⟨g, a4, none⟩ v4).drew.cell? p = W.cell? p :=
  (show ∀ X : World, X.drew.cell? p = X.cell? p from fun _ => rfl) _ |>.trans (cell_five h)
theorem own_five {W : World} {b : Nat} {e : TypeId} {k n cap g1 g : Nat} {xs : List Value} (h : W.ownsRow b e k (.slice (some ⟨g1, 0, none⟩) n cap) n xs) (hne : g1 ≠ g) (a0 a1 a2 a3 a4 : Nat) (v0 v1 v2 v3 v4 : Value) : (((((W.setCell ⟨g, a0, none⟩ v0).setCell ⟨g, a1, none⟩ v1).setCell ⟨g, a2, none⟩ v2).setCell ⟨g, a3, none⟩ v3).setCell ⟨g, a4, none⟩ v4).ownsRow b e k (.slice (some ⟨g1, 0, none⟩) n cap) n xs := by
  have hn : ∀ (X : World) o v, X.ownsRow b e k (.slice (some ⟨g1, 0, none⟩) n cap) n xs → (X.setCell ⟨g, o, none⟩ v).ownsRow b e k (.slice (some ⟨g1, 0, none⟩) n cap) n xs := fun X o v h => h.kept (grown_set X ⟨g, o, none⟩ v) (.inr (by simp [Value.ownBlock]; exact hne))
  exact hn _ _ _ (hn _ _ _ (hn _ _ _ (hn _ _ _ (hn _ _ _ h))))
theorem below_five {w W : World} {B g a0 a1 a2 a3 a4 : Nat} {v0 v1 v2 v3 v4 : Value} (h : Below B w W) (hg : B ≤ g) : Below B w (((((W.setCell ⟨g, a0, none⟩ v0).setCell ⟨g, a1, none⟩ v1).setCell ⟨g, a2, none⟩ v2).setCell ⟨g, a3, none⟩ v3).setCell ⟨g, a4, none⟩ v4) :=
  ((((h.setCell (p := ⟨g, a0, none⟩) hg _).setCell (p := ⟨g, a1, none⟩) hg _).setCell (p := ⟨g, a2, none⟩) hg _).setCell (p := ⟨g, a3, none⟩) hg _).setCell (p := ⟨g, a4, none⟩) hg _
theorem below_dn {B : Nat} {a w : World} (h : Below B a w) (n : Nat) : Below B a (w.drewN n) := ⟨h.os, h.tape, h.output, h.size, h.block⟩
theorem below_al {a w : World} (h : Below a.heap.size a w) (o : Obj) : Below a.heap.size a (w.alloc o) := h.alloc h.size o
/-- A list whose first m are c's. -/
def Ahd (c : List I5) (m : Nat) (e : List I5) : Prop := e.length = c.length ∧ CdOk e ∧ ∀ j, j < m → e[j]? = c[j]?
theorem Ahd.set {c e : List I5} {m a : Nat} (h : Ahd c m e) (ha : m ≤ a) {x : I5} (hx : x.ok) : Ahd c m (e.set a x) := by
  obtain ⟨h1, h2, h3⟩ := h
  refine ⟨by simp [h1], fun y hy => ?_, fun j hj => ?_⟩
  · rcases List.mem_or_eq_of_mem_set hy with hy | rfl
    · exact h2 y hy
    · exact hx
  · rw [List.getElem?_set_ne (by omega)]
    exact h3 j hj

set_option maxRecDepth 100000 in
set_option maxHeartbeats 8000000 in
theorem shapeAhead_walk (pm pc pk : Option Addr) (cm cc ck n m nk : Nat) (l : List M4) (c d : List I5) (w : World) (hz : SzOk w) (hml : MpSl w.heap.size w pm n l) (hsl : CdSl w.heap.size w pc m c) (hdl : CdSl w.heap.size w pk nk d) (hcap : m ≤ cc) (hck : nk ≤ ck) :
    Calls Tryd.prog 4 #[.agg #[.slice pm n cm, .slice pc m cc], .slice pk nk ck] w fun e w' => e = .returned (.bool true) ∧ Below w.heap.size w w' := by
  obtain rfl := hml.1
  obtain rfl := hsl.1
  obtain rfl := hdl.1
  have HZ := hid hz
  have HOK := hid hsl.2.1
  have HM := hid hml
  have HS := hid hsl
  have HD := hid hdl
  have HC := hid fun W (hb : Below w.heap.size w W) => check_any pm pc cm cc l c W (hz.below hb) ((hml.kept hb (Nat.le_refl _)).wide hb.size) ((hsl.kept hb (Nat.le_refl _)).wide hb.size) hcap
  have HT := hid fun W (hb : Below w.heap.size w W) => twin_any pm pc cm cc l.length c.length l c W ((hml.kept hb (Nat.le_refl _)).wide hb.size) ((hsl.kept hb (Nat.le_refl _)).wide hb.size)
  have HA := hid fun W (hb : Below w.heap.size w W) => awake_any W (hz.below hb)
  clear hz hml hsl hdl
  go_enter Tryd.func4, Tryd.ntmps4
  go_wp2_with fail
  have hB0 : Below w.heap.size w (w.alloc (.cells #[.slice pm l.length cm, .slice pc c.length cc] 25)) := (Below.refl _ w).alloc (Nat.le_refl _) _
  have k0 : (w.alloc (.cells #[.slice pm l.length cm, .slice pc c.length cc] 25)).cell? ⟨w.heap.size, 0, none⟩ = some (.slice pm l.length cm) := by simp
  have k1 : (w.alloc (.cells #[.slice pm l.length cm, .slice pc c.length cc] 25)).cell? ⟨w.heap.size, 1, none⟩ = some (.slice pc c.length cc) := by simp
  generalize w.alloc (.cells #[.slice pm l.length cm, .slice pc c.length cc] 25) = W0 at *
  refine (HA.out W0 hB0).mono ?_
  rintro e w1 ⟨rfl, b1⟩
  replace k0 := cn b1 k0
  replace k1 := cn b1 k1
  have HB1 := hid (below_next hB0 b1)
  clear b1 hB0
  go_wp2_with fail
  refine (HC.out w1 HB1.out).mono ?_
  rintro e w2 ⟨rfl, b2⟩
  replace k0 := cn b2 k0
  replace k1 := cn b2 k1
  have HB2 := hid (below_next HB1.out b2)
  clear b2 HB1 HC
  have HR := hid (rfl : chkI l c = chkI l c)
  have HP := hid (@ahead_cases l c (chkI l c).1 (chkI l c).2 rfl)
  generalize (chkI l c).1 = a at *
  generalize (chkI l c).2 = e at *
  by_cases e0 : e = 0
  · subst e0
    go_wp2
    go_ret
    exact ⟨rfl, HB2.out⟩
  by_cases e4 : e = 4
  · subst e4
    go_wp2
    go_ret
    exact ⟨rfl, HB2.out⟩
  by_cases e3 : e = 3
  · subst e3
    go_wp2
    go_ret
    exact ⟨rfl, HB2.out⟩
  by_cases e24 : e = 24
  · subst e24
    go_wp2
    go_ret
    exact ⟨rfl, HB2.out⟩
  by_cases e25 : e = 25
  · subst e25
    go_wp2
    go_ret
    exact ⟨rfl, HB2.out⟩
  have HP' := hid (HP.out e0 e4 e3 e24 e25)
  have x0 : (e == 0) = false := by simpa using e0
  have x4 : (e == 4) = false := by simpa using e4
  have x3 : (e == 3) = false := by simpa using e3
  have x24 : (e == 24) = false := by simpa using e24
  have x25 : (e == 25) = false := by simpa using e25
  clear HP
  by_cases h512 : 512 < c.length
  · have t1 : decide (512 < c.length) = true := decide_eq_true h512
    have t2 : decide ((512 : Int) < (c.length : Int)) = true := decide_eq_true (by omega)
    go_wp2
    go_ret
    exact ⟨rfl, HB2.out⟩
  have t1 : decide (512 < c.length) = false := decide_eq_false h512
  have t2 : decide ((512 : Int) < (c.length : Int)) = false := decide_eq_false (by omega)
  rcases HP'.out with ⟨k, hb, rfl, rfl, hk, hl4⟩ | ⟨hb, hl4, k, hk, _, rfl, hf, rfl⟩
  · have t3 : decide ((k : Int) < 0) = false := decide_eq_false (by omega)
    have t4 : decide ((k : Int) < (l.length : Int)) = true := decide_eq_true (by omega)
    have HBM := hid hb
    clear hb x0 x4 x3 x24 x25 e0 e4 e3 e24 e25 HP'
    have hsz2 : w.heap.size < w2.heap.size := World.block_lt_of_cell? w2 _ k0
    go_wp2_with fail
    go_region_law (first
      | (go_simp; go_at_call 20; refine (exit_is _).mono ?_; rintro e we ⟨rfl, be⟩; have hbe : Below w2.heap.size w2 we := below_next (below_dr w2) be; have m0 := cn hbe k0; have q1 : w.heap.size < we.heap.size := Nat.lt_of_lt_of_le hsz2 hbe.size)
      | (go_simp; go_at_call 19; have hbW : Below w2.heap.size w2 (we.alloc (.cells #[.int .u8 149, .int .u8 0, .int .u8 0, .int .i16 0, .int .i32 0] 37)) := hbe.alloc hbe.size _; have hrc := right_maps_lit (cm := cm) (W := we.alloc (.cells #[.int .u8 149, .int .u8 0, .int .u8 0, .int .i16 0, .int .i32 0] 37)) (b := false) (HZ.out.below (below_next HB2.out hbW)) ((HM.out.kept (below_next HB2.out hbW) (Nat.le_refl _)).wide (below_next HB2.out hbW).size) (insC_new we) hl4 (by rw [HBM.out]; rfl); with_reducible refine hrc.mono ?_; rintro e w4 ⟨rfl, b4⟩))
    all_goals
      have hb4 := below_next hbW b4
      replace k0 := cn hb4 k0
      replace k1 := cn hb4 k1
      have HB4 := hid (below_next HB2.out hb4)
      clear hrc hb4 b4 hbW hbe m0 q1 HB2
      have hsz4 : w.heap.size < w4.heap.size := World.block_lt_of_cell? w4 _ k0
      obtain ⟨ii, hii, hp⟩ := Option.map_eq_some_iff.1 insInfo
      injection hp with hi1 hp
      injection hp with hi2 hi3
      have HII := hid (And.intro hii (And.intro hi1 (And.intro hi2 hi3)))
      clear hii hi1 hi2 hi3
      obtain ⟨mm, hmm, hmd, hm20⟩ : ∃ mm : Nat, (if (20 : Int) < (d.length : Int) then (20 : Int) else (d.length : Int)) = (mm : Int) ∧ mm ≤ d.length ∧ mm ≤ 20 := by
        by_cases h : 20 < d.length
        · exact ⟨20, if_pos (by omega), by omega, by omega⟩
        · exact ⟨d.length, if_neg (by omega), by omega, by omega⟩
      have hmk : (mm : Int) ≤ (ck : Int) := by omega
      have hm0 : 0 ≤ (mm : Int) := by omega
      have HDQ := hid (cd_take HD.out hmd)
      have HDL := hid (show (d.take mm).length = mm by rw [List.length_take]; omega)
      have HLN := hid (show ([xI] ++ d.take mm).length = 1 + mm by rw [List.length_append, List.length_take]; simp; omega)
      have HOA := hid (show CdOk ([xI] ++ d.take mm) from fun x hx => by
        rcases List.mem_append.1 hx with h | h
        · rw [List.mem_singleton.1 h]; exact xI_ok
        · exact HDQ.out.2.1 x h)
      have HCH := hid (chk_map (d := [xI] ++ d.take mm) HBM.out hl4 (by simp) (by rw [HLN.out]; omega))
      have HCK : Hid (∀ (W : World) (g kk : Nat), Below w4.heap.size w4 W → W.ownsRow w4.heap.size 37 5 (.slice (some ⟨g, 0, none⟩) (1 + mm) kk) (1 + mm) ([xI].flatMap cellsI ++ (d.take mm).flatMap cellsI) → 1 + mm ≤ kk → Calls Tryd.prog 15 #[.agg #[.slice pm l.length cm, .slice (some ⟨g, 0, none⟩) (1 + mm) kk]] W (fun e w' => e = .returned (.tuple #[.int .i64 (k : Int), .int .i64 26]) ∧ Below W.heap.size W w')) := hid (fun W g kk hb ho hk => by
        have hcd : CdSl W.heap.size W (some ⟨g, 0, none⟩) (1 + mm) ([xI] ++ d.take mm) := own_cd (by rw [List.flatMap_append]; exact ho) HLN.out HOA.out (by omega)
        have hrc := check_any pm (some ⟨g, 0, none⟩) cm kk l ([xI] ++ d.take mm) W (HZ.out.below (below_next HB4.out hb)) ((HM.out.kept (below_next HB4.out hb) (Nat.le_refl _)).wide (below_next HB4.out hb).size) (by rw [HLN.out]; exact hcd) (by rw [HLN.out]; exact hk)
        rw [HLN.out, HCH.out] at hrc
        exact hrc)
      clear HOA HCH
      go_wp2_with fail
      go_region_held3 (fun w' => w'.cell? ⟨w.heap.size, 0, none⟩ = some (.slice pm l.length cm) ∧ Below w4.heap.size w4 w')
        (first
          | assumption
          | (go_split_ands; exact ⟨by assumption, by assumption⟩)
          | exact ⟨m5, hbv⟩
          | (go_split_ands; exact ⟨cn b6 (by assumption), below_next (by assumption) b6⟩)
          | (go_split_ands; exact ⟨cna _ (by assumption), below_al (by assumption) _⟩)
          | exact ⟨cn (below_dr w4) k0, below_dr w4⟩
          | (go_split_ands; exact ⟨cn be (by assumption), below_next (by assumption) be⟩))
        (first
          | (go_at_call 20; refine (exit_is _).mono ?_; rintro e we ⟨rfl, be⟩)
          | (go_split_ands; refine step_app _ rfl (.tmp 68) (.tmp 73) 23 rfl w4.heap.size 37 ii _ 5 12 Tryd.underlying23 HII.out.1 HII.out.2.1 HII.out.2.2.1 HII.out.2.2.2 rfl (by decide) (.slice (some ⟨we.heap.size, 0, none⟩) 1 1) 1 ([xI].flatMap cellsI) (by exact rfl) (own_lit we w4.heap.size (show w4.heap.size ≤ we.heap.size from be.size)) w.heap.size pk mm ck ((d.take mm).flatMap cellsI) (by exact rfl) (by rw [flat5_len, HDL.out]) ((src_code HDQ.out).kept (below_next HB4.out (show Below w4.heap.size w4 (we.alloc (.cells #[.int .u8 149, .int .u8 0, .int .u8 0, .int .i16 0, .int .i32 0] 37)) from by assumption)) (Nat.le_refl _)) (flat5_one _) (by simp only [maxLen]; omega) (by omega) (by have := be.size; simp at this ⊢; omega) ?_; intro v5 w5 own5 grow5 at5; obtain ⟨g5, k5, rfl, hk5, hg5b, hg5l⟩ := own_some own5 (by omega); have hbv : Below w4.heap.size w4 w5 := (show Below w4.heap.size w4 (we.alloc (.cells #[.int .u8 149, .int .u8 0, .int .u8 0, .int .i16 0, .int .i32 0] 37)) from by assumption).grown grow5 (by have := be.size; simp at this ⊢; omega) (fun k e => by simp [Value.ownBlock] at e; subst e; exact be.size); have m5 := cn hbv k0; have HO5 := hid own5; have HK5 := hid hk5; clear own5 grow5 at5 hk5 hg5b hg5l)
          | (go_at_call 15; with_reducible refine (HCK.out w5 g5 k5 hbv HO5.out HK5.out).mono ?_; rintro e w6 ⟨rfl, b6⟩))
      all_goals
        go_split_ands
        have HB6 := hid (below_next (below_next HB4.out hbv) b6)
        clear b6 m5 HO5 HK5 hbv
        go_wp2
        go_ret
        exact ⟨rfl, HB6.out⟩
  · have t3 : decide ((k : Int) < 0) = false := decide_eq_false (by omega)
    have t4 : decide ((c.length : Int) ≤ (k : Int)) = false := decide_eq_false (by omega)
    have HBM := hid hb
    have hcl : c.length ≤ 512 := by omega
    have HF := hid hf
    have hsz2 : w.heap.size < w2.heap.size := World.block_lt_of_cell? w2 _ k0
    clear hb e0 e4 e3 e24 e25 HP' hf
    have HEE := hid (rfl : alE l.length c k = alE l.length c k)
    generalize hEE : alE (l.length : Int) c k = e at *
    replace HEE := hid hEE
    clear hEE
    by_cases e26 : e = 26
    · subst e26
      by_cases hkl : k < l.length
      · have t5 : decide ((k : Int) < (l.length : Int)) = true := decide_eq_true (by omega)
        go_wp2_with fail
        go_region_law (first
          | (go_simp; go_at_call 20; refine (exit_is _).mono ?_; rintro e we ⟨rfl, be⟩; have hbe : Below w2.heap.size w2 we := below_next (below_dr w2) be; have m0 := cn hbe k0; have q1 : w.heap.size < we.heap.size := Nat.lt_of_lt_of_le hsz2 hbe.size)
          | (go_simp; go_at_call 19; have hbW : Below w2.heap.size w2 (we.alloc (.cells #[.int .u8 149, .int .u8 0, .int .u8 0, .int .i16 0, .int .i32 0] 37)) := hbe.alloc hbe.size _; have hrc := right_maps_lit (cm := cm) (W := we.alloc (.cells #[.int .u8 149, .int .u8 0, .int .u8 0, .int .i16 0, .int .i32 0] 37)) (b := true) (HZ.out.below (below_next HB2.out hbW)) ((HM.out.kept (below_next HB2.out hbW) (Nat.le_refl _)).wide (below_next HB2.out hbW).size) (insC_new we) hl4 (by rw [HBM.out]; rfl); with_reducible refine hrc.mono ?_; rintro e w4 ⟨rfl, b4⟩))
        all_goals
          have hb4 := below_next hbW b4
          replace k0 := cn hb4 k0
          replace k1 := cn hb4 k1
          have HB4 := hid (below_next HB2.out hb4)
          clear hrc hb4 b4 hbW hbe m0 q1 HB2
          go_wp2_with fail
          refine (HT.out w4 HB4.out).mono ?_
          rintro e5 w5 ⟨g1, c1_, g2, c2_, rfl, om, oc, hne, b5⟩
          have hb5 := below_next HB4.out b5
          have hg2 := oc.1.lt g2 rfl
          have hg1 := om.1.lt g1 rfl
          have hg2l : w.heap.size ≤ g2 := Nat.le_trans HB4.out.size hg2.1
          have hcl2 := oc.2
          have HB5 := hid hb5
          have HOM := hid om
          have HOC := hid oc
          clear b5 hb5 om oc k0 k1 HT
          go_wp2
          have bA := (Below.refl w5.heap.size w5).alloc (Nat.le_refl _) (.cells #[.slice (some ⟨g1, 0, none⟩) l.length c1_, .slice (some ⟨g2, 0, none⟩) c.length c2_] 25)
          have m0 : (w5.alloc (.cells #[.slice (some ⟨g1, 0, none⟩) l.length c1_, .slice (some ⟨g2, 0, none⟩) c.length c2_] 25)).cell? ⟨w5.heap.size, 0, none⟩ = some (.slice (some ⟨g1, 0, none⟩) l.length c1_) := by simp
          have m1 : (w5.alloc (.cells #[.slice (some ⟨g1, 0, none⟩) l.length c1_, .slice (some ⟨g2, 0, none⟩) c.length c2_] 25)).cell? ⟨w5.heap.size, 1, none⟩ = some (.slice (some ⟨g2, 0, none⟩) c.length c2_) := by simp
          have HB6 := hid (below_next HB5.out bA)
          have OM6 := hid ((HOM.out.kept bA).1)
          have OC6 := hid ((HOC.out.kept bA).1)
          have M0 := hid m0
          have M1 := hid m1
          have hgb : g2 ≠ w5.heap.size := Nat.ne_of_lt hg2.2
          clear bA m0 m1 HB5 HOM HOC hg1 hg2
          generalize w5.alloc (.cells #[.slice (some ⟨g1, 0, none⟩) l.length c1_, .slice (some ⟨g2, 0, none⟩) c.length c2_] 25) = W6 at *
          generalize w5.heap.size = b6 at *
          generalize w4.heap.size = bs at *
          have HG := hid hne
          have HGB := hid hgb
          clear hne hgb
          go_loopw [10] (fun i wr => ∃ (j : Nat) (a : Int) (e : List I5), i = .int .i64 a ∧ Hid (a = (k : Int) + 2 + (j : Int)) ∧ 0 ≤ a ∧ a < 1000000000000000 ∧ Hid (Ahd c (k + 2) e) ∧ Hid (wr.ownsRow bs 37 5 (.slice (some ⟨g2, 0, none⟩) c.length c2_) c.length (e.flatMap cellsI)) ∧ Hid (wr.ownsRow bs 48 4 (.slice (some ⟨g1, 0, none⟩) l.length c1_) l.length (l.flatMap cellsM)) ∧ Hid (Below w.heap.size w wr) ∧ Hid (wr.cell? ⟨b6, 0, none⟩ = some (.slice (some ⟨g1, 0, none⟩) l.length c1_) ∧ wr.cell? ⟨b6, 1, none⟩ = some (.slice (some ⟨g2, 0, none⟩) c.length c2_))) (fun i _ => 1000000000000000 - (intOf i).toNat)
          case atStart => exact ⟨0, (k : Int) + 2, c, rfl, hid (by omega), by omega, by omega, hid ⟨rfl, HOK.out, fun _ _ => rfl⟩, OC6, OM6, HB6, hid ⟨M0.out, M1.out⟩⟩
          case round =>
            obtain ⟨j, a, e, rfl, HA, ha0, ha1, HE, HO, HP, HB, HM6⟩ := hrel
            clear OC6 OM6 HB6 M0 M1
            obtain ⟨m0, m1⟩ := HM6.out
            by_cases hcc : a < (c.length : Int)
            · have q0 : decide (a < (c.length : Int)) = true := decide_eq_true hcc
              have hs2 : a - (k : Int) - 2 = (j : Int) := by have := HA.out; omega
              by_cases hjd : j < d.length
              · have hji : (j : Int) < (d.length : Int) := by omega
                have hj0 : 0 ≤ (j : Int) := by omega
                have q1 : decide ((j : Int) < (d.length : Int)) = true := decide_eq_true hji
                have q2 : decide (j < d.length) = true := decide_eq_true hjd
                obtain ⟨b, off, hp, hbl, hins⟩ := (HD.out.kept HB.out (Nat.le_refl _)).2.2.2.resolve_left (by omega)
                subst hp
                obtain ⟨i0, i1, i2, i3, i4⟩ := hins j hjd
                have hxo := at5_ok HD.out.2.1 j
                have hA : a.toNat = k + 2 + j := by have := HA.out; omega
                have hAl : k + 2 + j < c.length := by have := HA.out; omega
                have HAE := hid hA
                have hfz := fun o => HO.out.frozenAt o
                have hfl : (e.flatMap cellsI).length = c.length * 5 := by rw [flat5_len, HE.out.1]
                have hce : ∀ o, o < c.length * 5 → ∃ v, wr.cell? ⟨g2, o, none⟩ = some v := fun o ho => by
                  rw [HO.out.cellAt o ho, List.getElem?_eq_getElem (by rw [hfl]; exact ho)]
                  exact ⟨_, rfl⟩
                have HX := hid hxo
                have ha2 : 0 ≤ a - (k : Int) := by have := HA.out; omega
                clear hins
                generalize hx : at5 d j = x at *
                clear hx
                generalize hAn : k + 2 + j = an at *
                obtain ⟨u0, n0⟩ := hce (an * 5) (by omega)
                obtain ⟨u1, n1⟩ := hce (an * 5 + 1) (by omega)
                obtain ⟨u2, n2⟩ := hce (an * 5 + 2) (by omega)
                obtain ⟨u3, n3⟩ := hce (an * 5 + 3) (by omega)
                obtain ⟨u4, n4⟩ := hce (an * 5 + 4) (by omega)
                have f0 := hfz (an * 5)
                have f1 := hfz (an * 5 + 1)
                have f2 := hfz (an * 5 + 2)
                have f3 := hfz (an * 5 + 3)
                have f4 := hfz (an * 5 + 4)
                have HAN := hid hAn
                clear hfz hce hfl hAn
                go_wp2
                have HO2 := hid (World.ownsRow.drew (own_set HO.out (show an < e.length by rw [HE.out.1]; exact hAl) x))
                have HP2 := hid (World.ownsRow.drew (own_five HP.out HG.out (an * 5) (an * 5 + 1) (an * 5 + 2) (an * 5 + 3) (an * 5 + 4) (.int .u8 x.op) (.int .u8 x.dst) (.int .u8 x.src) (.int .i16 x.off) (.int .i32 x.imm)))
                have HB2 := hid (Below.drew (below_five (a0 := an * 5) (a1 := an * 5 + 1) (a2 := an * 5 + 2) (a3 := an * 5 + 3) (a4 := an * 5 + 4) (v0 := .int .u8 x.op) (v1 := .int .u8 x.dst) (v2 := .int .u8 x.src) (v3 := .int .i16 x.off) (v4 := .int .i32 x.imm) HB.out hg2l))
                have HE2 := hid (HE.out.set (show k + 2 ≤ an by have := HAN.out; omega) HX.out)
                have HM2 := hid (And.intro ((cell_fived (p := ⟨b6, 0, none⟩) (a0 := an * 5) (a1 := an * 5 + 1) (a2 := an * 5 + 2) (a3 := an * 5 + 3) (a4 := an * 5 + 4) (v0 := .int .u8 x.op) (v1 := .int .u8 x.dst) (v2 := .int .u8 x.src) (v3 := .int .i16 x.off) (v4 := .int .i32 x.imm) HGB.out.symm).trans m0) ((cell_fived (p := ⟨b6, 1, none⟩) (a0 := an * 5) (a1 := an * 5 + 1) (a2 := an * 5 + 2) (a3 := an * 5 + 3) (a4 := an * 5 + 4) (v0 := .int .u8 x.op) (v1 := .int .u8 x.dst) (v2 := .int .u8 x.src) (v3 := .int .i16 x.off) (v4 := .int .i32 x.imm) HGB.out.symm).trans m1))
                have HA2 := hid (show a + 1 = (k : Int) + 2 + ((j + 1 : Nat) : Int) by have := HA.out; omega)
                clear HO HP HB HE HM6
                go_region
                go_wp2
                go_roundw
                case rel => exact ⟨j + 1, a + 1, e.set an x, by simp, HA2, by omega, by omega, HE2, HO2, HP2, HB2, HM2⟩
                case measure => simp [intOf]; omega
              · have hji : ¬ (j : Int) < (d.length : Int) := by omega
                have q1 : decide ((j : Int) < (d.length : Int)) = false := decide_eq_false hji
                have q2 : decide (j < d.length) = false := decide_eq_false hjd
                go_wp2_with fail
                have HLE := hid HE.out.1
                have hrc := check_any (some ⟨g1, 0, none⟩) (some ⟨g2, 0, none⟩) c1_ c2_ l e wr (HZ.out.below HB.out) (own_mp HP.out rfl (by omega)) (HLE.out ▸ own_cd (by exact HO.out) HLE.out HE.out.2.1 (by omega)) (by rw [HLE.out]; omega)
                rw [HLE.out, chk_insn HBM.out hl4 hcl HE.out.1 HF.out HE.out.2.2] at hrc
                rw [HEE.out] at hrc
                refine hrc.mono ?_
                rintro e7 w7 ⟨rfl, b7⟩
                have HB7 := hid (below_next HB.out b7)
                clear hrc b7
                go_wp2
                go_ret
                exact ⟨rfl, HB7.out⟩
            · have q0 : decide (a < (c.length : Int)) = false := decide_eq_false hcc
              go_wp2_with fail
              have HLE := hid HE.out.1
              have hrc := check_any (some ⟨g1, 0, none⟩) (some ⟨g2, 0, none⟩) c1_ c2_ l e wr (HZ.out.below HB.out) (own_mp HP.out rfl (by omega)) (HLE.out ▸ own_cd (by exact HO.out) HLE.out HE.out.2.1 (by omega)) (by rw [HLE.out]; omega)
              rw [HLE.out, chk_insn HBM.out hl4 hcl HE.out.1 HF.out HE.out.2.2] at hrc
              rw [HEE.out] at hrc
              refine hrc.mono ?_
              rintro e7 w7 ⟨rfl, b7⟩
              have HB7 := hid (below_next HB.out b7)
              clear hrc b7
              go_wp2
              go_ret
              exact ⟨rfl, HB7.out⟩
      · have t5 : decide ((k : Int) < (l.length : Int)) = false := decide_eq_false (by omega)
        go_wp2_with fail
        go_quiet (fail)
        all_goals
          have hb4 := below_dn (Below.refl w2.heap.size w2) nq
          replace k0 := cn hb4 k0
          replace k1 := cn hb4 k1
          have HB4 := hid (below_next HB2.out hb4)
          clear hb4 HB2
          generalize w2.drewN nq = w4 at *
          go_wp2_with fail
          refine (HT.out w4 HB4.out).mono ?_
          rintro e5 w5 ⟨g1, c1_, g2, c2_, rfl, om, oc, hne, b5⟩
          have hb5 := below_next HB4.out b5
          have hg2 := oc.1.lt g2 rfl
          have hg1 := om.1.lt g1 rfl
          have hg2l : w.heap.size ≤ g2 := Nat.le_trans HB4.out.size hg2.1
          have hcl2 := oc.2
          have HB5 := hid hb5
          have HOM := hid om
          have HOC := hid oc
          clear b5 hb5 om oc k0 k1 HT
          go_wp2
          have bA := (Below.refl w5.heap.size w5).alloc (Nat.le_refl _) (.cells #[.slice (some ⟨g1, 0, none⟩) l.length c1_, .slice (some ⟨g2, 0, none⟩) c.length c2_] 25)
          have m0 : (w5.alloc (.cells #[.slice (some ⟨g1, 0, none⟩) l.length c1_, .slice (some ⟨g2, 0, none⟩) c.length c2_] 25)).cell? ⟨w5.heap.size, 0, none⟩ = some (.slice (some ⟨g1, 0, none⟩) l.length c1_) := by simp
          have m1 : (w5.alloc (.cells #[.slice (some ⟨g1, 0, none⟩) l.length c1_, .slice (some ⟨g2, 0, none⟩) c.length c2_] 25)).cell? ⟨w5.heap.size, 1, none⟩ = some (.slice (some ⟨g2, 0, none⟩) c.length c2_) := by simp
          have HB6 := hid (below_next HB5.out bA)
          have OM6 := hid ((HOM.out.kept bA).1)
          have OC6 := hid ((HOC.out.kept bA).1)
          have M0 := hid m0
          have M1 := hid m1
          have hgb : g2 ≠ w5.heap.size := Nat.ne_of_lt hg2.2
          clear bA m0 m1 HB5 HOM HOC hg1 hg2
          generalize w5.alloc (.cells #[.slice (some ⟨g1, 0, none⟩) l.length c1_, .slice (some ⟨g2, 0, none⟩) c.length c2_] 25) = W6 at *
          generalize w5.heap.size = b6 at *
          generalize w4.heap.size = bs at *
          have HG := hid hne
          have HGB := hid hgb
          clear hne hgb
          go_loopw [10] (fun i wr => ∃ (j : Nat) (a : Int) (e : List I5), i = .int .i64 a ∧ Hid (a = (k : Int) + 2 + (j : Int)) ∧ 0 ≤ a ∧ a < 1000000000000000 ∧ Hid (Ahd c (k + 2) e) ∧ Hid (wr.ownsRow bs 37 5 (.slice (some ⟨g2, 0, none⟩) c.length c2_) c.length (e.flatMap cellsI)) ∧ Hid (wr.ownsRow bs 48 4 (.slice (some ⟨g1, 0, none⟩) l.length c1_) l.length (l.flatMap cellsM)) ∧ Hid (Below w.heap.size w wr) ∧ Hid (wr.cell? ⟨b6, 0, none⟩ = some (.slice (some ⟨g1, 0, none⟩) l.length c1_) ∧ wr.cell? ⟨b6, 1, none⟩ = some (.slice (some ⟨g2, 0, none⟩) c.length c2_))) (fun i _ => 1000000000000000 - (intOf i).toNat)
          case atStart => exact ⟨0, (k : Int) + 2, c, rfl, hid (by omega), by omega, by omega, hid ⟨rfl, HOK.out, fun _ _ => rfl⟩, OC6, OM6, HB6, hid ⟨M0.out, M1.out⟩⟩
          case round =>
            obtain ⟨j, a, e, rfl, HA, ha0, ha1, HE, HO, HP, HB, HM6⟩ := hrel
            clear OC6 OM6 HB6 M0 M1
            obtain ⟨m0, m1⟩ := HM6.out
            by_cases hcc : a < (c.length : Int)
            · have q0 : decide (a < (c.length : Int)) = true := decide_eq_true hcc
              have hs2 : a - (k : Int) - 2 = (j : Int) := by have := HA.out; omega
              by_cases hjd : j < d.length
              · have hji : (j : Int) < (d.length : Int) := by omega
                have hj0 : 0 ≤ (j : Int) := by omega
                have q1 : decide ((j : Int) < (d.length : Int)) = true := decide_eq_true hji
                have q2 : decide (j < d.length) = true := decide_eq_true hjd
                obtain ⟨b, off, hp, hbl, hins⟩ := (HD.out.kept HB.out (Nat.le_refl _)).2.2.2.resolve_left (by omega)
                subst hp
                obtain ⟨i0, i1, i2, i3, i4⟩ := hins j hjd
                have hxo := at5_ok HD.out.2.1 j
                have hA : a.toNat = k + 2 + j := by have := HA.out; omega
                have hAl : k + 2 + j < c.length := by have := HA.out; omega
                have HAE := hid hA
                have hfz := fun o => HO.out.frozenAt o
                have hfl : (e.flatMap cellsI).length = c.length * 5 := by rw [flat5_len, HE.out.1]
                have hce : ∀ o, o < c.length * 5 → ∃ v, wr.cell? ⟨g2, o, none⟩ = some v := fun o ho => by
                  rw [HO.out.cellAt o ho, List.getElem?_eq_getElem (by rw [hfl]; exact ho)]
                  exact ⟨_, rfl⟩
                have HX := hid hxo
                have ha2 : 0 ≤ a - (k : Int) := by have := HA.out; omega
                clear hins
                generalize hx : at5 d j = x at *
                clear hx
                generalize hAn : k + 2 + j = an at *
                obtain ⟨u0, n0⟩ := hce (an * 5) (by omega)
                obtain ⟨u1, n1⟩ := hce (an * 5 + 1) (by omega)
                obtain ⟨u2, n2⟩ := hce (an * 5 + 2) (by omega)
                obtain ⟨u3, n3⟩ := hce (an * 5 + 3) (by omega)
                obtain ⟨u4, n4⟩ := hce (an * 5 + 4) (by omega)
                have f0 := hfz (an * 5)
                have f1 := hfz (an * 5 + 1)
                have f2 := hfz (an * 5 + 2)
                have f3 := hfz (an * 5 + 3)
                have f4 := hfz (an * 5 + 4)
                have HAN := hid hAn
                clear hfz hce hfl hAn
                go_wp2
                have HO2 := hid (World.ownsRow.drew (own_set HO.out (show an < e.length by rw [HE.out.1]; exact hAl) x))
                have HP2 := hid (World.ownsRow.drew (own_five HP.out HG.out (an * 5) (an * 5 + 1) (an * 5 + 2) (an * 5 + 3) (an * 5 + 4) (.int .u8 x.op) (.int .u8 x.dst) (.int .u8 x.src) (.int .i16 x.off) (.int .i32 x.imm)))
                have HB2 := hid (Below.drew (below_five (a0 := an * 5) (a1 := an * 5 + 1) (a2 := an * 5 + 2) (a3 := an * 5 + 3) (a4 := an * 5 + 4) (v0 := .int .u8 x.op) (v1 := .int .u8 x.dst) (v2 := .int .u8 x.src) (v3 := .int .i16 x.off) (v4 := .int .i32 x.imm) HB.out hg2l))
                have HE2 := hid (HE.out.set (show k + 2 ≤ an by have := HAN.out; omega) HX.out)
                have HM2 := hid (And.intro ((cell_fived (p := ⟨b6, 0, none⟩) (a0 := an * 5) (a1 := an * 5 + 1) (a2 := an * 5 + 2) (a3 := an * 5 + 3) (a4 := an * 5 + 4) (v0 := .int .u8 x.op) (v1 := .int .u8 x.dst) (v2 := .int .u8 x.src) (v3 := .int .i16 x.off) (v4 := .int .i32 x.imm) HGB.out.symm).trans m0) ((cell_fived (p := ⟨b6, 1, none⟩) (a0 := an * 5) (a1 := an * 5 + 1) (a2 := an * 5 + 2) (a3 := an * 5 + 3) (a4 := an * 5 + 4) (v0 := .int .u8 x.op) (v1 := .int .u8 x.dst) (v2 := .int .u8 x.src) (v3 := .int .i16 x.off) (v4 := .int .i32 x.imm) HGB.out.symm).trans m1))
                have HA2 := hid (show a + 1 = (k : Int) + 2 + ((j + 1 : Nat) : Int) by have := HA.out; omega)
                clear HO HP HB HE HM6
                go_region
                go_wp2
                go_roundw
                case rel => exact ⟨j + 1, a + 1, e.set an x, by simp, HA2, by omega, by omega, HE2, HO2, HP2, HB2, HM2⟩
                case measure => simp [intOf]; omega
              · have hji : ¬ (j : Int) < (d.length : Int) := by omega
                have q1 : decide ((j : Int) < (d.length : Int)) = false := decide_eq_false hji
                have q2 : decide (j < d.length) = false := decide_eq_false hjd
                go_wp2_with fail
                have HLE := hid HE.out.1
                have hrc := check_any (some ⟨g1, 0, none⟩) (some ⟨g2, 0, none⟩) c1_ c2_ l e wr (HZ.out.below HB.out) (own_mp HP.out rfl (by omega)) (HLE.out ▸ own_cd (by exact HO.out) HLE.out HE.out.2.1 (by omega)) (by rw [HLE.out]; omega)
                rw [HLE.out, chk_insn HBM.out hl4 hcl HE.out.1 HF.out HE.out.2.2] at hrc
                rw [HEE.out] at hrc
                refine hrc.mono ?_
                rintro e7 w7 ⟨rfl, b7⟩
                have HB7 := hid (below_next HB.out b7)
                clear hrc b7
                go_wp2
                go_ret
                exact ⟨rfl, HB7.out⟩
            · have q0 : decide (a < (c.length : Int)) = false := decide_eq_false hcc
              go_wp2_with fail
              have HLE := hid HE.out.1
              have hrc := check_any (some ⟨g1, 0, none⟩) (some ⟨g2, 0, none⟩) c1_ c2_ l e wr (HZ.out.below HB.out) (own_mp HP.out rfl (by omega)) (HLE.out ▸ own_cd (by exact HO.out) HLE.out HE.out.2.1 (by omega)) (by rw [HLE.out]; omega)
              rw [HLE.out, chk_insn HBM.out hl4 hcl HE.out.1 HF.out HE.out.2.2] at hrc
              rw [HEE.out] at hrc
              refine hrc.mono ?_
              rintro e7 w7 ⟨rfl, b7⟩
              have HB7 := hid (below_next HB.out b7)
              clear hrc b7
              go_wp2
              go_ret
              exact ⟨rfl, HB7.out⟩
    · have t6 : (e == 26) = false := by simpa using e26
      go_wp2_with fail
      go_quiet (fail)
      all_goals
        have hb4 := below_dn (Below.refl w2.heap.size w2) nq
        replace k0 := cn hb4 k0
        replace k1 := cn hb4 k1
        have HB4 := hid (below_next HB2.out hb4)
        clear hb4 HB2
        generalize w2.drewN nq = w4 at *
        go_wp2_with fail
        refine (HT.out w4 HB4.out).mono ?_
        rintro e5 w5 ⟨g1, c1_, g2, c2_, rfl, om, oc, hne, b5⟩
        have hb5 := below_next HB4.out b5
        have hg2 := oc.1.lt g2 rfl
        have hg1 := om.1.lt g1 rfl
        have hg2l : w.heap.size ≤ g2 := Nat.le_trans HB4.out.size hg2.1
        have hcl2 := oc.2
        have HB5 := hid hb5
        have HOM := hid om
        have HOC := hid oc
        clear b5 hb5 om oc k0 k1 HT
        go_wp2
        have bA := (Below.refl w5.heap.size w5).alloc (Nat.le_refl _) (.cells #[.slice (some ⟨g1, 0, none⟩) l.length c1_, .slice (some ⟨g2, 0, none⟩) c.length c2_] 25)
        have m0 : (w5.alloc (.cells #[.slice (some ⟨g1, 0, none⟩) l.length c1_, .slice (some ⟨g2, 0, none⟩) c.length c2_] 25)).cell? ⟨w5.heap.size, 0, none⟩ = some (.slice (some ⟨g1, 0, none⟩) l.length c1_) := by simp
        have m1 : (w5.alloc (.cells #[.slice (some ⟨g1, 0, none⟩) l.length c1_, .slice (some ⟨g2, 0, none⟩) c.length c2_] 25)).cell? ⟨w5.heap.size, 1, none⟩ = some (.slice (some ⟨g2, 0, none⟩) c.length c2_) := by simp
        have HB6 := hid (below_next HB5.out bA)
        have OM6 := hid ((HOM.out.kept bA).1)
        have OC6 := hid ((HOC.out.kept bA).1)
        have M0 := hid m0
        have M1 := hid m1
        have hgb : g2 ≠ w5.heap.size := Nat.ne_of_lt hg2.2
        clear bA m0 m1 HB5 HOM HOC hg1 hg2
        generalize w5.alloc (.cells #[.slice (some ⟨g1, 0, none⟩) l.length c1_, .slice (some ⟨g2, 0, none⟩) c.length c2_] 25) = W6 at *
        generalize w5.heap.size = b6 at *
        generalize w4.heap.size = bs at *
        have HG := hid hne
        have HGB := hid hgb
        clear hne hgb
        go_loopw [10] (fun i wr => ∃ (j : Nat) (a : Int) (e : List I5), i = .int .i64 a ∧ Hid (a = (k : Int) + 2 + (j : Int)) ∧ 0 ≤ a ∧ a < 1000000000000000 ∧ Hid (Ahd c (k + 2) e) ∧ Hid (wr.ownsRow bs 37 5 (.slice (some ⟨g2, 0, none⟩) c.length c2_) c.length (e.flatMap cellsI)) ∧ Hid (wr.ownsRow bs 48 4 (.slice (some ⟨g1, 0, none⟩) l.length c1_) l.length (l.flatMap cellsM)) ∧ Hid (Below w.heap.size w wr) ∧ Hid (wr.cell? ⟨b6, 0, none⟩ = some (.slice (some ⟨g1, 0, none⟩) l.length c1_) ∧ wr.cell? ⟨b6, 1, none⟩ = some (.slice (some ⟨g2, 0, none⟩) c.length c2_))) (fun i _ => 1000000000000000 - (intOf i).toNat)
        case atStart => exact ⟨0, (k : Int) + 2, c, rfl, hid (by omega), by omega, by omega, hid ⟨rfl, HOK.out, fun _ _ => rfl⟩, OC6, OM6, HB6, hid ⟨M0.out, M1.out⟩⟩
        case round =>
          obtain ⟨j, a, e, rfl, HA, ha0, ha1, HE, HO, HP, HB, HM6⟩ := hrel
          clear OC6 OM6 HB6 M0 M1
          obtain ⟨m0, m1⟩ := HM6.out
          by_cases hcc : a < (c.length : Int)
          · have q0 : decide (a < (c.length : Int)) = true := decide_eq_true hcc
            have hs2 : a - (k : Int) - 2 = (j : Int) := by have := HA.out; omega
            by_cases hjd : j < d.length
            · have hji : (j : Int) < (d.length : Int) := by omega
              have hj0 : 0 ≤ (j : Int) := by omega
              have q1 : decide ((j : Int) < (d.length : Int)) = true := decide_eq_true hji
              have q2 : decide (j < d.length) = true := decide_eq_true hjd
              obtain ⟨b, off, hp, hbl, hins⟩ := (HD.out.kept HB.out (Nat.le_refl _)).2.2.2.resolve_left (by omega)
              subst hp
              obtain ⟨i0, i1, i2, i3, i4⟩ := hins j hjd
              have hxo := at5_ok HD.out.2.1 j
              have hA : a.toNat = k + 2 + j := by have := HA.out; omega
              have hAl : k + 2 + j < c.length := by have := HA.out; omega
              have HAE := hid hA
              have hfz := fun o => HO.out.frozenAt o
              have hfl : (e.flatMap cellsI).length = c.length * 5 := by rw [flat5_len, HE.out.1]
              have hce : ∀ o, o < c.length * 5 → ∃ v, wr.cell? ⟨g2, o, none⟩ = some v := fun o ho => by
                rw [HO.out.cellAt o ho, List.getElem?_eq_getElem (by rw [hfl]; exact ho)]
                exact ⟨_, rfl⟩
              have HX := hid hxo
              have ha2 : 0 ≤ a - (k : Int) := by have := HA.out; omega
              clear hins
              generalize hx : at5 d j = x at *
              clear hx
              generalize hAn : k + 2 + j = an at *
              obtain ⟨u0, n0⟩ := hce (an * 5) (by omega)
              obtain ⟨u1, n1⟩ := hce (an * 5 + 1) (by omega)
              obtain ⟨u2, n2⟩ := hce (an * 5 + 2) (by omega)
              obtain ⟨u3, n3⟩ := hce (an * 5 + 3) (by omega)
              obtain ⟨u4, n4⟩ := hce (an * 5 + 4) (by omega)
              have f0 := hfz (an * 5)
              have f1 := hfz (an * 5 + 1)
              have f2 := hfz (an * 5 + 2)
              have f3 := hfz (an * 5 + 3)
              have f4 := hfz (an * 5 + 4)
              have HAN := hid hAn
              clear hfz hce hfl hAn
              go_wp2
              have HO2 := hid (World.ownsRow.drew (own_set HO.out (show an < e.length by rw [HE.out.1]; exact hAl) x))
              have HP2 := hid (World.ownsRow.drew (own_five HP.out HG.out (an * 5) (an * 5 + 1) (an * 5 + 2) (an * 5 + 3) (an * 5 + 4) (.int .u8 x.op) (.int .u8 x.dst) (.int .u8 x.src) (.int .i16 x.off) (.int .i32 x.imm)))
              have HB2 := hid (Below.drew (below_five (a0 := an * 5) (a1 := an * 5 + 1) (a2 := an * 5 + 2) (a3 := an * 5 + 3) (a4 := an * 5 + 4) (v0 := .int .u8 x.op) (v1 := .int .u8 x.dst) (v2 := .int .u8 x.src) (v3 := .int .i16 x.off) (v4 := .int .i32 x.imm) HB.out hg2l))
              have HE2 := hid (HE.out.set (show k + 2 ≤ an by have := HAN.out; omega) HX.out)
              have HM2 := hid (And.intro ((cell_fived (p := ⟨b6, 0, none⟩) (a0 := an * 5) (a1 := an * 5 + 1) (a2 := an * 5 + 2) (a3 := an * 5 + 3) (a4 := an * 5 + 4) (v0 := .int .u8 x.op) (v1 := .int .u8 x.dst) (v2 := .int .u8 x.src) (v3 := .int .i16 x.off) (v4 := .int .i32 x.imm) HGB.out.symm).trans m0) ((cell_fived (p := ⟨b6, 1, none⟩) (a0 := an * 5) (a1 := an * 5 + 1) (a2 := an * 5 + 2) (a3 := an * 5 + 3) (a4 := an * 5 + 4) (v0 := .int .u8 x.op) (v1 := .int .u8 x.dst) (v2 := .int .u8 x.src) (v3 := .int .i16 x.off) (v4 := .int .i32 x.imm) HGB.out.symm).trans m1))
              have HA2 := hid (show a + 1 = (k : Int) + 2 + ((j + 1 : Nat) : Int) by have := HA.out; omega)
              clear HO HP HB HE HM6
              go_region
              go_wp2
              go_roundw
              case rel => exact ⟨j + 1, a + 1, e.set an x, by simp, HA2, by omega, by omega, HE2, HO2, HP2, HB2, HM2⟩
              case measure => simp [intOf]; omega
            · have hji : ¬ (j : Int) < (d.length : Int) := by omega
              have q1 : decide ((j : Int) < (d.length : Int)) = false := decide_eq_false hji
              have q2 : decide (j < d.length) = false := decide_eq_false hjd
              go_wp2_with fail
              have HLE := hid HE.out.1
              have hrc := check_any (some ⟨g1, 0, none⟩) (some ⟨g2, 0, none⟩) c1_ c2_ l e wr (HZ.out.below HB.out) (own_mp HP.out rfl (by omega)) (HLE.out ▸ own_cd (by exact HO.out) HLE.out HE.out.2.1 (by omega)) (by rw [HLE.out]; omega)
              rw [HLE.out, chk_insn HBM.out hl4 hcl HE.out.1 HF.out HE.out.2.2] at hrc
              rw [HEE.out] at hrc
              refine hrc.mono ?_
              rintro e7 w7 ⟨rfl, b7⟩
              have HB7 := hid (below_next HB.out b7)
              clear hrc b7
              go_wp2
              go_ret
              exact ⟨rfl, HB7.out⟩
          · have q0 : decide (a < (c.length : Int)) = false := decide_eq_false hcc
            go_wp2_with fail
            have HLE := hid HE.out.1
            have hrc := check_any (some ⟨g1, 0, none⟩) (some ⟨g2, 0, none⟩) c1_ c2_ l e wr (HZ.out.below HB.out) (own_mp HP.out rfl (by omega)) (HLE.out ▸ own_cd (by exact HO.out) HLE.out HE.out.2.1 (by omega)) (by rw [HLE.out]; omega)
            rw [HLE.out, chk_insn HBM.out hl4 hcl HE.out.1 HF.out HE.out.2.2] at hrc
            rw [HEE.out] at hrc
            refine hrc.mono ?_
            rintro e7 w7 ⟨rfl, b7⟩
            have HB7 := hid (below_next HB.out b7)
            clear hrc b7
            go_wp2
            go_ret
            exact ⟨rfl, HB7.out⟩
end Go.Proofs.YtdnkikgfiganaaaDoor
