/-
  The walk of law ShapeJumps: an image is right just if it is without its jumps and each jump goes to where one begins. The table of sizes is as start-up lays it (the card ties it); no other condition.
-/
import Derived.Test.YtdnkikgfiganaaaDoorMoH
import Derived.Test.YtdnkikgfiganaaaDoorTwin
import Derived.Test.YtdnkikgfiganaaaDoorAhH
import Derived.Test.YtdnkikgfiganaaaDoorShJ
import Derived.Deep.RegionLaw
import Derived.Deep.RegionHeld3
namespace Go.Proofs.YtdnkikgfiganaaaDoor
set_option linter.unusedSimpArgs false
set_option linter.unusedVariables false
open Go.ChangeShapes Go.WideShapes Go.ChangeAt Go.RowKit

theorem cell_five {W : World} {g a0 a1 a2 a3 a4 : Nat} {v0 v1 v2 v3 v4 : Value} {p : Addr} (h : p.block ≠ g) : (((((W.setCell ⟨g, a0, none⟩ v0).setCell ⟨g, a1, none⟩ v1).setCell ⟨g, a2, none⟩ v2).setCell ⟨g, a3, none⟩ v3).setCell ⟨g, a4, none⟩ v4).cell? p = W.cell? p := by
  have e : ∀ o, (⟨g, o, none⟩ : Addr) ≠ p := fun o e => h (by rw [← e])
  rw [set_oth (e _), set_oth (e _), set_oth (e _), set_oth (e _), set_oth (e _)]
theorem cell_fived {W : World} {g a0 a1 a2 a3 a4 : Nat} {v0 v1 v2 v3 v4 : Value} {p : Addr} (h : p.block ≠ g) : (((((W.setCell ⟨g, a0, none⟩ v0).setCell ⟨g, a1, none⟩ v1).setCell ⟨g, a2, none⟩ v2).setCell ⟨g, a3, none⟩ v3).setCell ⟨g, a4, none⟩ v4).drew.cell? p = W.cell? p :=
  (show ∀ X : World, X.drew.cell? p = X.cell? p from fun _ => rfl) _ |>.trans (cell_five h)
theorem own_five {W : World} {b : Nat} {e : TypeId} {k n cap g1 g : Nat} {xs : List Value} (h : W.ownsRow b e k (.slice (some ⟨g1, 0, none⟩) n cap) n xs) (hne : g1 ≠ g) (a0 a1 a2 a3 a4 : Nat) (v0 v1 v2 v3 v4 : Value) : (((((W.setCell ⟨g, a0, none⟩ v0).setCell ⟨g, a1, none⟩ v1).setCell ⟨g, a2, none⟩ v2).setCell ⟨g, a3, none⟩ v3).setCell ⟨g, a4, none⟩ v4).ownsRow b e k (.slice (some ⟨g1, 0, none⟩) n cap) n xs := by
  have hn : ∀ (X : World) o v, X.ownsRow b e k (.slice (some ⟨g1, 0, none⟩) n cap) n xs → (X.setCell ⟨g, o, none⟩ v).ownsRow b e k (.slice (some ⟨g1, 0, none⟩) n cap) n xs := fun X o v h => h.kept (grown_set X ⟨g, o, none⟩ v) (.inr (by simp [Value.ownBlock]; exact hne))
  exact hn _ _ _ (hn _ _ _ (hn _ _ _ (hn _ _ _ (hn _ _ _ h))))
theorem below_five {w W : World} {B g a0 a1 a2 a3 a4 : Nat} {v0 v1 v2 v3 v4 : Value} (h : Below B w W) (hg : B ≤ g) : Below B w (((((W.setCell ⟨g, a0, none⟩ v0).setCell ⟨g, a1, none⟩ v1).setCell ⟨g, a2, none⟩ v2).setCell ⟨g, a3, none⟩ v3).setCell ⟨g, a4, none⟩ v4) :=
  ((((h.setCell (p := ⟨g, a0, none⟩) hg _).setCell (p := ⟨g, a1, none⟩) hg _).setCell (p := ⟨g, a2, none⟩) hg _).setCell (p := ⟨g, a3, none⟩) hg _).setCell (p := ⟨g, a4, none⟩) hg _
theorem below_dn {B : Nat} {a w : World} (h : Below B a w) (n : Nat) : Below B a (w.drewN n) := ⟨h.os, h.tape, h.output, h.size, h.block⟩
theorem below_al {a w : World} (h : Below a.heap.size a w) (o : Obj) : Below a.heap.size a (w.alloc o) := h.alloc h.size o

def lsJ (c : List I5) (k : Nat) : Nat := (begsTo c k).getLastD 0
theorem lsJ_yes {c : List I5} {k : Nat} (h : stB c k = true) : lsJ c (k + 1) = k := by
  unfold lsJ
  rw [begsTo_succ, if_pos h, List.getLastD_concat]
theorem lsJ_no {c : List I5} {k : Nat} (h : stB c k = false) : lsJ c (k + 1) = lsJ c k := by
  unfold lsJ
  rw [begsTo_succ, if_neg (by rw [h]; decide), List.append_nil]
/-- What lies in ShapeJumps' own memory between two rounds. -/
structure JmI (w : World) (pm pc : Option Addr) (cm cc : Nat) (l : List M4) (c : List I5) (bs g1 c1 g2 c2 b3 gs : Nat) (L : List I5) (W : World) : Prop where
  code : W.ownsRow bs 37 5 (.slice (some ⟨g2, 0, none⟩) c.length c2) c.length (L.flatMap cellsI)
  maps : W.ownsRow bs 48 4 (.slice (some ⟨g1, 0, none⟩) l.length c1) l.length (l.flatMap cellsM)
  bel : Below w.heap.size w W
  k0 : W.cell? ⟨w.heap.size, 0, none⟩ = some (.slice pm l.length cm)
  k1 : W.cell? ⟨w.heap.size, 1, none⟩ = some (.slice pc c.length cc)
  m0 : W.cell? ⟨b3, 0, none⟩ = some (.slice (some ⟨g1, 0, none⟩) l.length c1)
  m1 : W.cell? ⟨b3, 1, none⟩ = some (.slice (some ⟨g2, 0, none⟩) c.length c2)
  st : ∀ j, j < c.length → W.cell? ⟨gs, j, none⟩ = some (.bool (stB c j))
theorem own_nx {w w' : World} {b : Nat} {e : TypeId} {k n : Nat} {v : Value} {xs : List Value} (h : w.ownsRow b e k v n xs) (hb : Below w.heap.size w w') : w'.ownsRow b e k v n xs :=
  h.kept (grown_of_below hb) (by by_cases h : v.ownBlock = none <;> simp [h])
theorem JmI.next {w : World} {pm pc : Option Addr} {cm cc : Nat} {l : List M4} {c : List I5} {bs g1 c1 g2 c2 b3 gs : Nat} {L : List I5} {W W' : World} (h : JmI w pm pc cm cc l c bs g1 c1 g2 c2 b3 gs L W) (hb : Below W.heap.size W W') : JmI w pm pc cm cc l c bs g1 c1 g2 c2 b3 gs L W' :=
  ⟨own_nx h.code hb, own_nx h.maps hb, below_next h.bel hb, cn hb h.k0, cn hb h.k1, cn hb h.m0, cn hb h.m1, fun j hj => cn hb (h.st j hj)⟩
theorem JmI.put {w : World} {pm pc : Option Addr} {cm cc : Nat} {l : List M4} {c : List I5} {bs g1 c1 g2 c2 b3 gs : Nat} {L : List I5} {W : World} (h : JmI w pm pc cm cc l c bs g1 c1 g2 c2 b3 gs L W) (hg : w.heap.size < g2) (h1 : g1 ≠ g2) (h3 : b3 ≠ g2) (hs : gs ≠ g2) {k : Nat} (hk : k < L.length) (x : I5) :
    JmI w pm pc cm cc l c bs g1 c1 g2 c2 b3 gs (L.set k x) (((((W.setCell ⟨g2, k * 5, none⟩ (.int .u8 x.op)).setCell ⟨g2, k * 5 + 1, none⟩ (.int .u8 x.dst)).setCell ⟨g2, k * 5 + 2, none⟩ (.int .u8 x.src)).setCell ⟨g2, k * 5 + 3, none⟩ (.int .i16 x.off)).setCell ⟨g2, k * 5 + 4, none⟩ (.int .i32 x.imm)) :=
  ⟨own_set h.code hk x, own_five h.maps h1 _ _ _ _ _ _ _ _ _ _, below_five h.bel (Nat.le_of_lt hg), (cell_five (by exact Nat.ne_of_lt hg)).trans h.k0, (cell_five (by exact Nat.ne_of_lt hg)).trans h.k1, (cell_five (by exact h3)).trans h.m0, (cell_five (by exact h3)).trans h.m1, fun j hj => (cell_five (by exact hs)).trans (h.st j hj)⟩
theorem JmI.drew {w : World} {pm pc : Option Addr} {cm cc : Nat} {l : List M4} {c : List I5} {bs g1 c1 g2 c2 b3 gs : Nat} {L : List I5} {W : World} (h : JmI w pm pc cm cc l c bs g1 c1 g2 c2 b3 gs L W) : JmI w pm pc cm cc l c bs g1 c1 g2 c2 b3 gs L W.drew := h.next (below_dr W)

set_option maxRecDepth 100000 in
set_option maxHeartbeats 16000000 in
theorem shapeJumps_walk (pm pc : Option Addr) (cm cc n m : Nat) (l : List M4) (c : List I5) (w : World) (hz : SzOk w) (hml : MpSl w.heap.size w pm n l) (hsl : CdSl w.heap.size w pc m c) (hcap : m ≤ cc) :
    Calls Tryd.prog 5 #[.agg #[.slice pm n cm, .slice pc m cc]] w fun e w' => e = .returned (.bool true) ∧ Below w.heap.size w w' := by
  obtain rfl := hml.1
  obtain rfl := hsl.1
  have HZ := hid hz
  have HOK := hid hsl.2.1
  have HS := hid hsl
  have HRC := hid fun W (hb : Below w.heap.size w W) => right_I pm pc cm cc c.length l.length l c W (hz.below hb) ((hml.kept hb (Nat.le_refl _)).wide hb.size) ((hsl.kept hb (Nat.le_refl _)).wide hb.size) hcap
  have HT := hid fun W (hb : Below w.heap.size w W) => twin_any pm pc cm cc l.length c.length l c W ((hml.kept hb (Nat.le_refl _)).wide hb.size) ((hsl.kept hb (Nat.le_refl _)).wide hb.size)
  have HA := hid fun W (hb : Below w.heap.size w W) => awake_any W (hz.below hb)
  have HST := hid fun W (hb : Below w.heap.size w W) => starts_any pc cc c W (hz.below hb) ((hsl.kept hb (Nat.le_refl _)).wide hb.size)
  have hlem := hml.2.1
  clear hz hml hsl
  go_enter Tryd.func5, Tryd.ntmps5
  go_wp2_with fail
  have hB0 : Below w.heap.size w (w.alloc (.cells #[.slice pm l.length cm, .slice pc c.length cc] 25)) := (Below.refl _ w).alloc (Nat.le_refl _) _
  have k0 : (w.alloc (.cells #[.slice pm l.length cm, .slice pc c.length cc] 25)).cell? ⟨w.heap.size, 0, none⟩ = some (.slice pm l.length cm) := by simp
  have k1 : (w.alloc (.cells #[.slice pm l.length cm, .slice pc c.length cc] 25)).cell? ⟨w.heap.size, 1, none⟩ = some (.slice pc c.length cc) := by simp
  generalize w.alloc (.cells #[.slice pm l.length cm, .slice pc c.length cc] 25) = W0 at *
  refine (HA.out W0 hB0).mono ?_
  rintro e w1 ⟨rfl, b1⟩
  replace k0 := cn b1 k0
  replace k1 := cn b1 k1
  have hw0 : w.heap.size < w1.heap.size := World.block_lt_of_cell? w1 _ k0
  have HB1 := hid (below_next hB0 b1)
  clear b1 hB0 HA
  by_cases h0 : c.length = 0
  · have hv : ((chkI l c).2 == 0) = false := by
      have : chkI l c = (0, 4) := by unfold chkI; rw [if_pos h0]
      rw [this]; rfl
    have HV := hid hv
    have m0 : (c.length == 0) = true := by simpa using h0
    have m1 : ((c.length : Int) == 0) = true := beq_iff_eq.2 (by omega)
    clear hv h0
    go_wp2_with fail
    refine (HRC.out w1 HB1.out).mono ?_
    rw [HV.out]
    rintro e w2 ⟨rfl, b2⟩
    have HB2 := hid (below_next HB1.out b2)
    clear b2
    go_wp2
    go_ret
    exact ⟨rfl, HB2.out⟩
  have m0 : (c.length == 0) = false := by simpa using h0
  have m1 : ((c.length : Int) == 0) = false := beq_eq_false_iff_ne.2 (by omega)
  by_cases h5 : 512 < c.length
  · have hv : ((chkI l c).2 == 0) = false := by
      have : chkI l c = (0, 3) := by unfold chkI; rw [if_neg h0, if_pos (.inl h5)]
      rw [this]; rfl
    have HV := hid hv
    have m2 : decide (512 < c.length) = true := by simpa using h5
    have m3 : decide ((512 : Int) < (c.length : Int)) = true := decide_eq_true (by omega)
    clear hv h0 h5
    go_wp2_with fail
    refine (HRC.out w1 HB1.out).mono ?_
    rw [HV.out]
    rintro e w2 ⟨rfl, b2⟩
    have HB2 := hid (below_next HB1.out b2)
    clear b2
    go_wp2
    go_ret
    exact ⟨rfl, HB2.out⟩
  have m2 : decide (512 < c.length) = false := by simpa using h5
  have m3 : decide ((512 : Int) < (c.length : Int)) = false := decide_eq_false (by omega)
  have HPOS := hid (show 0 < c.length by omega)
  have htop : c.length ≤ 512 := by omega
  clear h0 h5
  go_wp2_with fail
  refine (HT.out w1 HB1.out).mono ?_
  rintro e5 w2 ⟨g1, c1_, g2, c2_, rfl, om, oc, hne, b2⟩
  replace k0 := cn b2 k0
  replace k1 := cn b2 k1
  have hz2 : w.heap.size < w2.heap.size := World.block_lt_of_cell? w2 _ k0
  have hg1 := om.1.lt g1 rfl
  have hg2 := oc.1.lt g2 rfl
  have hcl2 := oc.2
  have HB2 := hid (below_next HB1.out b2)
  have HOM := hid om.1
  have HOC := hid oc.1
  have HNE := hid hne
  clear b2 om oc hne HT HB1
  go_wp2_with fail
  have bA := (Below.refl w2.heap.size w2).alloc (Nat.le_refl _) (.cells #[.slice (some ⟨g1, 0, none⟩) l.length c1_, .slice (some ⟨g2, 0, none⟩) c.length c2_] 25)
  have m0_ : (w2.alloc (.cells #[.slice (some ⟨g1, 0, none⟩) l.length c1_, .slice (some ⟨g2, 0, none⟩) c.length c2_] 25)).cell? ⟨w2.heap.size, 0, none⟩ = some (.slice (some ⟨g1, 0, none⟩) l.length c1_) := by simp
  have m1_ : (w2.alloc (.cells #[.slice (some ⟨g1, 0, none⟩) l.length c1_, .slice (some ⟨g2, 0, none⟩) c.length c2_] 25)).cell? ⟨w2.heap.size, 1, none⟩ = some (.slice (some ⟨g2, 0, none⟩) c.length c2_) := by simp
  replace k0 := cn bA k0
  replace k1 := cn bA k1
  have HB3 := hid (below_next HB2.out bA)
  replace HOM := hid (own_nx HOM.out bA)
  replace HOC := hid (own_nx HOC.out bA)
  have hb3n : w2.heap.size ≠ g2 := Nat.ne_of_gt hg2.2
  have hb3l : w2.heap.size < (w2.alloc (.cells #[.slice (some ⟨g1, 0, none⟩) l.length c1_, .slice (some ⟨g2, 0, none⟩) c.length c2_] 25)).heap.size := by simp
  have hg2l : w.heap.size < g2 := Nat.lt_of_lt_of_le hw0 hg2.1
  have hg2s : g2 < (w2.alloc (.cells #[.slice (some ⟨g1, 0, none⟩) l.length c1_, .slice (some ⟨g2, 0, none⟩) c.length c2_] 25)).heap.size := Nat.lt_trans hg2.2 hb3l
  clear bA HB2 hg1 hg2 hz2
  generalize w2.alloc (.cells #[.slice (some ⟨g1, 0, none⟩) l.length c1_, .slice (some ⟨g2, 0, none⟩) c.length c2_] 25) = w3 at *
  generalize w2.heap.size = b3 at *
  generalize w1.heap.size = bs at *
  refine (HST.out w3 HB3.out).mono ?_
  rintro e w4 ⟨gs, rfl, hgs0, hgs1, hcs, b4⟩
  have hJ : JmI w pm pc cm cc l c bs g1 c1_ g2 c2_ b3 gs (pln c 0) w4 := by
    rw [pln_zero]
    exact ⟨own_nx HOC.out b4, own_nx HOM.out b4, below_next HB3.out b4, cn b4 k0, cn b4 k1, cn b4 m0_, cn b4 m1_, fun j hj => (hcs j hj).1⟩
  have HJ := hid hJ
  have hgsn : gs ≠ g2 := Nat.ne_of_gt (Nat.lt_of_lt_of_le hg2s hgs0)
  replace k1 := hJ.k1
  have hk1 : w.heap.size < w4.heap.size := World.block_lt_of_cell? w4 _ k1
  have HGS := hid (And.intro hb3n (And.intro hgsn hg2l))
  clear b4 hcs hgs0 hgs1 HOM HOC HB3 hJ hb3n hgsn hb3l hg2s k0 m0_ m1_ HST
  go_wp2
  go_loopw [5, 6, 41] (fun gv la i wr => ∃ k : Nat, i = .int .i64 k ∧ k ≤ c.length ∧ gv = .bool (gsUp c k) ∧ la = .int .i64 (lsJ c k) ∧ Hid (JmI w pm pc cm cc l c bs g1 c1_ g2 c2_ b3 gs (pln c k) wr)) (fun _ _ i _ => c.length - (intOf i).toNat)
  case atStart => exact ⟨0, rfl, by omega, rfl, rfl, HJ⟩
  case round =>
    obtain ⟨k, rfl, hk, rfl, rfl, HI⟩ := hrel
    clear HJ k1 hk1
    by_cases hlt : k < c.length
    · obtain ⟨b, off, hp, hbl, hins⟩ := (HS.out.kept HI.out.bel (Nat.le_refl _)).2.2.2.resolve_left (by omega)
      subst hp
      obtain ⟨i0, i1, i2, i3, i4⟩ := hins k hlt
      have hok := at5_ok HOK.out k
      have f0 := HI.out.st k hlt
      have qf := World.block_lt_of_cell? wr _ f0
      have hl0 : 0 ≤ (k : Int) := by omega
      have hl1 : (k : Int) < (c.length : Int) := by omega
      have bI := (Below.refl wr.heap.size wr).alloc (Nat.le_refl _) (.cells #[.int .u8 (at5 c k).op, .int .u8 (at5 c k).dst, .int .u8 (at5 c k).src, .int .i16 (at5 c k).off, .int .i32 (at5 c k).imm] 37)
      have HI1 := hid (HI.out.next bI)
      clear hins bI
      dsimp only at qf
      cases hs : stB c k
      · rw [hs] at f0
        have HP := hid (pln_same c k hlt (rpl_no (.inl hs)))
        have HG := hid (gsUp_no (.inl hs))
        have HL := hid (lsJ_no hs)
        clear hs
        go_wp2
        go_roundw
        case rel => exact ⟨k + 1, by simp, by omega, by rw [HG.out], by rw [HL.out], by rw [HP.out]; exact HI1⟩
        case measure => simp [intOf]; omega
      · rw [hs] at f0
        have HSK := hid hs
        have HL := hid (lsJ_yes hs)
        clear hs
        have hg2w : g2 < wr.heap.size := (HI.out.code.lt g2 rfl).2
        go_wp2_with fail
        have x0 : (wr.alloc (.cells #[.int .u8 (at5 c k).op, .int .u8 (at5 c k).dst, .int .u8 (at5 c k).src, .int .i16 (at5 c k).off, .int .i32 (at5 c k).imm] 37)).cell? ⟨wr.heap.size, 0, none⟩ = some (.int .u8 (at5 c k).op) := by simp
        have x1 : (wr.alloc (.cells #[.int .u8 (at5 c k).op, .int .u8 (at5 c k).dst, .int .u8 (at5 c k).src, .int .i16 (at5 c k).off, .int .i32 (at5 c k).imm] 37)).cell? ⟨wr.heap.size, 1, none⟩ = some (.int .u8 (at5 c k).dst) := by simp
        have x2 : (wr.alloc (.cells #[.int .u8 (at5 c k).op, .int .u8 (at5 c k).dst, .int .u8 (at5 c k).src, .int .i16 (at5 c k).off, .int .i32 (at5 c k).imm] 37)).cell? ⟨wr.heap.size, 2, none⟩ = some (.int .u8 (at5 c k).src) := by simp
        have x3 : (wr.alloc (.cells #[.int .u8 (at5 c k).op, .int .u8 (at5 c k).dst, .int .u8 (at5 c k).src, .int .i16 (at5 c k).off, .int .i32 (at5 c k).imm] 37)).cell? ⟨wr.heap.size, 3, none⟩ = some (.int .i16 (at5 c k).off) := by simp
        have x4 : (wr.alloc (.cells #[.int .u8 (at5 c k).op, .int .u8 (at5 c k).dst, .int .u8 (at5 c k).src, .int .i16 (at5 c k).off, .int .i32 (at5 c k).imm] 37)).cell? ⟨wr.heap.size, 4, none⟩ = some (.int .i32 (at5 c k).imm) := by simp
        have hg2i := Nat.lt_trans hg2w (show wr.heap.size < (wr.alloc (.cells #[.int .u8 (at5 c k).op, .int .u8 (at5 c k).dst, .int .u8 (at5 c k).src, .int .i16 (at5 c k).off, .int .i32 (at5 c k).imm] 37)).heap.size by simp)
        clear i0 i1 i2 i3 i4 f0 qf HI hg2w
        generalize wr.alloc (.cells #[.int .u8 (at5 c k).op, .int .u8 (at5 c k).dst, .int .u8 (at5 c k).src, .int .i16 (at5 c k).off, .int .i32 (at5 c k).imm] 37) = wa at *
        generalize wr.heap.size = bi at *
        refine (of_I (at5 c k) hok wa (HZ.out.below HI1.out.bel)).mono ?_
        rintro e w5 ⟨rfl, b5⟩
        have HI5 := hid (HI1.out.next b5)
        replace x0 := cn b5 x0
        replace x1 := cn b5 x1
        replace x2 := cn b5 x2
        replace x3 := cn b5 x3
        replace x4 := cn b5 x4
        have qi : bi < w5.heap.size := World.block_lt_of_cell? w5 _ x0
        replace hg2i : g2 < w5.heap.size := Nat.lt_of_lt_of_le hg2i b5.size
        clear b5 HI1
        have HTG := hid fun W => target_5 (k : Int) (at5 c k) hok W hl0 (by omega)
        have hgo : goesB c k = (decide (0 ≤ (k : Int) + 1 + (at5 c k).off) && (decide ((k : Int) + 1 + (at5 c k).off < c.length) && stB c ((k : Int) + 1 + (at5 c k).off).toNat)) := rfl
        have hrng : -9223372036854775808 ≤ (k : Int) + 1 + (at5 c k).off ∧ (k : Int) + 1 + (at5 c k).off < 9223372036854775808 := by
          obtain ⟨_, _, _, _, _, _, o0, o1, _⟩ := hok
          omega
        by_cases he : (at5 c k).e = 0
        · by_cases hcj : (at5 c k).t.cls = 6 ∨ (at5 c k).t.cls = 7
          · have hj := isJ_iff.2 ⟨he, hcj⟩
            have hE : ((at5 c k).e != 0) = false := by simpa using he
            have hgy := gsUp_yes HSK.out hj
            rw [hgo] at hgy
            have hpl : pln c (k + 1) = (pln c k).set k (if (at5 c k).t.cls == 7 && k + 1 == c.length then xI else xA) := by rw [pln_succ c k hlt, rpl_yes HSK.out hj]
            have HGY := hid hgy
            have HPL := hid hpl
            clear hgy hpl hj hgo he
            generalize hto : (k : Int) + 1 + (at5 c k).off = to_ at *
            generalize (at5 c k).t = T at *
            clear hto
            obtain ⟨cls, o2, sz, wd, rg⟩ := T
            unfold whV
            dsimp only at *
            obtain ⟨hr0, hr1⟩ := hrng
            have HCJ := hid hcj
            have d67 : (cls == 6) = !(cls == 7) := by rcases hcj with h | h <;> subst h <;> rfl
            cases d7 : (cls == 7)
            · rw [d7] at d67
              have d6 : (cls == 6) = true := d67
              have n6 : (cls != 6) = false := by unfold bne; rw [d6]; rfl
              have n7 : (cls != 7) = true := by unfold bne; rw [d7]; rfl
              have HP1 : Hid (pln c (k + 1) = (pln c k).set k xA) := hid (by rw [HPL.out, d7]; rfl)
              clear hcj HPL d67
              go_wp2_with fail
              refine (HTG.out _).mono ?_
              rintro e w6 ⟨rfl, b6⟩
              have bW := (Below.refl w5.heap.size w5).alloc (Nat.le_refl _) (.cells #[.int .i64 cls, .int .i64 o2, .int .i64 sz, .bool wd, .bool rg] 43)
              have z0 : w6.cell? ⟨w5.heap.size, 0, none⟩ = some (.int .i64 cls) := cn b6 (by simp)
              have HI6 := hid (HI5.out.next (bW.trans (b6.mono (by simp))))
              have hbw : w5.heap.size < w6.heap.size := World.block_lt_of_cell? w6 _ z0
              clear b6 bW HI5 x0 x1 x2 x3 x4 qi HTG
              generalize w5.heap.size = bw at *
              have hbn : bw ≠ g2 := by omega
              have hbn' : g2 ≠ bw := by omega
              have m1 := HI6.out.m1
              have k1 := HI6.out.k1
              obtain ⟨hn3, hns, hn0⟩ := HGS.out
              have hfl : ((pln c k).flatMap cellsI).length = c.length * 5 := by rw [flat5_len, pln_len]
              have hce : ∀ o, o < c.length * 5 → ∃ v, w6.cell? ⟨g2, o, none⟩ = some v := fun o ho => by
                rw [HI6.out.code.cellAt o ho, List.getElem?_eq_getElem (by rw [hfl]; exact ho)]
                exact ⟨_, rfl⟩
              obtain ⟨u0, y0⟩ := hce (k * 5) (by omega)
              obtain ⟨v1, y1⟩ := hce (k * 5 + 1) (by omega)
              obtain ⟨v2, y2⟩ := hce (k * 5 + 2) (by omega)
              obtain ⟨v3, y3⟩ := hce (k * 5 + 3) (by omega)
              obtain ⟨v4, y4⟩ := hce (k * 5 + 4) (by omega)
              have p0 := HI6.out.code.frozenAt (k * 5)
              have p1 := HI6.out.code.frozenAt (k * 5 + 1)
              have p2 := HI6.out.code.frozenAt (k * 5 + 2)
              have p3 := HI6.out.code.frozenAt (k * 5 + 3)
              have p4 := HI6.out.code.frozenAt (k * 5 + 4)
              have HI7 := hid (HI6.out.put hn0 HNE.out hn3 hns (show k < (pln c k).length by rw [pln_len]; exact hlt) xA)
              have hn3' : g2 ≠ b3 := hn3.symm
              have hn0' : g2 ≠ w.heap.size := Nat.ne_of_gt hn0
              have hn0'' : w.heap.size ≠ g2 := Nat.ne_of_lt hn0
              clear hfl hce hn0
              cases hgk : gsUp c k
              · have HG1 : Hid (gsUp c (k + 1) = false) := hid (by rw [HGY.out, hgk]; rfl)
                clear hgk HGY HI6
                go_wp2
                go_roundw
                case rel => exact ⟨k + 1, by simp, by omega, by rw [HG1.out], by rw [HL.out], by rw [HP1.out]; exact HI7⟩
                case measure => simp [intOf]; omega
              by_cases h1 : to_ < 0
              · have e1 : decide (0 ≤ to_) = false := decide_eq_false (by omega)
                have q1 : decide (to_ < 0) = true := decide_eq_true h1
                have HG1 : Hid (gsUp c (k + 1) = false) := hid (by rw [HGY.out, e1]; simp)
                clear hgk HGY HI6
                go_wp2
                go_roundw
                case rel => exact ⟨k + 1, by simp, by omega, by rw [HG1.out], by rw [HL.out], by rw [HP1.out]; exact HI7⟩
                case measure => simp [intOf]; omega
              have e1 : decide (0 ≤ to_) = true := decide_eq_true (by omega)
              by_cases h2 : (c.length : Int) ≤ to_
              · have e2 : decide (to_ < (c.length : Int)) = false := decide_eq_false (by omega)
                have HG1 : Hid (gsUp c (k + 1) = false) := hid (by rw [HGY.out, e2]; simp)
                clear hgk HGY HI6
                go_wp2
                go_roundw
                case rel => exact ⟨k + 1, by simp, by omega, by rw [HG1.out], by rw [HL.out], by rw [HP1.out]; exact HI7⟩
                case measure => simp [intOf]; omega
              have e2 : decide (to_ < (c.length : Int)) = true := decide_eq_true (by omega)
              have h3 : 0 ≤ to_ := by omega
              have h4 : to_ < (c.length : Int) := by omega
              have f1 := HI6.out.st to_.toNat (by omega)
              cases hst : stB c to_.toNat
              · rw [hst] at f1
                have HG1 : Hid (gsUp c (k + 1) = false) := hid (by rw [HGY.out, hst]; simp)
                clear hgk HGY HI6 hst
                go_wp2
                go_roundw
                case rel => exact ⟨k + 1, by simp, by omega, by rw [HG1.out], by rw [HL.out], by rw [HP1.out]; exact HI7⟩
                case measure => simp [intOf]; omega
              · rw [hst] at f1
                have HG1 : Hid (gsUp c (k + 1) = true) := hid (by rw [HGY.out, hst, hgk, e1, e2]; rfl)
                clear hgk HGY HI6 hst
                go_wp2
                go_roundw
                case rel => exact ⟨k + 1, by simp, by omega, by rw [HG1.out], by rw [HL.out], by rw [HP1.out]; exact HI7⟩
                case measure => simp [intOf]; omega

            · rw [d7] at d67
              have d6 : (cls == 6) = false := d67
              have n6 : (cls != 6) = true := by unfold bne; rw [d6]; rfl
              have n7 : (cls != 7) = false := by unfold bne; rw [d7]; rfl
              by_cases hkl : k + 1 = c.length
              · have hkb : ((k : Int) == (c.length : Int) - 1) = true := beq_iff_eq.2 (by omega)
                have HP1 : Hid (pln c (k + 1) = ((pln c k).set k xA).set k xI) := hid (by rw [HPL.out, d7, List.set_set]; simp [hkl])
                clear hcj HPL d67 hkl
                go_wp2_with fail
                refine (HTG.out _).mono ?_
                rintro e w6 ⟨rfl, b6⟩
                have bW := (Below.refl w5.heap.size w5).alloc (Nat.le_refl _) (.cells #[.int .i64 cls, .int .i64 o2, .int .i64 sz, .bool wd, .bool rg] 43)
                have z0 : w6.cell? ⟨w5.heap.size, 0, none⟩ = some (.int .i64 cls) := cn b6 (by simp)
                have HI6 := hid (HI5.out.next (bW.trans (b6.mono (by simp))))
                have hbw : w5.heap.size < w6.heap.size := World.block_lt_of_cell? w6 _ z0
                clear b6 bW HI5 x0 x1 x2 x3 x4 qi HTG
                generalize w5.heap.size = bw at *
                have hbn : bw ≠ g2 := by omega
                have hbn' : g2 ≠ bw := by omega
                have m1 := HI6.out.m1
                have k1 := HI6.out.k1
                obtain ⟨hn3, hns, hn0⟩ := HGS.out
                have hfl : ((pln c k).flatMap cellsI).length = c.length * 5 := by rw [flat5_len, pln_len]
                have hce : ∀ o, o < c.length * 5 → ∃ v, w6.cell? ⟨g2, o, none⟩ = some v := fun o ho => by
                  rw [HI6.out.code.cellAt o ho, List.getElem?_eq_getElem (by rw [hfl]; exact ho)]
                  exact ⟨_, rfl⟩
                obtain ⟨u0, y0⟩ := hce (k * 5) (by omega)
                obtain ⟨v1, y1⟩ := hce (k * 5 + 1) (by omega)
                obtain ⟨v2, y2⟩ := hce (k * 5 + 2) (by omega)
                obtain ⟨v3, y3⟩ := hce (k * 5 + 3) (by omega)
                obtain ⟨v4, y4⟩ := hce (k * 5 + 4) (by omega)
                have p0 := HI6.out.code.frozenAt (k * 5)
                have p1 := HI6.out.code.frozenAt (k * 5 + 1)
                have p2 := HI6.out.code.frozenAt (k * 5 + 2)
                have p3 := HI6.out.code.frozenAt (k * 5 + 3)
                have p4 := HI6.out.code.frozenAt (k * 5 + 4)
                have HI7 := hid (HI6.out.put hn0 HNE.out hn3 hns (show k < (pln c k).length by rw [pln_len]; exact hlt) xA)
                have hn3' : g2 ≠ b3 := hn3.symm
                have hn0' : g2 ≠ w.heap.size := Nat.ne_of_gt hn0
                have hn0'' : w.heap.size ≠ g2 := Nat.ne_of_lt hn0
                clear hfl hce hn0
                cases hgk : gsUp c k
                · have HG1 : Hid (gsUp c (k + 1) = false) := hid (by rw [HGY.out, hgk]; rfl)
                  clear hgk HGY HI6
                  go_wp2_with fail
                  replace HI7 : Hid (JmI w pm (some ⟨b, off, none⟩) cm cc l c bs g1 c1_ g2 c2_ b3 gs ((pln c k).set k xA) (((((w6.setCell ⟨g2, k * 5, none⟩ (.int .u8 7)).setCell ⟨g2, k * 5 + 1, none⟩ (.int .u8 0)).setCell ⟨g2, k * 5 + 2, none⟩ (.int .u8 0)).setCell ⟨g2, k * 5 + 3, none⟩ (.int .i16 0)).setCell ⟨g2, k * 5 + 4, none⟩ (.int .i32 0))) := HI7
                  clear m1 k1 y0 y1 y2 y3 y4 p0 p1 p2 p3 p4 z0
                  generalize (((((w6.setCell ⟨g2, k * 5, none⟩ (.int .u8 7)).setCell ⟨g2, k * 5 + 1, none⟩ (.int .u8 0)).setCell ⟨g2, k * 5 + 2, none⟩ (.int .u8 0)).setCell ⟨g2, k * 5 + 3, none⟩ (.int .i16 0)).setCell ⟨g2, k * 5 + 4, none⟩ (.int .i32 0)) = w7 at *
                  have m1 := HI7.out.m1
                  have hg27 := (HI7.out.code.lt g2 rfl).2
                  have hfl : (((pln c k).set k xA).flatMap cellsI).length = c.length * 5 := by rw [flat5_len, List.length_set, pln_len]
                  have hce : ∀ o, o < c.length * 5 → ∃ v, w7.cell? ⟨g2, o, none⟩ = some v := fun o ho => by
                    rw [HI7.out.code.cellAt o ho, List.getElem?_eq_getElem (by rw [hfl]; exact ho)]
                    exact ⟨_, rfl⟩
                  obtain ⟨u0_, y0⟩ := hce (k * 5) (by omega)
                  obtain ⟨v1_, y1⟩ := hce (k * 5 + 1) (by omega)
                  obtain ⟨v2_, y2⟩ := hce (k * 5 + 2) (by omega)
                  obtain ⟨v3_, y3⟩ := hce (k * 5 + 3) (by omega)
                  obtain ⟨v4_, y4⟩ := hce (k * 5 + 4) (by omega)
                  have p0 := HI7.out.code.frozenAt (k * 5)
                  have p1 := HI7.out.code.frozenAt (k * 5 + 1)
                  have p2 := HI7.out.code.frozenAt (k * 5 + 2)
                  have p3 := HI7.out.code.frozenAt (k * 5 + 3)
                  have p4 := HI7.out.code.frozenAt (k * 5 + 4)
                  clear hfl hce
                  go_region_law (go_simp; go_at_call 20; refine (exit_is _).mono ?_; rintro e we ⟨rfl, be⟩; have hbe : Below w7.heap.size w7 we := below_next (below_dr w7) be; have r1 := cn hbe m1; have a0 := cn hbe y0; have a1 := cn hbe y1; have a2 := cn hbe y2; have a3 := cn hbe y3; have a4 := cn hbe y4; have o0 := (hbe.frz (p := ⟨g2, k * 5, none⟩) hg27).trans p0; have o1 := (hbe.frz (p := ⟨g2, k * 5 + 1, none⟩) hg27).trans p1; have o2_ := (hbe.frz (p := ⟨g2, k * 5 + 2, none⟩) hg27).trans p2; have o3 := (hbe.frz (p := ⟨g2, k * 5 + 3, none⟩) hg27).trans p3; have o4 := (hbe.frz (p := ⟨g2, k * 5 + 4, none⟩) hg27).trans p4)
                  all_goals
                    have HI8 := hid ((HI7.out.next hbe).put HGS.out.2.2 HNE.out hn3 hns (show k < ((pln c k).set k xA).length by rw [List.length_set, pln_len]; exact hlt) xI)
                    clear HI7 hbe r1 a0 a1 a2 a3 a4 o0 o1 o2_ o3 o4 m1 y0 y1 y2 y3 y4 p0 p1 p2 p3 p4
                    go_wp2
                    go_roundw
                    case rel => exact ⟨k + 1, by simp, by omega, by rw [HG1.out], by rw [HL.out], by rw [HP1.out]; first | exact HI8 | exact hid HI8.out.drew⟩
                    case measure => simp [intOf]; omega
                by_cases h1 : to_ < 0
                · have e1 : decide (0 ≤ to_) = false := decide_eq_false (by omega)
                  have q1 : decide (to_ < 0) = true := decide_eq_true h1
                  have HG1 : Hid (gsUp c (k + 1) = false) := hid (by rw [HGY.out, e1]; simp)
                  clear hgk HGY HI6
                  go_wp2_with fail
                  replace HI7 : Hid (JmI w pm (some ⟨b, off, none⟩) cm cc l c bs g1 c1_ g2 c2_ b3 gs ((pln c k).set k xA) (((((w6.setCell ⟨g2, k * 5, none⟩ (.int .u8 7)).setCell ⟨g2, k * 5 + 1, none⟩ (.int .u8 0)).setCell ⟨g2, k * 5 + 2, none⟩ (.int .u8 0)).setCell ⟨g2, k * 5 + 3, none⟩ (.int .i16 0)).setCell ⟨g2, k * 5 + 4, none⟩ (.int .i32 0))) := HI7
                  clear m1 k1 y0 y1 y2 y3 y4 p0 p1 p2 p3 p4 z0
                  generalize (((((w6.setCell ⟨g2, k * 5, none⟩ (.int .u8 7)).setCell ⟨g2, k * 5 + 1, none⟩ (.int .u8 0)).setCell ⟨g2, k * 5 + 2, none⟩ (.int .u8 0)).setCell ⟨g2, k * 5 + 3, none⟩ (.int .i16 0)).setCell ⟨g2, k * 5 + 4, none⟩ (.int .i32 0)) = w7 at *
                  have m1 := HI7.out.m1
                  have hg27 := (HI7.out.code.lt g2 rfl).2
                  have hfl : (((pln c k).set k xA).flatMap cellsI).length = c.length * 5 := by rw [flat5_len, List.length_set, pln_len]
                  have hce : ∀ o, o < c.length * 5 → ∃ v, w7.cell? ⟨g2, o, none⟩ = some v := fun o ho => by
                    rw [HI7.out.code.cellAt o ho, List.getElem?_eq_getElem (by rw [hfl]; exact ho)]
                    exact ⟨_, rfl⟩
                  obtain ⟨u0_, y0⟩ := hce (k * 5) (by omega)
                  obtain ⟨v1_, y1⟩ := hce (k * 5 + 1) (by omega)
                  obtain ⟨v2_, y2⟩ := hce (k * 5 + 2) (by omega)
                  obtain ⟨v3_, y3⟩ := hce (k * 5 + 3) (by omega)
                  obtain ⟨v4_, y4⟩ := hce (k * 5 + 4) (by omega)
                  have p0 := HI7.out.code.frozenAt (k * 5)
                  have p1 := HI7.out.code.frozenAt (k * 5 + 1)
                  have p2 := HI7.out.code.frozenAt (k * 5 + 2)
                  have p3 := HI7.out.code.frozenAt (k * 5 + 3)
                  have p4 := HI7.out.code.frozenAt (k * 5 + 4)
                  clear hfl hce
                  go_region_law (go_simp; go_at_call 20; refine (exit_is _).mono ?_; rintro e we ⟨rfl, be⟩; have hbe : Below w7.heap.size w7 we := below_next (below_dr w7) be; have r1 := cn hbe m1; have a0 := cn hbe y0; have a1 := cn hbe y1; have a2 := cn hbe y2; have a3 := cn hbe y3; have a4 := cn hbe y4; have o0 := (hbe.frz (p := ⟨g2, k * 5, none⟩) hg27).trans p0; have o1 := (hbe.frz (p := ⟨g2, k * 5 + 1, none⟩) hg27).trans p1; have o2_ := (hbe.frz (p := ⟨g2, k * 5 + 2, none⟩) hg27).trans p2; have o3 := (hbe.frz (p := ⟨g2, k * 5 + 3, none⟩) hg27).trans p3; have o4 := (hbe.frz (p := ⟨g2, k * 5 + 4, none⟩) hg27).trans p4)
                  all_goals
                    have HI8 := hid ((HI7.out.next hbe).put HGS.out.2.2 HNE.out hn3 hns (show k < ((pln c k).set k xA).length by rw [List.length_set, pln_len]; exact hlt) xI)
                    clear HI7 hbe r1 a0 a1 a2 a3 a4 o0 o1 o2_ o3 o4 m1 y0 y1 y2 y3 y4 p0 p1 p2 p3 p4
                    go_wp2
                    go_roundw
                    case rel => exact ⟨k + 1, by simp, by omega, by rw [HG1.out], by rw [HL.out], by rw [HP1.out]; first | exact HI8 | exact hid HI8.out.drew⟩
                    case measure => simp [intOf]; omega
                have e1 : decide (0 ≤ to_) = true := decide_eq_true (by omega)
                by_cases h2 : (c.length : Int) ≤ to_
                · have e2 : decide (to_ < (c.length : Int)) = false := decide_eq_false (by omega)
                  have HG1 : Hid (gsUp c (k + 1) = false) := hid (by rw [HGY.out, e2]; simp)
                  clear hgk HGY HI6
                  go_wp2_with fail
                  replace HI7 : Hid (JmI w pm (some ⟨b, off, none⟩) cm cc l c bs g1 c1_ g2 c2_ b3 gs ((pln c k).set k xA) (((((w6.setCell ⟨g2, k * 5, none⟩ (.int .u8 7)).setCell ⟨g2, k * 5 + 1, none⟩ (.int .u8 0)).setCell ⟨g2, k * 5 + 2, none⟩ (.int .u8 0)).setCell ⟨g2, k * 5 + 3, none⟩ (.int .i16 0)).setCell ⟨g2, k * 5 + 4, none⟩ (.int .i32 0))) := HI7
                  clear m1 k1 y0 y1 y2 y3 y4 p0 p1 p2 p3 p4 z0
                  generalize (((((w6.setCell ⟨g2, k * 5, none⟩ (.int .u8 7)).setCell ⟨g2, k * 5 + 1, none⟩ (.int .u8 0)).setCell ⟨g2, k * 5 + 2, none⟩ (.int .u8 0)).setCell ⟨g2, k * 5 + 3, none⟩ (.int .i16 0)).setCell ⟨g2, k * 5 + 4, none⟩ (.int .i32 0)) = w7 at *
                  have m1 := HI7.out.m1
                  have hg27 := (HI7.out.code.lt g2 rfl).2
                  have hfl : (((pln c k).set k xA).flatMap cellsI).length = c.length * 5 := by rw [flat5_len, List.length_set, pln_len]
                  have hce : ∀ o, o < c.length * 5 → ∃ v, w7.cell? ⟨g2, o, none⟩ = some v := fun o ho => by
                    rw [HI7.out.code.cellAt o ho, List.getElem?_eq_getElem (by rw [hfl]; exact ho)]
                    exact ⟨_, rfl⟩
                  obtain ⟨u0_, y0⟩ := hce (k * 5) (by omega)
                  obtain ⟨v1_, y1⟩ := hce (k * 5 + 1) (by omega)
                  obtain ⟨v2_, y2⟩ := hce (k * 5 + 2) (by omega)
                  obtain ⟨v3_, y3⟩ := hce (k * 5 + 3) (by omega)
                  obtain ⟨v4_, y4⟩ := hce (k * 5 + 4) (by omega)
                  have p0 := HI7.out.code.frozenAt (k * 5)
                  have p1 := HI7.out.code.frozenAt (k * 5 + 1)
                  have p2 := HI7.out.code.frozenAt (k * 5 + 2)
                  have p3 := HI7.out.code.frozenAt (k * 5 + 3)
                  have p4 := HI7.out.code.frozenAt (k * 5 + 4)
                  clear hfl hce
                  go_region_law (go_simp; go_at_call 20; refine (exit_is _).mono ?_; rintro e we ⟨rfl, be⟩; have hbe : Below w7.heap.size w7 we := below_next (below_dr w7) be; have r1 := cn hbe m1; have a0 := cn hbe y0; have a1 := cn hbe y1; have a2 := cn hbe y2; have a3 := cn hbe y3; have a4 := cn hbe y4; have o0 := (hbe.frz (p := ⟨g2, k * 5, none⟩) hg27).trans p0; have o1 := (hbe.frz (p := ⟨g2, k * 5 + 1, none⟩) hg27).trans p1; have o2_ := (hbe.frz (p := ⟨g2, k * 5 + 2, none⟩) hg27).trans p2; have o3 := (hbe.frz (p := ⟨g2, k * 5 + 3, none⟩) hg27).trans p3; have o4 := (hbe.frz (p := ⟨g2, k * 5 + 4, none⟩) hg27).trans p4)
                  all_goals
                    have HI8 := hid ((HI7.out.next hbe).put HGS.out.2.2 HNE.out hn3 hns (show k < ((pln c k).set k xA).length by rw [List.length_set, pln_len]; exact hlt) xI)
                    clear HI7 hbe r1 a0 a1 a2 a3 a4 o0 o1 o2_ o3 o4 m1 y0 y1 y2 y3 y4 p0 p1 p2 p3 p4
                    go_wp2
                    go_roundw
                    case rel => exact ⟨k + 1, by simp, by omega, by rw [HG1.out], by rw [HL.out], by rw [HP1.out]; first | exact HI8 | exact hid HI8.out.drew⟩
                    case measure => simp [intOf]; omega
                have e2 : decide (to_ < (c.length : Int)) = true := decide_eq_true (by omega)
                have h3 : 0 ≤ to_ := by omega
                have h4 : to_ < (c.length : Int) := by omega
                have f1 := HI6.out.st to_.toNat (by omega)
                cases hst : stB c to_.toNat
                · rw [hst] at f1
                  have HG1 : Hid (gsUp c (k + 1) = false) := hid (by rw [HGY.out, hst]; simp)
                  clear hgk HGY HI6 hst
                  go_wp2_with fail
                  replace HI7 : Hid (JmI w pm (some ⟨b, off, none⟩) cm cc l c bs g1 c1_ g2 c2_ b3 gs ((pln c k).set k xA) (((((w6.setCell ⟨g2, k * 5, none⟩ (.int .u8 7)).setCell ⟨g2, k * 5 + 1, none⟩ (.int .u8 0)).setCell ⟨g2, k * 5 + 2, none⟩ (.int .u8 0)).setCell ⟨g2, k * 5 + 3, none⟩ (.int .i16 0)).setCell ⟨g2, k * 5 + 4, none⟩ (.int .i32 0))) := HI7
                  clear m1 k1 y0 y1 y2 y3 y4 p0 p1 p2 p3 p4 z0
                  generalize (((((w6.setCell ⟨g2, k * 5, none⟩ (.int .u8 7)).setCell ⟨g2, k * 5 + 1, none⟩ (.int .u8 0)).setCell ⟨g2, k * 5 + 2, none⟩ (.int .u8 0)).setCell ⟨g2, k * 5 + 3, none⟩ (.int .i16 0)).setCell ⟨g2, k * 5 + 4, none⟩ (.int .i32 0)) = w7 at *
                  have m1 := HI7.out.m1
                  have hg27 := (HI7.out.code.lt g2 rfl).2
                  have hfl : (((pln c k).set k xA).flatMap cellsI).length = c.length * 5 := by rw [flat5_len, List.length_set, pln_len]
                  have hce : ∀ o, o < c.length * 5 → ∃ v, w7.cell? ⟨g2, o, none⟩ = some v := fun o ho => by
                    rw [HI7.out.code.cellAt o ho, List.getElem?_eq_getElem (by rw [hfl]; exact ho)]
                    exact ⟨_, rfl⟩
                  obtain ⟨u0_, y0⟩ := hce (k * 5) (by omega)
                  obtain ⟨v1_, y1⟩ := hce (k * 5 + 1) (by omega)
                  obtain ⟨v2_, y2⟩ := hce (k * 5 + 2) (by omega)
                  obtain ⟨v3_, y3⟩ := hce (k * 5 + 3) (by omega)
                  obtain ⟨v4_, y4⟩ := hce (k * 5 + 4) (by omega)
                  have p0 := HI7.out.code.frozenAt (k * 5)
                  have p1 := HI7.out.code.frozenAt (k * 5 + 1)
                  have p2 := HI7.out.code.frozenAt (k * 5 + 2)
                  have p3 := HI7.out.code.frozenAt (k * 5 + 3)
                  have p4 := HI7.out.code.frozenAt (k * 5 + 4)
                  clear hfl hce
                  go_region_law (go_simp; go_at_call 20; refine (exit_is _).mono ?_; rintro e we ⟨rfl, be⟩; have hbe : Below w7.heap.size w7 we := below_next (below_dr w7) be; have r1 := cn hbe m1; have a0 := cn hbe y0; have a1 := cn hbe y1; have a2 := cn hbe y2; have a3 := cn hbe y3; have a4 := cn hbe y4; have o0 := (hbe.frz (p := ⟨g2, k * 5, none⟩) hg27).trans p0; have o1 := (hbe.frz (p := ⟨g2, k * 5 + 1, none⟩) hg27).trans p1; have o2_ := (hbe.frz (p := ⟨g2, k * 5 + 2, none⟩) hg27).trans p2; have o3 := (hbe.frz (p := ⟨g2, k * 5 + 3, none⟩) hg27).trans p3; have o4 := (hbe.frz (p := ⟨g2, k * 5 + 4, none⟩) hg27).trans p4)
                  all_goals
                    have HI8 := hid ((HI7.out.next hbe).put HGS.out.2.2 HNE.out hn3 hns (show k < ((pln c k).set k xA).length by rw [List.length_set, pln_len]; exact hlt) xI)
                    clear HI7 hbe r1 a0 a1 a2 a3 a4 o0 o1 o2_ o3 o4 m1 y0 y1 y2 y3 y4 p0 p1 p2 p3 p4
                    go_wp2
                    go_roundw
                    case rel => exact ⟨k + 1, by simp, by omega, by rw [HG1.out], by rw [HL.out], by rw [HP1.out]; first | exact HI8 | exact hid HI8.out.drew⟩
                    case measure => simp [intOf]; omega
                · rw [hst] at f1
                  have HG1 : Hid (gsUp c (k + 1) = true) := hid (by rw [HGY.out, hst, hgk, e1, e2]; rfl)
                  clear hgk HGY HI6 hst
                  go_wp2_with fail
                  replace HI7 : Hid (JmI w pm (some ⟨b, off, none⟩) cm cc l c bs g1 c1_ g2 c2_ b3 gs ((pln c k).set k xA) (((((w6.setCell ⟨g2, k * 5, none⟩ (.int .u8 7)).setCell ⟨g2, k * 5 + 1, none⟩ (.int .u8 0)).setCell ⟨g2, k * 5 + 2, none⟩ (.int .u8 0)).setCell ⟨g2, k * 5 + 3, none⟩ (.int .i16 0)).setCell ⟨g2, k * 5 + 4, none⟩ (.int .i32 0))) := HI7
                  clear m1 k1 y0 y1 y2 y3 y4 p0 p1 p2 p3 p4 z0
                  generalize (((((w6.setCell ⟨g2, k * 5, none⟩ (.int .u8 7)).setCell ⟨g2, k * 5 + 1, none⟩ (.int .u8 0)).setCell ⟨g2, k * 5 + 2, none⟩ (.int .u8 0)).setCell ⟨g2, k * 5 + 3, none⟩ (.int .i16 0)).setCell ⟨g2, k * 5 + 4, none⟩ (.int .i32 0)) = w7 at *
                  have m1 := HI7.out.m1
                  have hg27 := (HI7.out.code.lt g2 rfl).2
                  have hfl : (((pln c k).set k xA).flatMap cellsI).length = c.length * 5 := by rw [flat5_len, List.length_set, pln_len]
                  have hce : ∀ o, o < c.length * 5 → ∃ v, w7.cell? ⟨g2, o, none⟩ = some v := fun o ho => by
                    rw [HI7.out.code.cellAt o ho, List.getElem?_eq_getElem (by rw [hfl]; exact ho)]
                    exact ⟨_, rfl⟩
                  obtain ⟨u0_, y0⟩ := hce (k * 5) (by omega)
                  obtain ⟨v1_, y1⟩ := hce (k * 5 + 1) (by omega)
                  obtain ⟨v2_, y2⟩ := hce (k * 5 + 2) (by omega)
                  obtain ⟨v3_, y3⟩ := hce (k * 5 + 3) (by omega)
                  obtain ⟨v4_, y4⟩ := hce (k * 5 + 4) (by omega)
                  have p0 := HI7.out.code.frozenAt (k * 5)
                  have p1 := HI7.out.code.frozenAt (k * 5 + 1)
                  have p2 := HI7.out.code.frozenAt (k * 5 + 2)
                  have p3 := HI7.out.code.frozenAt (k * 5 + 3)
                  have p4 := HI7.out.code.frozenAt (k * 5 + 4)
                  clear hfl hce
                  go_region_law (go_simp; go_at_call 20; refine (exit_is _).mono ?_; rintro e we ⟨rfl, be⟩; have hbe : Below w7.heap.size w7 we := below_next (below_dr w7) be; have r1 := cn hbe m1; have a0 := cn hbe y0; have a1 := cn hbe y1; have a2 := cn hbe y2; have a3 := cn hbe y3; have a4 := cn hbe y4; have o0 := (hbe.frz (p := ⟨g2, k * 5, none⟩) hg27).trans p0; have o1 := (hbe.frz (p := ⟨g2, k * 5 + 1, none⟩) hg27).trans p1; have o2_ := (hbe.frz (p := ⟨g2, k * 5 + 2, none⟩) hg27).trans p2; have o3 := (hbe.frz (p := ⟨g2, k * 5 + 3, none⟩) hg27).trans p3; have o4 := (hbe.frz (p := ⟨g2, k * 5 + 4, none⟩) hg27).trans p4)
                  all_goals
                    have HI8 := hid ((HI7.out.next hbe).put HGS.out.2.2 HNE.out hn3 hns (show k < ((pln c k).set k xA).length by rw [List.length_set, pln_len]; exact hlt) xI)
                    clear HI7 hbe r1 a0 a1 a2 a3 a4 o0 o1 o2_ o3 o4 m1 y0 y1 y2 y3 y4 p0 p1 p2 p3 p4
                    go_wp2
                    go_roundw
                    case rel => exact ⟨k + 1, by simp, by omega, by rw [HG1.out], by rw [HL.out], by rw [HP1.out]; first | exact HI8 | exact hid HI8.out.drew⟩
                    case measure => simp [intOf]; omega

              · have hkb : ((k : Int) == (c.length : Int) - 1) = false := beq_eq_false_iff_ne.2 (by omega)
                have HP1 : Hid (pln c (k + 1) = (pln c k).set k xA) := hid (by rw [HPL.out, d7]; simp [hkl])
                clear hcj HPL d67 hkl
                go_wp2_with fail
                refine (HTG.out _).mono ?_
                rintro e w6 ⟨rfl, b6⟩
                have bW := (Below.refl w5.heap.size w5).alloc (Nat.le_refl _) (.cells #[.int .i64 cls, .int .i64 o2, .int .i64 sz, .bool wd, .bool rg] 43)
                have z0 : w6.cell? ⟨w5.heap.size, 0, none⟩ = some (.int .i64 cls) := cn b6 (by simp)
                have HI6 := hid (HI5.out.next (bW.trans (b6.mono (by simp))))
                have hbw : w5.heap.size < w6.heap.size := World.block_lt_of_cell? w6 _ z0
                clear b6 bW HI5 x0 x1 x2 x3 x4 qi HTG
                generalize w5.heap.size = bw at *
                have hbn : bw ≠ g2 := by omega
                have hbn' : g2 ≠ bw := by omega
                have m1 := HI6.out.m1
                have k1 := HI6.out.k1
                obtain ⟨hn3, hns, hn0⟩ := HGS.out
                have hfl : ((pln c k).flatMap cellsI).length = c.length * 5 := by rw [flat5_len, pln_len]
                have hce : ∀ o, o < c.length * 5 → ∃ v, w6.cell? ⟨g2, o, none⟩ = some v := fun o ho => by
                  rw [HI6.out.code.cellAt o ho, List.getElem?_eq_getElem (by rw [hfl]; exact ho)]
                  exact ⟨_, rfl⟩
                obtain ⟨u0, y0⟩ := hce (k * 5) (by omega)
                obtain ⟨v1, y1⟩ := hce (k * 5 + 1) (by omega)
                obtain ⟨v2, y2⟩ := hce (k * 5 + 2) (by omega)
                obtain ⟨v3, y3⟩ := hce (k * 5 + 3) (by omega)
                obtain ⟨v4, y4⟩ := hce (k * 5 + 4) (by omega)
                have p0 := HI6.out.code.frozenAt (k * 5)
                have p1 := HI6.out.code.frozenAt (k * 5 + 1)
                have p2 := HI6.out.code.frozenAt (k * 5 + 2)
                have p3 := HI6.out.code.frozenAt (k * 5 + 3)
                have p4 := HI6.out.code.frozenAt (k * 5 + 4)
                have HI7 := hid (HI6.out.put hn0 HNE.out hn3 hns (show k < (pln c k).length by rw [pln_len]; exact hlt) xA)
                have hn3' : g2 ≠ b3 := hn3.symm
                have hn0' : g2 ≠ w.heap.size := Nat.ne_of_gt hn0
                have hn0'' : w.heap.size ≠ g2 := Nat.ne_of_lt hn0
                clear hfl hce hn0
                cases hgk : gsUp c k
                · have HG1 : Hid (gsUp c (k + 1) = false) := hid (by rw [HGY.out, hgk]; rfl)
                  clear hgk HGY HI6
                  go_wp2
                  go_roundw
                  case rel => exact ⟨k + 1, by simp, by omega, by rw [HG1.out], by rw [HL.out], by rw [HP1.out]; exact HI7⟩
                  case measure => simp [intOf]; omega
                by_cases h1 : to_ < 0
                · have e1 : decide (0 ≤ to_) = false := decide_eq_false (by omega)
                  have q1 : decide (to_ < 0) = true := decide_eq_true h1
                  have HG1 : Hid (gsUp c (k + 1) = false) := hid (by rw [HGY.out, e1]; simp)
                  clear hgk HGY HI6
                  go_wp2
                  go_roundw
                  case rel => exact ⟨k + 1, by simp, by omega, by rw [HG1.out], by rw [HL.out], by rw [HP1.out]; exact HI7⟩
                  case measure => simp [intOf]; omega
                have e1 : decide (0 ≤ to_) = true := decide_eq_true (by omega)
                by_cases h2 : (c.length : Int) ≤ to_
                · have e2 : decide (to_ < (c.length : Int)) = false := decide_eq_false (by omega)
                  have HG1 : Hid (gsUp c (k + 1) = false) := hid (by rw [HGY.out, e2]; simp)
                  clear hgk HGY HI6
                  go_wp2
                  go_roundw
                  case rel => exact ⟨k + 1, by simp, by omega, by rw [HG1.out], by rw [HL.out], by rw [HP1.out]; exact HI7⟩
                  case measure => simp [intOf]; omega
                have e2 : decide (to_ < (c.length : Int)) = true := decide_eq_true (by omega)
                have h3 : 0 ≤ to_ := by omega
                have h4 : to_ < (c.length : Int) := by omega
                have f1 := HI6.out.st to_.toNat (by omega)
                cases hst : stB c to_.toNat
                · rw [hst] at f1
                  have HG1 : Hid (gsUp c (k + 1) = false) := hid (by rw [HGY.out, hst]; simp)
                  clear hgk HGY HI6 hst
                  go_wp2
                  go_roundw
                  case rel => exact ⟨k + 1, by simp, by omega, by rw [HG1.out], by rw [HL.out], by rw [HP1.out]; exact HI7⟩
                  case measure => simp [intOf]; omega
                · rw [hst] at f1
                  have HG1 : Hid (gsUp c (k + 1) = true) := hid (by rw [HGY.out, hst, hgk, e1, e2]; rfl)
                  clear hgk HGY HI6 hst
                  go_wp2
                  go_roundw
                  case rel => exact ⟨k + 1, by simp, by omega, by rw [HG1.out], by rw [HL.out], by rw [HP1.out]; exact HI7⟩
                  case measure => simp [intOf]; omega

          · have hj : isJ (at5 c k) = false := by
              cases h : isJ (at5 c k)
              · rfl
              · exact absurd (isJ_iff.1 h).2 hcj
            have HP := hid (pln_same c k hlt (rpl_no (.inr hj)))
            have HG := hid (gsUp_no (.inr hj))
            have hE : ((at5 c k).e != 0) = false := by simpa using he
            have n6 : ((at5 c k).t.cls != 6) = true := by simpa using fun h => hcj (.inl h)
            have n7 : ((at5 c k).t.cls != 7) = true := by simpa using fun h => hcj (.inr h)
            clear hj hgo he hcj x0 x1 x2 x3 x4
            generalize (at5 c k).t = T at *
            obtain ⟨cls, o2, sz, wd, rg⟩ := T
            unfold whV
            dsimp only at *
            go_wp2
            go_roundw
            case rel => exact ⟨k + 1, by simp, by omega, by rw [HG.out], by rw [HL.out], by rw [HP.out]; exact hid (HI5.out.next ((Below.refl _ _).alloc (Nat.le_refl _) _))⟩
            case measure => simp [intOf]; omega
        · have hj : isJ (at5 c k) = false := by
            cases h : isJ (at5 c k)
            · rfl
            · exact absurd (isJ_iff.1 h).1 he
          have HP := hid (pln_same c k hlt (rpl_no (.inr hj)))
          have HG := hid (gsUp_no (.inr hj))
          have hE : ((at5 c k).e != 0) = true := by simpa using he
          clear hj hgo he x0 x1 x2 x3 x4
          generalize (at5 c k).t = T at *
          obtain ⟨cls, o2, sz, wd, rg⟩ := T
          unfold whV
          dsimp only at *
          go_wp2
          go_roundw
          case rel => exact ⟨k + 1, by simp, by omega, by rw [HG.out], by rw [HL.out], by rw [HP.out]; exact hid (HI5.out.next ((Below.refl _ _).alloc (Nat.le_refl _) _))⟩
          case measure => simp [intOf]; omega
    · obtain rfl : k = c.length := by omega
      have hrj := right_jumps l c HPOS.out htop
      have hlb := lastB_lt HPOS.out
      have hsb := (mem_begsTo.1 (lastB_mem HPOS.out)).2
      have h5 : (pln c c.length).length = c.length := pln_len _ _
      have HRP := hid fun W (h : JmI w pm pc cm cc l c bs g1 c1_ g2 c2_ b3 gs (pln c c.length) W) => right_I (some ⟨g1, 0, none⟩) (some ⟨g2, 0, none⟩) c1_ c2_ c.length l.length l (pln c c.length) W (HZ.out.below h.bel) (own_mp h.maps rfl (by omega)) (own_cd h.code h5 (pln_ok HOK.out _) (by omega)) (Nat.le_of_lt hcl2)
      rw [show lsJ c c.length = lastB c from rfl]
      have f0 := HI.out.st (lastB c) hlb
      rw [hsb] at f0
      have k0 := HI.out.k0
      have k1 := HI.out.k1
      have m0_ := HI.out.m0
      have m1_ := HI.out.m1
      have hJ := HI.out
      clear hsb h5 HI
      generalize lastB c = lb at *
      generalize ((chkI l c).2 == 0) = rc at *
      generalize ((chkI l (pln c c.length)).2 == 0) = rp at *
      generalize gsUp c c.length = gl at *
      have hl0 : 0 ≤ (lb : Int) := by omega
      have hl1 : (lb : Int) < (c.length : Int) := by omega
      cases rp
      · cases gl <;> simp at hrj <;> subst hrj
        all_goals
          go_wp2_with fail
          first
            | (go_region_law (first
                | (go_simp; go_at_call 19; with_reducible refine (HRC.out wr.drew (hJ.next (below_dr wr)).bel).mono ?_; rintro e wx ⟨rfl, bx⟩; have hJx := (hJ.next (below_dr wr)).next bx; have n0 := hJx.m0; have n1 := hJx.m1)
                | (go_simp; go_at_call 19; with_reducible refine (HRP.out wx hJx).mono ?_; rintro e wy ⟨rfl, by_⟩)))
            | fail
          all_goals
            have HJ9 := hid (hJx.next by_).bel
            clear hJx n0 n1 bx by_
            go_wp2
            go_ret
            exact ⟨rfl, HJ9.out⟩
      · cases gl <;> simp at hrj <;> subst hrj
        all_goals
          go_wp2_with fail
          go_region_held3 (fun w' => w'.cell? ⟨gs, lb, none⟩ = some (.bool true) ∧ w'.cell? ⟨w.heap.size, 0, none⟩ = some (.slice pm l.length cm) ∧ w'.cell? ⟨w.heap.size, 1, none⟩ = some (.slice pc c.length cc) ∧ w'.cell? ⟨b3, 0, none⟩ = some (.slice (some ⟨g1, 0, none⟩) l.length c1_) ∧ w'.cell? ⟨b3, 1, none⟩ = some (.slice (some ⟨g2, 0, none⟩) c.length c2_) ∧ JmI w pm pc cm cc l c bs g1 c1_ g2 c2_ b3 gs (pln c c.length) w')
              (first | (go_split_ands; exact ⟨cn b9 (by assumption), cn b9 (by assumption), cn b9 (by assumption), cn b9 (by assumption), cn b9 (by assumption), JmI.next (by assumption) b9⟩) | exact ⟨cn (below_dr wr) f0, cn (below_dr wr) k0, cn (below_dr wr) k1, cn (below_dr wr) m0_, cn (below_dr wr) m1_, hJ.next (below_dr wr)⟩)
              (first
                | (go_at_call 19; go_split_ands; with_reducible refine (HRC.out _ (JmI.bel (by assumption))).mono ?_; rintro e w9 ⟨rfl, b9⟩)
                | (go_at_call 19; go_split_ands; with_reducible refine (HRP.out _ (by assumption)).mono ?_; rintro e w9 ⟨rfl, b9⟩))
          go_split_ands
          have HJ9 := hid (JmI.bel (W := w9) (by assumption))
          go_wp2
          go_ret
          exact ⟨rfl, HJ9.out⟩
end Go.Proofs.YtdnkikgfiganaaaDoor
