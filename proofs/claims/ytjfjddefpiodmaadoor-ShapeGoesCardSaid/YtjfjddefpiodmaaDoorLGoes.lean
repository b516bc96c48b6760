/-
  The walk of law ShapeGoes: in a right image something always comes next. The table of sizes is as start-up lays it (the card ties it); no other condition.
-/
import Derived.Test.YtjfjddefpiodmaaDoorShW
import Derived.Test.YtjfjddefpiodmaaDoorShG
namespace Go.Proofs.YtjfjddefpiodmaaDoor
set_option linter.unusedSimpArgs false
set_option linter.unusedVariables false
open Go.ChangeShapes Go.WideShapes Go.ChangeAt Go.RowKit

/-- What ShapeGoes reads in a round. -/
def GoI (w : World) (pm pc : Option Addr) (cm cc m : Nat) (c : List I5) (g : Nat) (W : World) : Prop :=
  W.cell? ⟨w.heap.size, 0, none⟩ = some (.slice pm m cm) ∧ W.cell? ⟨w.heap.size, 1, none⟩ = some (.slice pc c.length cc) ∧ (∀ j, j < c.length → W.cell? ⟨g, j, none⟩ = some (.bool (stB c j))) ∧ Below w.heap.size w W
theorem GoI.kept {w : World} {pm pc : Option Addr} {cm cc m : Nat} {c : List I5} {g : Nat} {X Y : World} (h : GoI w pm pc cm cc m c g X) (hb : Below X.heap.size X Y) : GoI w pm pc cm cc m c g Y := by
  obtain ⟨h1, h2, h3, h4⟩ := h
  exact ⟨cn hb h1, cn hb h2, fun j hj => cn hb (h3 j hj), below_next h4 hb⟩

set_option maxRecDepth 100000 in
set_option maxHeartbeats 4000000 in
theorem shapeGoes_walk (pm pc : Option Addr) (cm cc n m : Nat) (l : List M4) (c : List I5) (w : World) (hz : SzOk w) (hml : MpSl w.heap.size w pm m l) (hsl : CdSl w.heap.size w pc n c) (hcap : n ≤ cc) :
    Calls Tryd.prog 5 #[.agg #[.slice pm m cm, .slice pc n cc]] w fun e w' => e = .returned (.bool true) ∧ Below w.heap.size w w' := by
  obtain rfl := hml.1
  obtain rfl := hsl.1
  have HZ := hid hz
  have HSL := hid hsl
  have HR := hid fun W (hb : Below w.heap.size w W) => right_I pm pc cm cc c.length l.length l c W (hz.below hb) ((hml.kept hb (Nat.le_refl _)).wide hb.size) ((hsl.kept hb (Nat.le_refl _)).wide hb.size) hcap
  have HS := hid fun W (hb : Below w.heap.size w W) => starts_any pc cc c W (hz.below hb) ((hsl.kept hb (Nat.le_refl _)).wide hb.size)
  have HA := hid fun W (hb : Below w.heap.size w W) => awake_any W (hz.below hb)
  have hlen := hsl.2.2.1
  clear hz hml hsl
  go_enter Tryd.func5, Tryd.ntmps5
  go_wp2_with fail
  have hB0 : Below w.heap.size w (w.alloc (.cells #[.slice pm l.length cm, .slice pc c.length cc] 25)) := (Below.refl _ w).alloc (Nat.le_refl _) _
  have k0 : (w.alloc (.cells #[.slice pm l.length cm, .slice pc c.length cc] 25)).cell? ⟨w.heap.size, 0, none⟩ = some (.slice pm l.length cm) := by simp
  have k1 : (w.alloc (.cells #[.slice pm l.length cm, .slice pc c.length cc] 25)).cell? ⟨w.heap.size, 1, none⟩ = some (.slice pc c.length cc) := by simp
  generalize w.alloc (.cells #[.slice pm l.length cm, .slice pc c.length cc] 25) = W0 at *
  refine (HA.out W0 hB0).mono ?_
  rintro e w1 ⟨rfl, b1⟩
  replace k0 := cn b1 k0
  replace k1 := cn b1 k1
  have HB1 := hid (below_next hB0 b1)
  clear b1 hB0
  go_wp2_with fail
  refine (HR.out w1 HB1.out).mono ?_
  rintro e w2 ⟨rfl, b2⟩
  replace k0 := cn b2 k0
  replace k1 := cn b2 k1
  have HB2 := hid (below_next HB1.out b2)
  clear b2 HB1 HR
  by_cases hrt : (chkI l c).2 = 0
  · have hrb : ((chkI l c).2 == 0) = true := by rw [hrt]; rfl
    have HRT := hid ((right_iff l c).1 hrt)
    rw [hrb]
    clear hrt hrb
    go_wp2_with fail
    refine (HS.out w2 HB2.out).mono ?_
    rintro e w3 ⟨g, rfl, hg0, hg1, hcs, b3⟩
    replace k0 := cn b3 k0
    replace k1 := cn b3 k1
    have hGI : GoI w pm pc cm cc l.length c g w3 := ⟨k0, k1, fun j hj => (hcs j hj).1, below_next HB2.out b3⟩
    have HGI := hid hGI
    have hpos := HRT.out.pos
    have g0 := (hcs 0 hpos).1
    rw [show stB c 0 = true from rfl] at g0
    clear hcs b3 HB2 hGI hg0 HS
    have hp0 : decide (0 < c.length) = true := decide_eq_true hpos
    go_wp2
    go_loopw [36] (fun i wr => ∃ k : Nat, i = .int .i64 k ∧ k ≤ c.length ∧ Hid (GoI w pm pc cm cc l.length c g wr)) (fun i _ => c.length - (intOf i).toNat)
    case atStart => exact ⟨0, rfl, by omega, HGI⟩
    case round =>
      obtain ⟨k, rfl, hk, HG⟩ := hrel
      clear k0 k1 g0 HGI
      by_cases hlt : k < c.length
      · obtain ⟨b, off, hp, hb, hins⟩ := (HSL.out.kept HG.out.2.2.2 (Nat.le_refl _)).2.2.2.resolve_left (by omega)
        subst hp
        obtain ⟨i0, i1, i2, i3, i4⟩ := hins k hlt
        have hgk := HG.out.2.2.1 k hlt
        have hok := at5_ok HSL.out.2.1 k
        have qg : g < wr.heap.size := World.block_lt_of_cell? wr _ hgk
        have qw : w.heap.size < wr.heap.size := World.block_lt_of_cell? wr _ HG.out.1
        clear hins
        cases hst : stB c k
        · rw [hst] at hgk
          have HGa := hid (HG.out.kept ((Below.refl wr.heap.size wr).alloc (Nat.le_refl _) (.cells #[.int .u8 (at5 c k).op, .int .u8 (at5 c k).dst, .int .u8 (at5 c k).src, .int .i16 (at5 c k).off, .int .i32 (at5 c k).imm] 40)))
          clear HG
          go_wp2
          go_roundw
          case rel => exact ⟨k + 1, by simp, by omega, HGa⟩
          case measure => simp [intOf]; omega
        · rw [hst] at hgk
          have hal := alone_zero (HRT.out.alone k hlt hst)
          have HAL := hid hal
          have HNX := hid (goes_next HRT.out hlt hst)
          have HJP := hid (goes_jump HRT.out hlt hst)
          have HP2 := hid (p_two (at5 c k) hal.1)
          have HST := hid (stB_next hst)
          have HOF := hid fun W hW => of_I (at5 c k) hok W hW
          have HPL := hid fun W hW => places_I (at5 c k) hok W hW
          have HTG := hid fun W => target_5 (k : Int) (at5 c k) hok W (by omega) (by omega)
          have hms := hid hok
          clear hal hok hst
          go_wp2_with fail
          have hbA : Below wr.heap.size wr (wr.alloc (.cells #[.int .u8 (at5 c k).op, .int .u8 (at5 c k).dst, .int .u8 (at5 c k).src, .int .i16 (at5 c k).off, .int .i32 (at5 c k).imm] 40)) := (Below.refl wr.heap.size wr).alloc (Nat.le_refl _) _
          have hGa := HG.out.kept hbA
          have j0 : (wr.alloc (.cells #[.int .u8 (at5 c k).op, .int .u8 (at5 c k).dst, .int .u8 (at5 c k).src, .int .i16 (at5 c k).off, .int .i32 (at5 c k).imm] 40)).cell? ⟨wr.heap.size, 0, none⟩ = some (.int .u8 (at5 c k).op) := by simp
          have j1 : (wr.alloc (.cells #[.int .u8 (at5 c k).op, .int .u8 (at5 c k).dst, .int .u8 (at5 c k).src, .int .i16 (at5 c k).off, .int .i32 (at5 c k).imm] 40)).cell? ⟨wr.heap.size, 1, none⟩ = some (.int .u8 (at5 c k).dst) := by simp
          have j2 : (wr.alloc (.cells #[.int .u8 (at5 c k).op, .int .u8 (at5 c k).dst, .int .u8 (at5 c k).src, .int .i16 (at5 c k).off, .int .i32 (at5 c k).imm] 40)).cell? ⟨wr.heap.size, 2, none⟩ = some (.int .u8 (at5 c k).src) := by simp
          have j3 : (wr.alloc (.cells #[.int .u8 (at5 c k).op, .int .u8 (at5 c k).dst, .int .u8 (at5 c k).src, .int .i16 (at5 c k).off, .int .i32 (at5 c k).imm] 40)).cell? ⟨wr.heap.size, 3, none⟩ = some (.int .i16 (at5 c k).off) := by simp
          have j4 : (wr.alloc (.cells #[.int .u8 (at5 c k).op, .int .u8 (at5 c k).dst, .int .u8 (at5 c k).src, .int .i16 (at5 c k).off, .int .i32 (at5 c k).imm] 40)).cell? ⟨wr.heap.size, 4, none⟩ = some (.int .i32 (at5 c k).imm) := by simp
          clear hbA i0 i1 i2 i3 i4 hgk HG
          generalize wr.alloc (.cells #[.int .u8 (at5 c k).op, .int .u8 (at5 c k).dst, .int .u8 (at5 c k).src, .int .i16 (at5 c k).off, .int .i32 (at5 c k).imm] 40) = wa at *
          generalize wr.heap.size = gx at *
          refine (HOF.out wa (HZ.out.below hGa.2.2.2)).mono ?_
          rintro e w4 ⟨rfl, b4⟩
          have HG4 := hid (hGa.kept b4)
          replace j0 := cn b4 j0
          replace j1 := cn b4 j1
          replace j2 := cn b4 j2
          replace j3 := cn b4 j3
          replace j4 := cn b4 j4
          have q4 : gx < w4.heap.size := World.block_lt_of_cell? w4 _ j0
          clear b4 hGa HOF
          rw [HAL.out.1]
          simp only [whV]
          go_wp2_with fail
          have hbW : Below w4.heap.size w4 (w4.alloc (.cells #[.int .i64 (at5 c k).t.cls, .int .i64 (at5 c k).t.op, .int .i64 (at5 c k).t.size, .bool (at5 c k).t.wide, .bool (at5 c k).t.reg] 45)) := (Below.refl w4.heap.size w4).alloc (Nat.le_refl _) _
          have hGw := HG4.out.kept hbW
          have e0 : (w4.alloc (.cells #[.int .i64 (at5 c k).t.cls, .int .i64 (at5 c k).t.op, .int .i64 (at5 c k).t.size, .bool (at5 c k).t.wide, .bool (at5 c k).t.reg] 45)).cell? ⟨w4.heap.size, 0, none⟩ = some (.int .i64 (at5 c k).t.cls) := by simp
          replace j0 := cn hbW j0
          replace j1 := cn hbW j1
          replace j2 := cn hbW j2
          replace j3 := cn hbW j3
          replace j4 := cn hbW j4
          clear hbW HG4
          generalize w4.alloc (.cells #[.int .i64 (at5 c k).t.cls, .int .i64 (at5 c k).t.op, .int .i64 (at5 c k).t.size, .bool (at5 c k).t.wide, .bool (at5 c k).t.reg] 45) = wb at *
          generalize w4.heap.size = gw at *
          refine (HPL.out wb (HZ.out.below hGw.2.2.2)).mono ?_
          rintro e w5 ⟨rfl, b5⟩
          have HG5 := hid (hGw.kept b5)
          replace e0 := cn b5 e0
          replace j0 := cn b5 j0
          replace j1 := cn b5 j1
          replace j2 := cn b5 j2
          replace j3 := cn b5 j3
          replace j4 := cn b5 j4
          clear b5 hGw HPL
          by_cases c6 : (at5 c k).t.cls = 6
          · have hc := c6
            have hP : (at5 c k).p = 1 := by rw [HP2.out, hc]; decide
            have hs : stepN (at5 c k) = 1 := by unfold stepN; rw [hP]; decide
            obtain ⟨n1, n2⟩ := HNX.out (by rw [hc]; decide) (by rw [hc]; decide)
            rw [hs] at n1 n2
            have hn := HG5.out.2.2.1 _ n1
            rw [n2] at hn
            have n3 : decide ((c.length : Int) ≤ (k : Int) + 1) = false := decide_eq_false (by omega)
            have n4 : (k : Int) + 1 < (c.length : Int) := by omega
            obtain ⟨q, hq, q1, q2⟩ := HJP.out (by rw [hc]; decide)
            have HT : Hid (∀ W, Calls Tryd.prog 19 #[.int .i64 (k : Int), (at5 c k).V] W fun e w' => e = .returned (.int .i64 (q : Int)) ∧ Below W.heap.size W w') := hid (fun W => by have h := HTG.out W; rw [show (k : Int) + 1 + (at5 c k).off = q from hq] at h; exact h)
            have t1 : decide ((q : Int) < 0) = false := decide_eq_false (by omega)
            have t2 : decide ((c.length : Int) ≤ (q : Int)) = false := decide_eq_false (by omega)
            rw [hP]
            rw [hc] at e0
            go_wp2_with fail
            refine (HT.out w5).mono ?_
            rintro e w6 ⟨rfl, b6⟩
            have hG6 := HG5.out.kept b6
            replace e0 := cn b6 e0
            replace j4 := cn b6 j4
            have l0 := hG6.1
            have hn2 := hG6.2.2.1 q q1
            rw [q2] at hn2
            have HG6 := hid hG6
            clear b6 hG6 j0 j1 j2 j3 HG5
            go_wp2
            go_roundw
            case rel => exact ⟨k + 1, by simp, by omega, HG6⟩
            case measure => simp [intOf]; omega
          by_cases c7 : (at5 c k).t.cls = 7
          · have hc := c7
            have hP : (at5 c k).p = 1 := by rw [HP2.out, hc]; decide
            have hs : stepN (at5 c k) = 1 := by unfold stepN; rw [hP]; decide
            obtain ⟨q, hq, q1, q2⟩ := HJP.out (by rw [hc]; decide)
            have HT : Hid (∀ W, Calls Tryd.prog 19 #[.int .i64 (k : Int), (at5 c k).V] W fun e w' => e = .returned (.int .i64 (q : Int)) ∧ Below W.heap.size W w') := hid (fun W => by have h := HTG.out W; rw [show (k : Int) + 1 + (at5 c k).off = q from hq] at h; exact h)
            have t1 : decide ((q : Int) < 0) = false := decide_eq_false (by omega)
            have t2 : decide ((c.length : Int) ≤ (q : Int)) = false := decide_eq_false (by omega)
            rw [hP]
            rw [hc] at e0
            go_wp2_with fail
            refine (HT.out w5).mono ?_
            rintro e w6 ⟨rfl, b6⟩
            have hG6 := HG5.out.kept b6
            replace e0 := cn b6 e0
            replace j4 := cn b6 j4
            have l0 := hG6.1
            have hn2 := hG6.2.2.1 q q1
            rw [q2] at hn2
            have HG6 := hid hG6
            clear b6 hG6 j0 j1 j2 j3 HG5
            go_wp2
            go_roundw
            case rel => exact ⟨k + 1, by simp, by omega, HG6⟩
            case measure => simp [intOf]; omega
          by_cases c8 : (at5 c k).t.cls = 8
          · have hc := c8
            have hP : (at5 c k).p = 1 := by rw [HP2.out, hc]; decide
            have hs : stepN (at5 c k) = 1 := by unfold stepN; rw [hP]; decide
            obtain ⟨n1, n2⟩ := HNX.out (by rw [hc]; decide) (by rw [hc]; decide)
            rw [hs] at n1 n2
            have hn := HG5.out.2.2.1 _ n1
            rw [n2] at hn
            have n3 : decide ((c.length : Int) ≤ (k : Int) + 1) = false := decide_eq_false (by omega)
            have n4 : (k : Int) + 1 < (c.length : Int) := by omega
            have HT := HTG
            generalize (k : Int) + 1 + (at5 c k).off = tq at HT
            have hh := HAL.out.2.2.2 hc
            have HHP := hid fun W => helper_is (at5 c k).imm W
            rw [hh] at HHP
            rw [hP]
            rw [hc] at e0
            go_wp2_with fail
            refine (HT.out w5).mono ?_
            rintro e w6 ⟨rfl, b6⟩
            have hG6 := HG5.out.kept b6
            replace e0 := cn b6 e0
            replace j4 := cn b6 j4
            have l0 := hG6.1
            have HG6 := hid hG6
            clear b6 hG6 j0 j1 j2 j3 HG5
            go_wp2_with fail
            refine (HHP.out w6).mono ?_
            rintro e w' ⟨rfl, rfl⟩
            go_wp2
            go_roundw
            case rel => exact ⟨k + 1, by simp, by omega, HG6⟩
            case measure => simp [intOf]; omega
          by_cases c9 : (at5 c k).t.cls = 9
          · have hc := c9
            have hP : (at5 c k).p = 1 := by rw [HP2.out, hc]; decide
            have hs : stepN (at5 c k) = 1 := by unfold stepN; rw [hP]; decide
            have HT := HTG
            generalize (k : Int) + 1 + (at5 c k).off = tq at HT
            rw [hP]
            rw [hc] at e0
            go_wp2_with fail
            refine (HT.out w5).mono ?_
            rintro e w6 ⟨rfl, b6⟩
            have hG6 := HG5.out.kept b6
            replace e0 := cn b6 e0
            replace j4 := cn b6 j4
            have l0 := hG6.1
            have HG6 := hid hG6
            clear b6 hG6 j0 j1 j2 j3 HG5
            go_wp2
            go_roundw
            case rel => exact ⟨k + 1, by simp, by omega, HG6⟩
            case measure => simp [intOf]; omega
          by_cases c10 : (at5 c k).t.cls = 10
          · have hc := c10
            have hP : (at5 c k).p = 2 := by rw [HP2.out, hc]; decide
            have hs : stepN (at5 c k) = 2 := by unfold stepN; rw [hP]; decide
            obtain ⟨n1, n2⟩ := HNX.out (by rw [hc]; decide) (by rw [hc]; decide)
            rw [hs] at n1 n2
            have hn := HG5.out.2.2.1 _ n1
            rw [n2] at hn
            have n3 : decide ((c.length : Int) ≤ (k : Int) + 2) = false := decide_eq_false (by omega)
            have n4 : (k : Int) + 2 < (c.length : Int) := by omega
            have n5 := HST.out.2 hs
            have hn1 := HG5.out.2.2.1 (k + 1) (by omega)
            rw [n5] at hn1
            have HT := HTG
            generalize (k : Int) + 1 + (at5 c k).off = tq at HT
            rw [hP]
            rw [hc] at e0
            go_wp2_with fail
            refine (HT.out w5).mono ?_
            rintro e w6 ⟨rfl, b6⟩
            have hG6 := HG5.out.kept b6
            replace e0 := cn b6 e0
            replace j4 := cn b6 j4
            have l0 := hG6.1
            have HG6 := hid hG6
            clear b6 hG6 j0 j1 j2 j3 HG5
            go_wp2
            go_roundw
            case rel => exact ⟨k + 1, by simp, by omega, HG6⟩
            case measure => simp [intOf]; omega
          by_cases c11 : (at5 c k).t.cls = 11
          · have hc := c11
            have hP : (at5 c k).p = 2 := by rw [HP2.out, hc]; decide
            have hs : stepN (at5 c k) = 2 := by unfold stepN; rw [hP]; decide
            obtain ⟨n1, n2⟩ := HNX.out (by rw [hc]; decide) (by rw [hc]; decide)
            rw [hs] at n1 n2
            have hn := HG5.out.2.2.1 _ n1
            rw [n2] at hn
            have n3 : decide ((c.length : Int) ≤ (k : Int) + 2) = false := decide_eq_false (by omega)
            have n4 : (k : Int) + 2 < (c.length : Int) := by omega
            have n5 := HST.out.2 hs
            have hn1 := HG5.out.2.2.1 (k + 1) (by omega)
            rw [n5] at hn1
            have HT := HTG
            generalize (k : Int) + 1 + (at5 c k).off = tq at HT
            obtain ⟨a1, a2⟩ := HAL.out.2.2.1 hc
            have a3 : decide ((at5 c k).imm < 0) = false := decide_eq_false (by omega)
            have a4 : decide ((l.length : Int) ≤ (at5 c k).imm) = false := decide_eq_false (by omega)
            obtain ⟨_, _, _, _, _, _, _, _, m0, m1⟩ := hms.out
            rw [hP]
            rw [hc] at e0
            go_wp2_with fail
            refine (HT.out w5).mono ?_
            rintro e w6 ⟨rfl, b6⟩
            have hG6 := HG5.out.kept b6
            replace e0 := cn b6 e0
            replace j4 := cn b6 j4
            have l0 := hG6.1
            have HG6 := hid hG6
            clear b6 hG6 j0 j1 j2 j3 HG5
            go_wp2
            go_roundw
            case rel => exact ⟨k + 1, by simp, by omega, HG6⟩
            case measure => simp [intOf]; omega
          have z6 : ((at5 c k).t.cls == 6) = false := by simpa using c6
          have z7 : ((at5 c k).t.cls == 7) = false := by simpa using c7
          have z8 : ((at5 c k).t.cls == 8) = false := by simpa using c8
          have z11 : ((at5 c k).t.cls == 11) = false := by simpa using c11
          have y7 : ((at5 c k).t.cls != 7) = true := by simpa using c7
          have y9 : ((at5 c k).t.cls != 9) = true := by simpa using c9
          have hP : (at5 c k).p = 1 := by rw [HP2.out, if_neg (fun h => h.elim c10 c11)]
          have hs : stepN (at5 c k) = 1 := by unfold stepN; rw [hP]; decide
          obtain ⟨n1, n2⟩ := HNX.out (by exact c7) (by exact c9)
          rw [hs] at n1 n2
          have hn := HG5.out.2.2.1 _ n1
          rw [n2] at hn
          have n3 : decide ((c.length : Int) ≤ (k : Int) + 1) = false := decide_eq_false (by omega)
          have n4 : (k : Int) + 1 < (c.length : Int) := by omega
          have HT := HTG
          generalize (k : Int) + 1 + (at5 c k).off = tq at HT
          rw [hP]
          go_wp2_with fail
          refine (HT.out w5).mono ?_
          rintro e w6 ⟨rfl, b6⟩
          have hG6 := HG5.out.kept b6
          replace e0 := cn b6 e0
          replace j4 := cn b6 j4
          have l0 := hG6.1
          have HG6 := hid hG6
          clear b6 hG6 j0 j1 j2 j3 HG5
          go_wp2
          go_roundw
          case rel => exact ⟨k + 1, by simp, by omega, HG6⟩
          case measure => simp [intOf]; omega
      · obtain rfl : k = c.length := by omega
        go_wp2
        go_ret
        exact ⟨rfl, HG.out.2.2.2⟩
  · have hrb : ((chkI l c).2 == 0) = false := by simpa using hrt
    rw [hrb]
    clear hrt hrb
    go_wp2_with fail
    refine (HA.out w2 HB2.out).mono ?_
    rintro e w3 ⟨rfl, b3⟩
    have HB3 := hid (below_next HB2.out b3)
    clear b3
    go_wp2
    go_ret
    exact ⟨rfl, HB3.out⟩
end Go.Proofs.YtjfjddefpiodmaaDoor
