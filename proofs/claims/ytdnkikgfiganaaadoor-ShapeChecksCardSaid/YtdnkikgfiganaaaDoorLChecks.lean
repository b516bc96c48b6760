/-
  The walk of law ShapeChecks: what is wrong with an image, and where, is the document's; the image stays as it was. The table of sizes is as start-up lays it (the card ties it); no other condition.
-/
import Derived.Test.YtdnkikgfiganaaaDoorRaC
import Derived.Test.YtdnkikgfiganaaaDoorTwin
import Derived.Test.YtdnkikgfiganaaaDoorMoH
namespace Go.Proofs.YtdnkikgfiganaaaDoor
set_option linter.unusedSimpArgs false
set_option linter.unusedVariables false
open Go.ChangeShapes Go.WideShapes Go.ChangeAt Go.RowKit

theorem neq_map_self (a b c d : Int) (W : World) : (binOp .neq 48 (.agg #[.int .i64 a, .int .i64 b, .int .i64 c, .int .i64 d]) (.agg #[.int .i64 a, .int .i64 b, .int .i64 c, .int .i64 d])).run Tryd.prog W = .ok (.bool false) W := by
  simp [go_sem]
theorem neq_ins_self (a b c d e : Int) (W : World) : (binOp .neq 37 (.agg #[.int .u8 a, .int .u8 b, .int .u8 c, .int .i16 d, .int .i32 e]) (.agg #[.int .u8 a, .int .u8 b, .int .u8 c, .int .i16 d, .int .i32 e])).run Tryd.prog W = .ok (.bool false) W := by
  simp [go_sem]
theorem below_dn {B : Nat} {a w : World} (h : Below B a w) (n : Nat) : Below B a (w.drewN n) := ⟨h.os, h.tape, h.output, h.size, h.block⟩

set_option maxRecDepth 100000 in
set_option maxHeartbeats 4000000 in
theorem same_self (pa pb pc pd : Option Addr) (ca cb cc cd : Nat) (l : List M4) (c : List I5) (w : World) (h1 : MpSl w.heap.size w pa l.length l) (h2 : CdSl w.heap.size w pb c.length c) (h3 : MpSl w.heap.size w pc l.length l) (h4 : CdSl w.heap.size w pd c.length c) :
    Calls Tryd.prog 18 #[.agg #[.slice pa l.length ca, .slice pb c.length cb], .agg #[.slice pc l.length cc, .slice pd c.length cd]] w fun e w' => e = .returned (.bool true) ∧ Below w.heap.size w w' := by
  have H1 := hid h1
  have H2 := hid h2
  have H3 := hid h3
  have H4 := hid h4
  have hlen := h2.2.2.1
  have hlem := h1.2.1
  clear h1 h2 h3 h4
  go_enter Tryd.func18, Tryd.ntmps18
  go_wp2
  have hBa : Below w.heap.size w ((w.alloc (.cells #[.slice pa l.length ca, .slice pb c.length cb] 25)).alloc (.cells #[.slice pc l.length cc, .slice pd c.length cd] 25)) := ((Below.refl _ w).alloc (Nat.le_refl _) _).alloc (by simp) _
  have k0 : ((w.alloc (.cells #[.slice pa l.length ca, .slice pb c.length cb] 25)).alloc (.cells #[.slice pc l.length cc, .slice pd c.length cd] 25)).cell? ⟨w.heap.size, 0, none⟩ = some (.slice pa l.length ca) := cna _ (by simp)
  have k1 : ((w.alloc (.cells #[.slice pa l.length ca, .slice pb c.length cb] 25)).alloc (.cells #[.slice pc l.length cc, .slice pd c.length cd] 25)).cell? ⟨w.heap.size, 1, none⟩ = some (.slice pb c.length cb) := cna _ (by simp)
  have k2 : ((w.alloc (.cells #[.slice pa l.length ca, .slice pb c.length cb] 25)).alloc (.cells #[.slice pc l.length cc, .slice pd c.length cd] 25)).cell? ⟨w.heap.size + 1, 0, none⟩ = some (.slice pc l.length cc) := by simp
  have k3 : ((w.alloc (.cells #[.slice pa l.length ca, .slice pb c.length cb] 25)).alloc (.cells #[.slice pc l.length cc, .slice pd c.length cd] 25)).cell? ⟨w.heap.size + 1, 1, none⟩ = some (.slice pd c.length cd) := by simp
  replace H1 := hid ((H1.out.kept hBa (Nat.le_refl _)).wide hBa.size)
  replace H2 := hid ((H2.out.kept hBa (Nat.le_refl _)).wide hBa.size)
  replace H3 := hid ((H3.out.kept hBa (Nat.le_refl _)).wide hBa.size)
  replace H4 := hid ((H4.out.kept hBa (Nat.le_refl _)).wide hBa.size)
  have HBA := hid hBa
  have K0 := hid k0
  have K1 := hid k1
  have K2 := hid k2
  have K3 := hid k3
  clear hBa k0 k1 k2 k3
  generalize (w.alloc (.cells #[.slice pa l.length ca, .slice pb c.length cb] 25)).alloc (.cells #[.slice pc l.length cc, .slice pd c.length cd] 25) = W0 at *
  go_loopw [26] (fun i wr => ∃ k : Nat, i = .int .i64 k ∧ k ≤ l.length ∧ Hid (Below W0.heap.size W0 wr)) (fun i _ => l.length - (intOf i).toNat)
  case atStart => exact ⟨0, rfl, by omega, hid (Below.refl _ _)⟩
  case round =>
    obtain ⟨k, rfl, hk, HB⟩ := hrel
    have k0 := cn HB.out K0.out
    have k1 := cn HB.out K1.out
    have k2 := cn HB.out K2.out
    have k3 := cn HB.out K3.out
    by_cases hlt : k < l.length
    · obtain ⟨b, off, hp, hb, hins⟩ := (H1.out.kept HB.out (Nat.le_refl _)).2.2.resolve_left (by omega)
      subst hp
      obtain ⟨b', off', hp, hb', hins'⟩ := (H3.out.kept HB.out (Nat.le_refl _)).2.2.resolve_left (by omega)
      subst hp
      obtain ⟨i0, i1, i2, i3⟩ := hins k hlt
      obtain ⟨j0, j1, j2, j3⟩ := hins' k hlt
      clear hins hins'
      have hl0 : 0 ≤ (k : Int) := by omega
      have hl1 : (k : Int) < (l.length : Int) := by omega
      generalize mpA l k = m at *
      obtain ⟨kd, ky, vl, cp⟩ := m
      dsimp only at *
      have hne := neq_map_self kd ky vl cp
      go_wp2
      go_quiet (fail)
      go_wp2
      go_roundw
      case rel => exact ⟨k + 1, by simp, by omega, hid (below_dn HB.out _)⟩
      case measure => simp [intOf]; omega
    · obtain rfl : k = l.length := by omega
      have HB0 := HB
      clear HB
      go_wp2
      obtain ⟨wo, rfl⟩ : ∃ wo : World, wo = wr := ⟨_, rfl⟩
      go_loopw [44] (fun i wr => ∃ k : Nat, i = .int .i64 k ∧ k ≤ c.length ∧ Hid (Below W0.heap.size W0 wr)) (fun i _ => c.length - (intOf i).toNat)
      case atStart => exact ⟨0, rfl, by omega, HB0⟩
      case round =>
        obtain ⟨k, rfl, hk, HB⟩ := hrel
        replace k0 := cn HB.out K0.out
        replace k1 := cn HB.out K1.out
        replace k2 := cn HB.out K2.out
        replace k3 := cn HB.out K3.out
        by_cases hlt : k < c.length
        · obtain ⟨b, off, hp, hb, hins⟩ := (H2.out.kept HB.out (Nat.le_refl _)).2.2.2.resolve_left (by omega)
          subst hp
          obtain ⟨b', off', hp, hb', hins'⟩ := (H4.out.kept HB.out (Nat.le_refl _)).2.2.2.resolve_left (by omega)
          subst hp
          obtain ⟨i0, i1, i2, i3, i4⟩ := hins k hlt
          obtain ⟨j0, j1, j2, j3, j4⟩ := hins' k hlt
          clear hins hins'
          have hl0 : 0 ≤ (k : Int) := by omega
          have hl1 : (k : Int) < (c.length : Int) := by omega
          generalize at5 c k = x at *
          obtain ⟨op, dst, src, of_, imm⟩ := x
          dsimp only at *
          have hne := neq_ins_self op dst src of_ imm
          go_wp2
          go_quiet (fail)
          go_wp2
          go_roundw
          case rel => exact ⟨k + 1, by simp, by omega, hid (below_dn HB.out _)⟩
          case measure => simp [intOf]; omega
        · obtain rfl : k = c.length := by omega
          go_wp2
          go_ret
          exact ⟨rfl, below_next HBA.out HB.out⟩

set_option maxRecDepth 100000 in
set_option maxHeartbeats 4000000 in
theorem shapeChecks_walk (pm pc : Option Addr) (cm cc n m : Nat) (l : List M4) (c : List I5) (w : World) (hz : SzOk w) (hml : MpSl w.heap.size w pm n l) (hsl : CdSl w.heap.size w pc m c) (hcap : m ≤ cc) :
    Calls Tryd.prog 3 #[.agg #[.slice pm n cm, .slice pc m cc]] w fun e w' => e = .returned (.bool true) ∧ Below w.heap.size w w' := by
  obtain rfl := hml.1
  obtain rfl := hsl.1
  have HZ := hid hz
  have HM := hid hml
  have HS := hid hsl
  have hlim := hsl.2.2.1
  have hlem := hml.2.1
  have HOK := hid hsl.2.1
  clear hz hml hsl
  go_enter Tryd.func3, Tryd.ntmps3
  go_wp2_with fail
  have hBa : Below w.heap.size w (w.alloc (.cells #[.slice pm l.length cm, .slice pc c.length cc] 25)) := (Below.refl _ w).alloc (Nat.le_refl _) _
  have k0 : (w.alloc (.cells #[.slice pm l.length cm, .slice pc c.length cc] 25)).cell? ⟨w.heap.size, 0, none⟩ = some (.slice pm l.length cm) := by simp
  have k1 : (w.alloc (.cells #[.slice pm l.length cm, .slice pc c.length cc] 25)).cell? ⟨w.heap.size, 1, none⟩ = some (.slice pc c.length cc) := by simp
  replace HM := hid ((HM.out.kept hBa (Nat.le_refl _)).wide hBa.size)
  replace HS := hid ((HS.out.kept hBa (Nat.le_refl _)).wide hBa.size)
  have HZ0 := hid (HZ.out.below hBa)
  have HBA := hid hBa
  clear hBa HZ
  generalize w.alloc (.cells #[.slice pm l.length cm, .slice pc c.length cc] 25) = W0 at *
  refine (twin_any pm pc cm cc l.length c.length l c W0 HM.out HS.out).mono ?_
  rintro e w3 ⟨g1, c1_, g2, c2_, rfl, om, oc, hne, b3⟩
  replace k0 := cn b3 k0
  replace k1 := cn b3 k1
  have hz3 : w.heap.size < w3.heap.size := World.block_lt_of_cell? w3 _ k0
  have HB3 := hid b3
  have HOM := hid om
  have HOC := hid oc
  clear b3 om oc hne
  go_wp2_with fail
  have bA := (Below.refl w3.heap.size w3).alloc (Nat.le_refl _) (.cells #[.slice (some ⟨g1, 0, none⟩) l.length c1_, .slice (some ⟨g2, 0, none⟩) c.length c2_] 25)
  have m0 : (w3.alloc (.cells #[.slice (some ⟨g1, 0, none⟩) l.length c1_, .slice (some ⟨g2, 0, none⟩) c.length c2_] 25)).cell? ⟨w3.heap.size, 0, none⟩ = some (.slice (some ⟨g1, 0, none⟩) l.length c1_) := by simp
  have m1 : (w3.alloc (.cells #[.slice (some ⟨g1, 0, none⟩) l.length c1_, .slice (some ⟨g2, 0, none⟩) c.length c2_] 25)).cell? ⟨w3.heap.size, 1, none⟩ = some (.slice (some ⟨g2, 0, none⟩) c.length c2_) := by simp
  replace k0 := cn bA k0
  replace k1 := cn bA k1
  have HB4 := hid (below_next HB3.out bA)
  have HMo := hid (own_mp ((HOM.out.kept bA).1) rfl (by omega))
  have HSo := hid (own_cd ((HOC.out.kept bA).1) rfl HOK.out (by omega))
  have HCP := hid (Nat.le_of_lt HOC.out.2)
  clear bA HB3 HOM HOC
  generalize w3.alloc (.cells #[.slice (some ⟨g1, 0, none⟩) l.length c1_, .slice (some ⟨g2, 0, none⟩) c.length c2_] 25) = W4 at *
  generalize w3.heap.size = b5 at *
  refine (check_any (some ⟨g1, 0, none⟩) (some ⟨g2, 0, none⟩) c1_ c2_ l c W4 (HZ0.out.below HB4.out) HMo.out HSo.out HCP.out).mono ?_
  rintro e w5 ⟨rfl, b5_⟩
  replace k0 := cn b5_ k0
  replace k1 := cn b5_ k1
  replace m0 := cn b5_ m0
  replace m1 := cn b5_ m1
  have HB5 := hid (below_next HB4.out b5_)
  replace HMo := hid ((HMo.out.kept b5_ (Nat.le_refl _)).wide b5_.size)
  replace HSo := hid ((HSo.out.kept b5_ (Nat.le_refl _)).wide b5_.size)
  clear b5_ HB4 HCP
  go_wp2_with fail
  refine (rcheck_any pm pc cm cc l c w5 ((HM.out.kept HB5.out (Nat.le_refl _)).wide HB5.out.size) ((HS.out.kept HB5.out (Nat.le_refl _)).wide HB5.out.size)).mono ?_
  rintro e w6 ⟨rfl, b6⟩
  replace k0 := cn b6 k0
  replace k1 := cn b6 k1
  replace m0 := cn b6 m0
  replace m1 := cn b6 m1
  have HB6 := hid (below_next HB5.out b6)
  replace HMo := hid ((HMo.out.kept b6 (Nat.le_refl _)).wide b6.size)
  replace HSo := hid ((HSo.out.kept b6 (Nat.le_refl _)).wide b6.size)
  clear b6 HB5
  generalize chkI l c = r at *
  obtain ⟨r1, r2⟩ := r
  dsimp only
  have hr1 : (r1 == r1) = true := by simp
  have hr2 : (r2 == r2) = true := by simp
  go_wp2_with fail
  refine (awake_any w6 (HZ0.out.below HB6.out)).mono ?_
  rintro e w7 ⟨rfl, b7⟩
  replace k0 := cn b7 k0
  replace k1 := cn b7 k1
  replace m0 := cn b7 m0
  replace m1 := cn b7 m1
  have HB7 := hid (below_next HB6.out b7)
  replace HMo := hid ((HMo.out.kept b7 (Nat.le_refl _)).wide b7.size)
  replace HSo := hid ((HSo.out.kept b7 (Nat.le_refl _)).wide b7.size)
  clear b7 HB6
  go_wp2_with fail
  refine (same_self (some ⟨g1, 0, none⟩) (some ⟨g2, 0, none⟩) pm pc c1_ c2_ cm cc l c w7 HMo.out HSo.out ((HM.out.kept HB7.out (Nat.le_refl _)).wide HB7.out.size) ((HS.out.kept HB7.out (Nat.le_refl _)).wide HB7.out.size)).mono ?_
  rintro e w8 ⟨rfl, b8⟩
  have HB8 := hid (below_next HBA.out (below_next HB7.out b8))
  clear b8 HB7
  go_wp2
  go_ret
  exact ⟨rfl, HB8.out⟩
end Go.Proofs.YtdnkikgfiganaaaDoor
