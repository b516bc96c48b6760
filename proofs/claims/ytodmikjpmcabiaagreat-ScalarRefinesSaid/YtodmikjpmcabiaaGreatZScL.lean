import Derived.Test.YtodmikjpmcabiaaGreatZScK
import Derived.Deep.RegionLaw
import Derived.Deep.RegionHeld3
import Derived.BigRegion
namespace Go.Proofs.YtodmikjpmcabiaaGreat
set_option linter.unusedSimpArgs false
set_option linter.unusedVariables false
set_option maxRecDepth 100000
open Go.ChangeShapes Go.WideShapes Go.ChangeAt Go.RowKit

def comT (a b : Sc) (k : Bool) : Sc × Sc × Bool :=
  if k = true then (a, b, !(((a.1.1 ||| a.1.2) &&& (b.1.1 ||| b.1.2)) == 0#64))
  else if ¬ ((a.1.1 &&& b.1.1) == 0#64) = true then (sc0, sc0, false)
  else if singleX b = true then (optS (settle ((a.1.1, a.1.2 &&& ~~~b.2.1), a.2)), b, (settle ((a.1.1, a.1.2 &&& ~~~b.2.1), a.2)).isSome)
  else (a, b, true)
def triv (x y : Sc) (k : Bool) : Value := .tuple #[sv x, sv y, .bool k]
set_option maxHeartbeats 8000000 in
theorem cCommon_yes (a b : Sc) (w : World) : Calls Tryz.prog 93 #[sv a, sv b, .bool true] w fun e w' => e = .returned (triv a b (!(((a.1.1 ||| a.1.2) &&& (b.1.1 ||| b.1.2)) == 0#64))) ∧ Below w.heap.size w w' := by
  obtain ⟨⟨v, m⟩, l, h⟩ := a
  obtain ⟨⟨v', m'⟩, l', h'⟩ := b
  unfold triv sv
  dsimp only
  go_enter Tryz.func93, Tryz.ntmps93
  go_wp2_with fail
  have JX : SC ((((w.alloc (.cells #[.int .u64 (ub v), .int .u64 (ub m), .int .u64 (ub l), .int .u64 (ub h)] 28)).alloc (.cells #[.int .u64 (ub v'), .int .u64 (ub m'), .int .u64 (ub l'), .int .u64 (ub h')] 28)).alloc (.cells #[.int .u64 0, .int .u64 0, .int .u64 0, .int .u64 0] 28)).alloc (.cells #[.int .u64 0, .int .u64 0, .int .u64 0, .int .u64 0] 28)) (w.heap.size) ((v, m), l, h) := ((((SC.new (x := ((v, m), l, h)) rfl).alloc _).alloc _).alloc _)
  have JY : SC ((((w.alloc (.cells #[.int .u64 (ub v), .int .u64 (ub m), .int .u64 (ub l), .int .u64 (ub h)] 28)).alloc (.cells #[.int .u64 (ub v'), .int .u64 (ub m'), .int .u64 (ub l'), .int .u64 (ub h')] 28)).alloc (.cells #[.int .u64 0, .int .u64 0, .int .u64 0, .int .u64 0] 28)).alloc (.cells #[.int .u64 0, .int .u64 0, .int .u64 0, .int .u64 0] 28)) (w.heap.size + 1) ((v', m'), l', h') := (((SC.new (x := ((v', m'), l', h')) (by simp)).alloc _).alloc _)
  have JR : SC ((((w.alloc (.cells #[.int .u64 (ub v), .int .u64 (ub m), .int .u64 (ub l), .int .u64 (ub h)] 28)).alloc (.cells #[.int .u64 (ub v'), .int .u64 (ub m'), .int .u64 (ub l'), .int .u64 (ub h')] 28)).alloc (.cells #[.int .u64 0, .int .u64 0, .int .u64 0, .int .u64 0] 28)).alloc (.cells #[.int .u64 0, .int .u64 0, .int .u64 0, .int .u64 0] 28)) (w.heap.size + 1 + 1) sc0 := ((SC.new (x := sc0) (by simp)).alloc _)
  have JRb : SC ((((w.alloc (.cells #[.int .u64 (ub v), .int .u64 (ub m), .int .u64 (ub l), .int .u64 (ub h)] 28)).alloc (.cells #[.int .u64 (ub v'), .int .u64 (ub m'), .int .u64 (ub l'), .int .u64 (ub h')] 28)).alloc (.cells #[.int .u64 0, .int .u64 0, .int .u64 0, .int .u64 0] 28)).alloc (.cells #[.int .u64 0, .int .u64 0, .int .u64 0, .int .u64 0] 28)) (w.heap.size + 1 + 1 + 1) sc0 := (SC.new (x := sc0) (by simp))
  have B : Below w.heap.size w ((((w.alloc (.cells #[.int .u64 (ub v), .int .u64 (ub m), .int .u64 (ub l), .int .u64 (ub h)] 28)).alloc (.cells #[.int .u64 (ub v'), .int .u64 (ub m'), .int .u64 (ub l'), .int .u64 (ub h')] 28)).alloc (.cells #[.int .u64 0, .int .u64 0, .int .u64 0, .int .u64 0] 28)).alloc (.cells #[.int .u64 0, .int .u64 0, .int .u64 0, .int .u64 0] 28)) := (bel_alloc (bel_alloc (bel_alloc (bel_alloc (Below.refl _ _)))))
  generalize ((((w.alloc (.cells #[.int .u64 (ub v), .int .u64 (ub m), .int .u64 (ub l), .int .u64 (ub h)] 28)).alloc (.cells #[.int .u64 (ub v'), .int .u64 (ub m'), .int .u64 (ub l'), .int .u64 (ub h')] 28)).alloc (.cells #[.int .u64 0, .int .u64 0, .int .u64 0, .int .u64 0] 28)).alloc (.cells #[.int .u64 0, .int .u64 0, .int .u64 0, .int .u64 0] 28)) = w00 at *
  obtain ⟨JXl, JX0, JX1, JX2, JX3⟩ := JX.k
  obtain ⟨JYl, JY0, JY1, JY2, JY3⟩ := JY.k
  obtain ⟨JRl, JR0, JR1, JR2, JR3, JRf0, JRf1, JRf2, JRf3⟩ := id JR
  obtain ⟨JRbl, JRb0, JRb1, JRb2, JRb3, JRbf0, JRbf1, JRbf2, JRbf3⟩ := id JRb
  have lb := B.size
  go_wp2_with fail
  clear JX0 JX1 JX2 JX3 JXl JY0 JY1 JY2 JY3 JYl JR0 JR1 JR2 JR3 JRl JRf0 JRf1 JRf2 JRf3 JRb0 JRb1 JRb2 JRb3 JRbl JRbf0 JRbf1 JRbf2 JRbf3 lb
  obtain ⟨JXdl, JXd0, JXd1, JXd2, JXd3, JXdf0, JXdf1, JXdf2, JXdf3⟩ := id JX
  obtain ⟨JYdl, JYd0, JYd1, JYd2, JYd3, JYdf0, JYdf1, JYdf2, JYdf3⟩ := id JY
  obtain ⟨JRdl, JRd0, JRd1, JRd2, JRd3, JRdf0, JRdf1, JRdf2, JRdf3⟩ := id JR
  obtain ⟨JRbdl, JRbd0, JRbd1, JRbd2, JRbd3, JRbdf0, JRbdf1, JRbdf2, JRbdf3⟩ := id JRb
  have ld := B.size
  apply cutF (F := fun W' => SC W' (w.heap.size) ((v, m), l, h) ∧ SC W' (w.heap.size + 1) ((v', m'), l', h') ∧ SC W' (w.heap.size + 1 + 1) (((v, m), l, h)) ∧ SC W' (w.heap.size + 1 + 1 + 1) (((v', m'), l', h')) ∧ Below w.heap.size w W')
  · go_region
    all_goals exact ⟨⟨(((JX.other (c := w.heap.size + 1 + 1) (by omega) (((v, m), l, h))).other (c := w.heap.size + 1 + 1 + 1) (by omega) (((v', m'), l', h'))).below (below_dr _)), (((JY.other (c := w.heap.size + 1 + 1) (by omega) (((v, m), l, h))).other (c := w.heap.size + 1 + 1 + 1) (by omega) (((v', m'), l', h'))).below (below_dr _)), (((JR.put (((v, m), l, h))).other (c := w.heap.size + 1 + 1 + 1) (by omega) (((v', m'), l', h'))).below (below_dr _)), (((JRb.other (c := w.heap.size + 1 + 1) (by omega) (((v, m), l, h))).put (((v', m'), l', h'))).below (below_dr _)), below_next (putS_below (((v', m'), l', h')) (putS_below (((v, m), l, h)) B (by omega : w.heap.size ≤ w.heap.size + 1 + 1)) (by omega : w.heap.size ≤ w.heap.size + 1 + 1 + 1)) (below_dr _)⟩, rfl⟩
  clear JXd0 JXd1 JXd2 JXd3 JXdl JXdf0 JXdf1 JXdf2 JXdf3 JYd0 JYd1 JYd2 JYd3 JYdl JYdf0 JYdf1 JYdf2 JYdf3 JRd0 JRd1 JRd2 JRd3 JRdl JRdf0 JRdf1 JRdf2 JRdf3 JRbd0 JRbd1 JRbd2 JRbd3 JRbdl JRbdf0 JRbdf1 JRbdf2 JRbdf3 ld
  clear JX JY JR JRb B
  intro w1 ⟨JX, JY, JR, JRb, B⟩
  obtain ⟨JXl, JX0, JX1, JX2, JX3⟩ := JX.k
  obtain ⟨JYl, JY0, JY1, JY2, JY3⟩ := JY.k
  obtain ⟨JRl, JR0, JR1, JR2, JR3, JRf0, JRf1, JRf2, JRf3⟩ := id JR
  obtain ⟨JRbl, JRb0, JRb1, JRb2, JRb3, JRbf0, JRbf1, JRbf2, JRbf3⟩ := id JRb
  have lb := B.size
  go_wp2
  exact bodyPost_ret (v := .tuple #[sv ((v, m), l, h), sv ((v', m'), l', h'), .bool (!(((v ||| m) &&& (v' ||| m')) == 0#64))]) (by simp [results, Tryz.results93, go_sem, JX0, JX1, JX2, JX3, JXl, JY0, JY1, JY2, JY3, JYl, JR0, JR1, JR2, JR3, JRl, JRb0, JRb1, JRb2, JRb3, JRbl]; try first | rfl | exact ⟨rfl, rfl⟩) rfl ⟨rfl, B⟩
set_option maxHeartbeats 8000000 in
theorem cCommon_both (a b : Sc) (hv : ((a.1.1 &&& b.1.1) == 0#64) = false) (w : World) : Calls Tryz.prog 93 #[sv a, sv b, .bool false] w fun e w' => e = .returned (triv sc0 sc0 false) ∧ Below w.heap.size w w' := by
  obtain ⟨⟨v, m⟩, l, h⟩ := a
  obtain ⟨⟨v', m'⟩, l', h'⟩ := b
  unfold triv sv
  dsimp only at hv ⊢
  have hv' : (!(v &&& v' == 0#64)) = true := by rw [hv]; rfl
  go_enter Tryz.func93, Tryz.ntmps93
  go_wp2
  exact bodyPost_ret (v := .tuple #[sv sc0, sv sc0, .bool false]) (by simp [results, Tryz.results93, go_sem]; try first | rfl | exact ⟨rfl, rfl⟩) rfl ⟨rfl, bel_alloc (bel_alloc (bel_alloc (bel_alloc (Below.refl _ _))))⟩
set_option maxHeartbeats 8000000 in
theorem cCommon_many (a b : Sc) (hv : ((a.1.1 &&& b.1.1) == 0#64) = true) (hs : singleX b = false) (w : World) : Calls Tryz.prog 93 #[sv a, sv b, .bool false] w fun e w' => e = .returned (triv a b true) ∧ Below w.heap.size w w' := by
  have X1 := fun W => cSingle_any b W
  rw [hs] at X1
  obtain ⟨⟨v, m⟩, l, h⟩ := a
  obtain ⟨⟨v', m'⟩, l', h'⟩ := b
  unfold triv
  unfold sv at X1 ⊢
  dsimp only at hv X1 ⊢
  have hv' : (!(v &&& v' == 0#64)) = false := by rw [hv]; rfl
  replace X1 := hid X1
  clear hs
  go_enter Tryz.func93, Tryz.ntmps93
  go_wp2_with fail
  refine (X1.out _).mono ?_
  rintro e w1 ⟨rfl, z⟩
  have JX : SC w1 (w.heap.size) (((v, m), l, h)) := ((((SC.new rfl).alloc _).alloc _).alloc _).below z
  have JY : SC w1 (w.heap.size + 1) (((v', m'), l', h')) := (((SC.new (by simp)).alloc _).alloc _).below z
  have JR : SC w1 (w.heap.size + 1 + 1) (sc0) := ((SC.new (by simp)).alloc _).below z
  have JRb : SC w1 (w.heap.size + 1 + 1 + 1) (sc0) := (SC.new (by simp)).below z
  have B := below_next (bel_alloc (bel_alloc (bel_alloc (bel_alloc (Below.refl w.heap.size w))))) z
  clear z
  obtain ⟨JXl, JX0, JX1, JX2, JX3⟩ := JX.k
  obtain ⟨JYl, JY0, JY1, JY2, JY3⟩ := JY.k
  obtain ⟨JRl, JR0, JR1, JR2, JR3, JRf0, JRf1, JRf2, JRf3⟩ := id JR
  obtain ⟨JRbl, JRb0, JRb1, JRb2, JRb3, JRbf0, JRbf1, JRbf2, JRbf3⟩ := id JRb
  have lb := B.size
  go_wp2_with fail
  clear JX0 JX1 JX2 JX3 JXl JY0 JY1 JY2 JY3 JYl JR0 JR1 JR2 JR3 JRl JRf0 JRf1 JRf2 JRf3 JRb0 JRb1 JRb2 JRb3 JRbl JRbf0 JRbf1 JRbf2 JRbf3 lb
  obtain ⟨JXdl, JXd0, JXd1, JXd2, JXd3, JXdf0, JXdf1, JXdf2, JXdf3⟩ := id JX
  obtain ⟨JYdl, JYd0, JYd1, JYd2, JYd3, JYdf0, JYdf1, JYdf2, JYdf3⟩ := id JY
  obtain ⟨JRdl, JRd0, JRd1, JRd2, JRd3, JRdf0, JRdf1, JRdf2, JRdf3⟩ := id JR
  obtain ⟨JRbdl, JRbd0, JRbd1, JRbd2, JRbd3, JRbdf0, JRbdf1, JRbdf2, JRbdf3⟩ := id JRb
  have ld := B.size
  have hu : undef = Value.tuple #[] := rfl
  apply cutF (F := fun W' => SC W' (w.heap.size) ((v, m), l, h) ∧ SC W' (w.heap.size + 1) ((v', m'), l', h') ∧ SC W' (w.heap.size + 1 + 1) (((v, m), l, h)) ∧ SC W' (w.heap.size + 1 + 1 + 1) (((v', m'), l', h')) ∧ Below w.heap.size w W')
  · first | (go_region_law (fail)) | fail
    all_goals exact ⟨⟨(((JX.other (c := w.heap.size + 1 + 1) (by omega) (((v, m), l, h))).other (c := w.heap.size + 1 + 1 + 1) (by omega) (((v', m'), l', h'))).below (below_dr _)), (((JY.other (c := w.heap.size + 1 + 1) (by omega) (((v, m), l, h))).other (c := w.heap.size + 1 + 1 + 1) (by omega) (((v', m'), l', h'))).below (below_dr _)), (((JR.put (((v, m), l, h))).other (c := w.heap.size + 1 + 1 + 1) (by omega) (((v', m'), l', h'))).below (below_dr _)), (((JRb.other (c := w.heap.size + 1 + 1) (by omega) (((v, m), l, h))).put (((v', m'), l', h'))).below (below_dr _)), below_next (putS_below (((v', m'), l', h')) (putS_below (((v, m), l, h)) B (by omega : w.heap.size ≤ w.heap.size + 1 + 1)) (by omega : w.heap.size ≤ w.heap.size + 1 + 1 + 1)) (below_dr _)⟩, rfl⟩
  clear JXd0 JXd1 JXd2 JXd3 JXdl JXdf0 JXdf1 JXdf2 JXdf3 JYd0 JYd1 JYd2 JYd3 JYdl JYdf0 JYdf1 JYdf2 JYdf3 JRd0 JRd1 JRd2 JRd3 JRdl JRdf0 JRdf1 JRdf2 JRdf3 JRbd0 JRbd1 JRbd2 JRbd3 JRbdl JRbdf0 JRbdf1 JRbdf2 JRbdf3 ld hu
  clear JX JY JR JRb B
  intro w2 ⟨JX, JY, JR, JRb, B⟩
  obtain ⟨JXl, JX0, JX1, JX2, JX3⟩ := JX.k
  obtain ⟨JYl, JY0, JY1, JY2, JY3⟩ := JY.k
  obtain ⟨JRl, JR0, JR1, JR2, JR3, JRf0, JRf1, JRf2, JRf3⟩ := id JR
  obtain ⟨JRbl, JRb0, JRb1, JRb2, JRb3, JRbf0, JRbf1, JRbf2, JRbf3⟩ := id JRb
  have lb := B.size
  go_wp2
  exact bodyPost_ret (v := .tuple #[sv ((v, m), l, h), sv ((v', m'), l', h'), .bool true]) (by simp [results, Tryz.results93, go_sem, JX0, JX1, JX2, JX3, JXl, JY0, JY1, JY2, JY3, JYl, JR0, JR1, JR2, JR3, JRl, JRb0, JRb1, JRb2, JRb3, JRbl]; try first | rfl | exact ⟨rfl, rfl⟩) rfl ⟨rfl, B⟩
set_option maxHeartbeats 8000000 in
theorem cCommon_one (a b : Sc) (hv : ((a.1.1 &&& b.1.1) == 0#64) = true) (hs : singleX b = true) (w : World) : Calls Tryz.prog 93 #[sv a, sv b, .bool false] w fun e w' => e = .returned (triv (optS (settle ((a.1.1, a.1.2 &&& ~~~b.2.1), a.2))) b (settle ((a.1.1, a.1.2 &&& ~~~b.2.1), a.2)).isSome) ∧ Below w.heap.size w w' := by
  have X1 := fun W => cSingle_any b W
  rw [hs] at X1
  have X2 := fun W => cSettle_any (a.1.1, a.1.2 &&& ~~~b.2.1) a.2 W
  generalize (settle ((a.1.1, a.1.2 &&& ~~~b.2.1), a.2)).isSome = o at *
  generalize optS (settle ((a.1.1, a.1.2 &&& ~~~b.2.1), a.2)) = P at *
  obtain ⟨⟨v, m⟩, l, h⟩ := a
  obtain ⟨⟨v', m'⟩, l', h'⟩ := b
  unfold triv
  unfold tv at X2
  unfold sv at X1 X2 ⊢
  dsimp only at hv X1 X2 ⊢
  have hv' : (!(v &&& v' == 0#64)) = false := by rw [hv]; rfl
  replace X1 := hid X1
  replace X2 := hid X2
  clear hs
  go_enter Tryz.func93, Tryz.ntmps93
  go_wp2_with fail
  refine (X1.out _).mono ?_
  rintro e w1 ⟨rfl, z⟩
  have JX : SC w1 (w.heap.size) (((v, m), l, h)) := ((((SC.new rfl).alloc _).alloc _).alloc _).below z
  have JY : SC w1 (w.heap.size + 1) (((v', m'), l', h')) := (((SC.new (by simp)).alloc _).alloc _).below z
  have JR : SC w1 (w.heap.size + 1 + 1) (sc0) := ((SC.new (by simp)).alloc _).below z
  have JRb : SC w1 (w.heap.size + 1 + 1 + 1) (sc0) := (SC.new (by simp)).below z
  have B := below_next (bel_alloc (bel_alloc (bel_alloc (bel_alloc (Below.refl w.heap.size w))))) z
  clear z
  obtain ⟨JXl, JX0, JX1, JX2, JX3⟩ := JX.k
  obtain ⟨JYl, JY0, JY1, JY2, JY3⟩ := JY.k
  obtain ⟨JRl, JR0, JR1, JR2, JR3, JRf0, JRf1, JRf2, JRf3⟩ := id JR
  obtain ⟨JRbl, JRb0, JRb1, JRb2, JRb3, JRbf0, JRbf1, JRbf2, JRbf3⟩ := id JRb
  have lb := B.size
  go_wp2_with fail
  refine (X2.out _).mono ?_
  rintro e w2 ⟨rfl, z⟩
  clear JX0 JX1 JX2 JX3 JXl JY0 JY1 JY2 JY3 JYl JR0 JR1 JR2 JR3 JRl JRf0 JRf1 JRf2 JRf3 JRb0 JRb1 JRb2 JRb3 JRbl JRbf0 JRbf1 JRbf2 JRbf3 lb
  replace JX := JX.below z
  replace JY := JY.below z
  replace JR := JR.below z
  replace JRb := JRb.below z
  replace B := below_next B z
  clear z
  obtain ⟨JXl, JX0, JX1, JX2, JX3⟩ := JX.k
  obtain ⟨JYl, JY0, JY1, JY2, JY3⟩ := JY.k
  obtain ⟨JRl, JR0, JR1, JR2, JR3, JRf0, JRf1, JRf2, JRf3⟩ := id JR
  obtain ⟨JRbl, JRb0, JRb1, JRb2, JRb3, JRbf0, JRbf1, JRbf2, JRbf3⟩ := id JRb
  have lb := B.size
  go_wp2_with fail
  clear JX0 JX1 JX2 JX3 JXl JY0 JY1 JY2 JY3 JYl JR0 JR1 JR2 JR3 JRl JRf0 JRf1 JRf2 JRf3 JRb0 JRb1 JRb2 JRb3 JRbl JRbf0 JRbf1 JRbf2 JRbf3 lb
  have JP : SC (w2.alloc (.cells #[.int .u64 (ub P.1.1), .int .u64 (ub P.1.2), .int .u64 (ub P.2.1), .int .u64 (ub P.2.2)] 28)) w2.heap.size P := SC.new rfl
  have gq2JX : w.heap.size < w2.heap.size := JX.lt
  replace JX := JX.alloc (.cells #[.int .u64 (ub P.1.1), .int .u64 (ub P.1.2), .int .u64 (ub P.2.1), .int .u64 (ub P.2.2)] 28)
  have gq2JY : w.heap.size + 1 < w2.heap.size := JY.lt
  replace JY := JY.alloc (.cells #[.int .u64 (ub P.1.1), .int .u64 (ub P.1.2), .int .u64 (ub P.2.1), .int .u64 (ub P.2.2)] 28)
  have gq2JR : w.heap.size + 1 + 1 < w2.heap.size := JR.lt
  replace JR := JR.alloc (.cells #[.int .u64 (ub P.1.1), .int .u64 (ub P.1.2), .int .u64 (ub P.2.1), .int .u64 (ub P.2.2)] 28)
  have gq2JRb : w.heap.size + 1 + 1 + 1 < w2.heap.size := JRb.lt
  replace JRb := JRb.alloc (.cells #[.int .u64 (ub P.1.1), .int .u64 (ub P.1.2), .int .u64 (ub P.2.1), .int .u64 (ub P.2.2)] 28)
  replace B := bel_alloc (o := (.cells #[.int .u64 (ub P.1.1), .int .u64 (ub P.1.2), .int .u64 (ub P.2.1), .int .u64 (ub P.2.2)] 28)) B
  generalize w2.alloc (.cells #[.int .u64 (ub P.1.1), .int .u64 (ub P.1.2), .int .u64 (ub P.2.1), .int .u64 (ub P.2.2)] 28) = w3 at *
  obtain ⟨JXl, JX0, JX1, JX2, JX3⟩ := JX.k
  obtain ⟨JYl, JY0, JY1, JY2, JY3⟩ := JY.k
  obtain ⟨JRl, JR0, JR1, JR2, JR3, JRf0, JRf1, JRf2, JRf3⟩ := id JR
  obtain ⟨JRbl, JRb0, JRb1, JRb2, JRb3, JRbf0, JRbf1, JRbf2, JRbf3⟩ := id JRb
  obtain ⟨JPl, JP0, JP1, JP2, JP3⟩ := JP.k
  have lb := B.size
  go_wp2_with fail
  clear JX0 JX1 JX2 JX3 JXl JY0 JY1 JY2 JY3 JYl JR0 JR1 JR2 JR3 JRl JRf0 JRf1 JRf2 JRf3 JRb0 JRb1 JRb2 JRb3 JRbl JRbf0 JRbf1 JRbf2 JRbf3 JP0 JP1 JP2 JP3 JPl lb
  obtain ⟨JXdl, JXd0, JXd1, JXd2, JXd3, JXdf0, JXdf1, JXdf2, JXdf3⟩ := id JX
  obtain ⟨JYdl, JYd0, JYd1, JYd2, JYd3, JYdf0, JYdf1, JYdf2, JYdf3⟩ := id JY
  obtain ⟨JRdl, JRd0, JRd1, JRd2, JRd3, JRdf0, JRdf1, JRdf2, JRdf3⟩ := id JR
  obtain ⟨JRbdl, JRbd0, JRbd1, JRbd2, JRbd3, JRbdf0, JRbdf1, JRbdf2, JRbdf3⟩ := id JRb
  obtain ⟨JPdl, JPd0, JPd1, JPd2, JPd3, JPdf0, JPdf1, JPdf2, JPdf3⟩ := id JP
  have ld := B.size
  have hu : undef = Value.tuple #[] := rfl
  apply cutF (F := fun W' => SC W' (w.heap.size) ((v, m), l, h) ∧ SC W' (w.heap.size + 1) ((v', m'), l', h') ∧ SC W' (w.heap.size + 1 + 1) (P) ∧ SC W' (w.heap.size + 1 + 1 + 1) (((v', m'), l', h')) ∧ SC W' (w2.heap.size) P ∧ Below w.heap.size w W')
  · first | (go_region_law (fail)) | fail
    all_goals exact ⟨⟨(((JX.other (c := w.heap.size + 1 + 1) (by omega) (P)).other (c := w.heap.size + 1 + 1 + 1) (by omega) (((v', m'), l', h'))).below (below_dr _)), (((JY.other (c := w.heap.size + 1 + 1) (by omega) (P)).other (c := w.heap.size + 1 + 1 + 1) (by omega) (((v', m'), l', h'))).below (below_dr _)), (((JR.put (P)).other (c := w.heap.size + 1 + 1 + 1) (by omega) (((v', m'), l', h'))).below (below_dr _)), (((JRb.other (c := w.heap.size + 1 + 1) (by omega) (P)).put (((v', m'), l', h'))).below (below_dr _)), (((JP.other (c := w.heap.size + 1 + 1) (by omega) (P)).other (c := w.heap.size + 1 + 1 + 1) (by omega) (((v', m'), l', h'))).below (below_dr _)), below_next (putS_below (((v', m'), l', h')) (putS_below (P) B (by omega : w.heap.size ≤ w.heap.size + 1 + 1)) (by omega : w.heap.size ≤ w.heap.size + 1 + 1 + 1)) (below_dr _)⟩, rfl⟩
  clear JXd0 JXd1 JXd2 JXd3 JXdl JXdf0 JXdf1 JXdf2 JXdf3 JYd0 JYd1 JYd2 JYd3 JYdl JYdf0 JYdf1 JYdf2 JYdf3 JRd0 JRd1 JRd2 JRd3 JRdl JRdf0 JRdf1 JRdf2 JRdf3 JRbd0 JRbd1 JRbd2 JRbd3 JRbdl JRbdf0 JRbdf1 JRbdf2 JRbdf3 JPd0 JPd1 JPd2 JPd3 JPdl JPdf0 JPdf1 JPdf2 JPdf3 ld hu
  clear JX JY JR JRb JP B
  intro w4 ⟨JX, JY, JR, JRb, JP, B⟩
  obtain ⟨JXl, JX0, JX1, JX2, JX3⟩ := JX.k
  obtain ⟨JYl, JY0, JY1, JY2, JY3⟩ := JY.k
  obtain ⟨JRl, JR0, JR1, JR2, JR3, JRf0, JRf1, JRf2, JRf3⟩ := id JR
  obtain ⟨JRbl, JRb0, JRb1, JRb2, JRb3, JRbf0, JRbf1, JRbf2, JRbf3⟩ := id JRb
  obtain ⟨JPl, JP0, JP1, JP2, JP3⟩ := JP.k
  have lb := B.size
  go_wp2
  exact bodyPost_ret (v := .tuple #[sv P, sv ((v', m'), l', h'), .bool o]) (by simp [results, Tryz.results93, go_sem, JX0, JX1, JX2, JX3, JXl, JY0, JY1, JY2, JY3, JYl, JR0, JR1, JR2, JR3, JRl, JRb0, JRb1, JRb2, JRb3, JRbl, JP0, JP1, JP2, JP3, JPl]; try first | rfl | exact ⟨rfl, rfl⟩) rfl ⟨rfl, B⟩
theorem cCommon_any (a b : Sc) (k : Bool) (w : World) : Calls Tryz.prog 93 #[sv a, sv b, .bool k] w fun e w' => e = .returned (triv (comT a b k).1 (comT a b k).2.1 (comT a b k).2.2) ∧ Below w.heap.size w w' := by
  unfold comT
  cases k
  · rw [if_neg (by decide)]
    cases hv : ((a.1.1 &&& b.1.1) == 0#64)
    · rw [if_pos (by decide)]
      exact cCommon_both a b hv w
    · rw [if_neg (by decide)]
      cases hs : singleX b
      · rw [if_neg (by decide)]
        exact cCommon_many a b hv hs w
      · rw [if_pos rfl]
        exact cCommon_one a b hv hs w
  · exact cCommon_yes a b w
end Go.Proofs.YtodmikjpmcabiaaGreat
