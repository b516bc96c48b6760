import Derived.Test.YtodmikjpmcabiaaGreatZScA
namespace Go.Proofs.YtodmikjpmcabiaaGreat
set_option linter.unusedSimpArgs false
set_option linter.unusedVariables false
set_option maxRecDepth 100000
open Go.ChangeShapes Go.WideShapes Go.ChangeAt Go.RowKit

def cB (w : World) (b o : Nat) : B64 := match w.cell? ⟨b, o, none⟩ with
  | some (.int _ n) => BitVec.ofNat 64 n.toNat
  | _ => 0#64
def muW (w : World) (b : Nat) : Nat := mu ((cB w b 0, cB w b 1), (cB w b 2, cB w b 3))
theorem of_ub (x : B64) : BitVec.ofNat 64 (ub x).toNat = x := by rw [ub_nat]; simp
theorem muW_is {w : World} {b : Nat} {x : Sc} (h : SC w b x) : muW w b = mu x := by
  unfold muW cB
  rw [h.c0, h.c1, h.c2, h.c3]
  dsimp only
  rw [of_ub, of_ub, of_ub, of_ub]
structure SeI (w : World) (y : Sc) (wr : World) : Prop where
  res : SC wr (w.heap.size + 1 + 1) sc0
  was : SC wr (w.heap.size + 1 + 1 + 1) y
  bel : Below w.heap.size w wr
theorem SeI.start (w : World) (t s : Tn) (t1 t2 t3 t4 : TypeId) : SeI w (t, s) ((((w.alloc (.cells #[.int .u64 (ub t.1), .int .u64 (ub t.2)] t1)).alloc (.cells #[.int .u64 (ub s.1), .int .u64 (ub s.2)] t2)).alloc (.cells #[.int .u64 0, .int .u64 0, .int .u64 0, .int .u64 0] t3)).alloc (.cells #[.int .u64 (ub t.1), .int .u64 (ub t.2), .int .u64 (ub s.1), .int .u64 (ub s.2)] t4)) :=
  ⟨(SC.new (x := sc0) (by simp)).alloc _, SC.new (x := (t, s)) (by simp), bel_alloc (bel_alloc (bel_alloc (bel_alloc (Below.refl _ _))))⟩
theorem SeI.next {w : World} {y : Sc} {wr w' : World} (h : SeI w y wr) (hb : Below wr.heap.size wr w') : SeI w y w' :=
  ⟨h.res.below hb, h.was.below hb, h.bel.trans (hb.mono h.bel.size)⟩
theorem SeI.put {w : World} {y : Sc} {wr : World} (h : SeI w y wr) (u : Sc) : SeI w u (putS wr (w.heap.size + 1 + 1 + 1) u) :=
  ⟨h.res.other (by omega) u, h.was.put u, putS_below u h.bel (by omega)⟩
def optS (o : Option Sc) : Sc := o.getD sc0
set_option maxHeartbeats 4000000 in
theorem cSettle_any (t s : Tn) (w : World) : Calls Tryz.prog 10 #[tv t, tv s] w fun e w' => e = .returned (.tuple #[sv (optS (settle (t, s))), .bool (settle (t, s)).isSome]) ∧ Below w.heap.size w w' := by
  have XS := hid fun (y : Sc) (W : World) => cSharp_any y W
  have EQ := hid fun (x y : Sc) (W : World) => eq_sc x y W
  have I0 := SeI.start w t s 24 26 28 28
  obtain ⟨Z, HZ⟩ : ∃ Z, Z = settle (t, s) := ⟨_, rfl⟩
  rw [← HZ]
  have HI0 : Hid (SeI w (t, s) _ ∧ settle (t, s) = Z) := hid ⟨I0, HZ.symm⟩
  clear I0 HZ
  generalize hx0 : ((t, s) : Sc) = x0 at HI0
  clear hx0
  unfold tv
  go_enter Tryz.func10, Tryz.ntmps10
  go_wp2_with fail
  go_loopw [8] (fun v wr => ∃ y : Sc, Hid (SeI w y wr ∧ settle y = Z) ∧ v = v) (fun _ wr => muW wr (w.heap.size + 1 + 1 + 1))
  case atStart => exact ⟨x0, HI0, rfl⟩
  case round =>
    obtain ⟨y, HI, _⟩ := hrel
    obtain ⟨wo, rfl⟩ : ∃ wo : World, wo = wr := ⟨_, rfl⟩
    have hs := settle_step y
    rw [HI.out.2] at hs
    have hm := muW_is HI.out.1.was
    have X := fun W => cSharp_any y W
    clear XS HI0
    cases ho : scOk y
    · rw [ho, if_neg (by decide)] at hs X
      subst hs
      unfold sv at X
      replace X := hid X
      have qc0 := HI.out.1.was.c0
      have qc1 := HI.out.1.was.c1
      have qc2 := HI.out.1.was.c2
      have qc3 := HI.out.1.was.c3
      have qlt := HI.out.1.was.lt
      have qf0 := HI.out.1.was.f0
      have qf1 := HI.out.1.was.f1
      have qf2 := HI.out.1.was.f2
      have qf3 := HI.out.1.was.f3
      have rc0 := HI.out.1.res.c0
      have rc1 := HI.out.1.res.c1
      have rc2 := HI.out.1.res.c2
      have rc3 := HI.out.1.res.c3
      have rlt := HI.out.1.res.lt
      have rf0 := HI.out.1.res.f0
      have rf1 := HI.out.1.res.f1
      have rf2 := HI.out.1.res.f2
      have rf3 := HI.out.1.res.f3
      go_wp2_with fail
      refine (X.out _).mono ?_
      rintro e w1 ⟨rfl, z⟩
      clear qc0 qc1 qc2 qc3 qlt qf0 qf1 qf2 qf3 rc0 rc1 rc2 rc3 rlt rf0 rf1 rf2 rf3
      have I1 := HI.out.1.next z
      clear z
      have qc0 := I1.was.c0
      have qc1 := I1.was.c1
      have qc2 := I1.was.c2
      have qc3 := I1.was.c3
      have qlt := I1.was.lt
      have qf0 := I1.was.f0
      have qf1 := I1.was.f1
      have qf2 := I1.was.f2
      have qf3 := I1.was.f3
      have rc0 := I1.res.c0
      have rc1 := I1.res.c1
      have rc2 := I1.res.c2
      have rc3 := I1.res.c3
      have rlt := I1.res.lt
      have rf0 := I1.res.f0
      have rf1 := I1.res.f1
      have rf2 := I1.res.f2
      have rf3 := I1.res.f3
      go_wp2
      exact bodyPost_ret (v := .tuple #[sv sc0, .bool false]) (by simp [results, Tryz.results10, go_sem, rc0, rc1, rc2, rc3, rlt]; try rfl) rfl ⟨rfl, bel_alloc (putS_below sc0 I1.bel (by omega))⟩
    · rw [ho, if_pos rfl] at hs X
      have hlt := fun h => mu_lt ho (x := y) h
      generalize scN y = r at hs X hlt
      have E := fun W => eq_sc r y W
      unfold sv at X E
      cases hq : (r == y)
      · rw [hq] at E
        have hne : ¬ r = y := by intro h; rw [h, beq_self_eq_true] at hq; cases hq
        rw [if_neg hne] at hs
        replace X := hid X
        have qc0 := HI.out.1.was.c0
        have qc1 := HI.out.1.was.c1
        have qc2 := HI.out.1.was.c2
        have qc3 := HI.out.1.was.c3
        have qlt := HI.out.1.was.lt
        have qf0 := HI.out.1.was.f0
        have qf1 := HI.out.1.was.f1
        have qf2 := HI.out.1.was.f2
        have qf3 := HI.out.1.was.f3
        have rc0 := HI.out.1.res.c0
        have rc1 := HI.out.1.res.c1
        have rc2 := HI.out.1.res.c2
        have rc3 := HI.out.1.res.c3
        have rlt := HI.out.1.res.lt
        have rf0 := HI.out.1.res.f0
        have rf1 := HI.out.1.res.f1
        have rf2 := HI.out.1.res.f2
        have rf3 := HI.out.1.res.f3
        go_wp2_with fail
        refine (X.out _).mono ?_
        rintro e w1 ⟨rfl, z⟩
        clear qc0 qc1 qc2 qc3 qlt qf0 qf1 qf2 qf3 rc0 rc1 rc2 rc3 rlt rf0 rf1 rf2 rf3
        have I1 := HI.out.1.next z
        clear z
        have qc0 := I1.was.c0
        have qc1 := I1.was.c1
        have qc2 := I1.was.c2
        have qc3 := I1.was.c3
        have qlt := I1.was.lt
        have qf0 := I1.was.f0
        have qf1 := I1.was.f1
        have qf2 := I1.was.f2
        have qf3 := I1.was.f3
        have rc0 := I1.res.c0
        have rc1 := I1.res.c1
        have rc2 := I1.res.c2
        have rc3 := I1.res.c3
        have rlt := I1.res.lt
        have rf0 := I1.res.f0
        have rf1 := I1.res.f1
        have rf2 := I1.res.f2
        have rf3 := I1.res.f3
        go_wp2
        go_roundw
        case rel => exact ⟨r, hid ⟨(I1.put r).next ((Below.refl _ _).alloc (Nat.le_refl _) _), hs.symm⟩, trivial⟩
        case measure =>
          have := muW_is ((I1.put r).next ((Below.refl _ _).alloc (Nat.le_refl _) (.cells #[.int .u64 (ub r.1.1), .int .u64 (ub r.1.2), .int .u64 (ub r.2.1), .int .u64 (ub r.2.2)] 28))).was
          unfold putS at this
          rw [hm, this]
          exact hlt hne
      · rw [hq] at E
        have he : r = y := by rw [beq_iff_eq] at hq; exact hq
        subst he
        rw [if_pos rfl] at hs
        subst hs
        replace X := hid X
        have qc0 := HI.out.1.was.c0
        have qc1 := HI.out.1.was.c1
        have qc2 := HI.out.1.was.c2
        have qc3 := HI.out.1.was.c3
        have qlt := HI.out.1.was.lt
        have qf0 := HI.out.1.was.f0
        have qf1 := HI.out.1.was.f1
        have qf2 := HI.out.1.was.f2
        have qf3 := HI.out.1.was.f3
        have rc0 := HI.out.1.res.c0
        have rc1 := HI.out.1.res.c1
        have rc2 := HI.out.1.res.c2
        have rc3 := HI.out.1.res.c3
        have rlt := HI.out.1.res.lt
        have rf0 := HI.out.1.res.f0
        have rf1 := HI.out.1.res.f1
        have rf2 := HI.out.1.res.f2
        have rf3 := HI.out.1.res.f3
        go_wp2_with fail
        refine (X.out _).mono ?_
        rintro e w1 ⟨rfl, z⟩
        clear qc0 qc1 qc2 qc3 qlt qf0 qf1 qf2 qf3 rc0 rc1 rc2 rc3 rlt rf0 rf1 rf2 rf3
        have I1 := HI.out.1.next z
        clear z
        have qc0 := I1.was.c0
        have qc1 := I1.was.c1
        have qc2 := I1.was.c2
        have qc3 := I1.was.c3
        have qlt := I1.was.lt
        have qf0 := I1.was.f0
        have qf1 := I1.was.f1
        have qf2 := I1.was.f2
        have qf3 := I1.was.f3
        have rc0 := I1.res.c0
        have rc1 := I1.res.c1
        have rc2 := I1.res.c2
        have rc3 := I1.res.c3
        have rlt := I1.res.lt
        have rf0 := I1.res.f0
        have rf1 := I1.res.f1
        have rf2 := I1.res.f2
        have rf3 := I1.res.f3
        go_wp2
        exact bodyPost_ret (v := .tuple #[sv r, .bool true]) (by simp [results, Tryz.results10, go_sem, rc0, rc1, rc2, rc3, rlt]; try rfl) rfl ⟨rfl, bel_alloc (putS_below r I1.bel (by omega))⟩
end Go.Proofs.YtodmikjpmcabiaaGreat
