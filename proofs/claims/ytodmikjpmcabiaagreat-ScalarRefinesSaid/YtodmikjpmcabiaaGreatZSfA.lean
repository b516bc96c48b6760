import Derived.Test.YtodmikjpmcabiaaGreatZSeA
import Derived.Test.YtodmikjpmcabiaaGreatZScO
import Derived.Deep.RegionHeld3
namespace Go.Proofs.YtodmikjpmcabiaaGreat
set_option linter.unusedSimpArgs false
set_option linter.unusedVariables false
set_option maxRecDepth 100000
set_option maxRecDepth 100000
open Go.ChangeShapes Go.WideShapes Go.ChangeAt Go.RowKit

def oppF : List Int := [1, 5, 2, 11, 3, 10, 6, 13, 7, 12, 4]
def oppTo : List Int := [5, 1, 11, 2, 10, 3, 13, 6, 12, 7, 100]
def oppR (op : Int) : Int := if op = 1 then 5 else if op = 5 then 1 else if op = 2 then 11 else if op = 11 then 2 else if op = 3 then 10 else if op = 10 then 3 else if op = 6 then 13 else if op = 13 then 6 else if op = 7 then 12 else if op = 12 then 7 else if op = 4 then 100 else op
theorem opp_at : ∀ k : Fin 11, oppR (oppF.getD k.val 0) = oppTo.getD k.val 0 := by decide
theorem opp_none {op : Int} (h : ∀ k, k < 11 → oppF.getD k 0 ≠ op) : oppR op = op := by
  have h0 := h 0 (by omega)
  have h1 := h 1 (by omega)
  have h2 := h 2 (by omega)
  have h3 := h 3 (by omega)
  have h4 := h 4 (by omega)
  have h5 := h 5 (by omega)
  have h6 := h 6 (by omega)
  have h7 := h 7 (by omega)
  have h8 := h 8 (by omega)
  have h9 := h 9 (by omega)
  have h10 := h 10 (by omega)
  simp [oppF] at h0 h1 h2 h3 h4 h5 h6 h7 h8 h9 h10
  unfold oppR
  simp [Ne.symm h0, Ne.symm h1, Ne.symm h2, Ne.symm h3, Ne.symm h4, Ne.symm h5, Ne.symm h6, Ne.symm h7, Ne.symm h8, Ne.symm h9, Ne.symm h10]
theorem arr_at {w : World} {t : TypeId} (L : List Int) (b k : Nat) (hb : b = w.heap.size) (hk : k < L.length) : (w.alloc (.cells (L.map (Value.int .i64)).toArray t)).cell? ⟨b, k, none⟩ = some (.int .i64 (L.getD k 0)) := by
  subst hb
  rw [World.cell?_alloc_at _ _ _ _ rfl]
  simp [List.getD_eq_getElem?_getD, List.getElem?_eq_getElem hk]
set_option maxHeartbeats 4000000 in
theorem rOpp_any (op : Int) (w : World) : Calls Tryz.prog 64 #[.int .i64 op] w fun e w' => e = .returned (.int .i64 (oppR op)) ∧ Below w.heap.size w w' := by
  have A0 : ∀ k, k < 11 → ((w.alloc (.cells #[.int .i64 1, .int .i64 5, .int .i64 2, .int .i64 11, .int .i64 3, .int .i64 10, .int .i64 6, .int .i64 13, .int .i64 7, .int .i64 12, .int .i64 4] 118)).alloc (.cells #[.int .i64 5, .int .i64 1, .int .i64 11, .int .i64 2, .int .i64 10, .int .i64 3, .int .i64 13, .int .i64 6, .int .i64 12, .int .i64 7, .int .i64 100] 118)).cell? ⟨w.heap.size, k, none⟩ = some (.int .i64 (oppF.getD k 0)) := fun k hk => cn ((Below.refl _ _).alloc (Nat.le_refl _) _) (arr_at oppF w.heap.size k rfl hk)
  have B0 : ∀ k, k < 11 → ((w.alloc (.cells #[.int .i64 1, .int .i64 5, .int .i64 2, .int .i64 11, .int .i64 3, .int .i64 10, .int .i64 6, .int .i64 13, .int .i64 7, .int .i64 12, .int .i64 4] 118)).alloc (.cells #[.int .i64 5, .int .i64 1, .int .i64 11, .int .i64 2, .int .i64 10, .int .i64 3, .int .i64 13, .int .i64 6, .int .i64 12, .int .i64 7, .int .i64 100] 118)).cell? ⟨w.heap.size + 1, k, none⟩ = some (.int .i64 (oppTo.getD k 0)) := fun k hk => arr_at oppTo (w.heap.size + 1) k (by simp) hk
  have HA := hid A0
  have HB := hid B0
  clear A0 B0
  go_enter Tryz.func64, Tryz.ntmps64
  go_wp2_with fail
  have HW := hid (show Below w.heap.size w ((w.alloc (.cells #[.int .i64 1, .int .i64 5, .int .i64 2, .int .i64 11, .int .i64 3, .int .i64 10, .int .i64 6, .int .i64 13, .int .i64 7, .int .i64 12, .int .i64 4] 118)).alloc (.cells #[.int .i64 5, .int .i64 1, .int .i64 11, .int .i64 2, .int .i64 10, .int .i64 3, .int .i64 13, .int .i64 6, .int .i64 12, .int .i64 7, .int .i64 100] 118)) from bel_alloc (bel_alloc (Below.refl _ _)))
  generalize ((w.alloc (.cells #[.int .i64 1, .int .i64 5, .int .i64 2, .int .i64 11, .int .i64 3, .int .i64 10, .int .i64 6, .int .i64 13, .int .i64 7, .int .i64 12, .int .i64 4] 118)).alloc (.cells #[.int .i64 5, .int .i64 1, .int .i64 11, .int .i64 2, .int .i64 10, .int .i64 3, .int .i64 13, .int .i64 6, .int .i64 12, .int .i64 7, .int .i64 100] 118)) = w1 at *
  go_loopw [5] (fun i wr => ∃ k : Nat, k ≤ 11 ∧ i = .int .i64 k ∧ Hid (∀ j, j < k → oppF.getD j 0 ≠ op) ∧ Hid (wr = w1)) (fun i _ => 11 - (intOf i).toNat)
  case atStart => exact ⟨0, by omega, rfl, hid (fun j hj => by omega), hid rfl⟩
  case round =>
    obtain ⟨k, hk, rfl, HN, HI⟩ := hrel
    by_cases hlt : k < 11
    · have hlt' : (k : Int) < 11 := by omega
      have hk0 : (0 : Int) ≤ k := by omega
      have x1 := (show wr.cell? ⟨w.heap.size, k, none⟩ = some (.int .i64 (oppF.getD k 0)) by rw [HI.out]; exact HA.out k hlt)
      have x2 := (show wr.cell? ⟨w.heap.size + 1, k, none⟩ = some (.int .i64 (oppTo.getD k 0)) by rw [HI.out]; exact HB.out k hlt)
      have hat := opp_at ⟨k, hlt⟩
      dsimp only at hat
      generalize hU : oppF.getD k 0 = U at *
      generalize oppTo.getD k 0 = V at *
      by_cases e : U = op
      · have e1 : (U == op) = true := by simpa using e
        have hR : Hid (oppR op = V) := hid (by rw [← e]; exact hat)
        clear hat hU e
        go_wp2
        go_ret
        exact ⟨by rw [hR.out]; rfl, by rw [HI.out]; exact HW.out⟩
      · have e1 : (U == op) = false := by simpa using e
        have HN2 : Hid (∀ j, j < k + 1 → oppF.getD j 0 ≠ op) := hid (fun j hj => (Nat.lt_succ_iff_lt_or_eq.1 hj).elim (fun q => HN.out j q) (fun q => by rw [q, hU]; exact e))
        clear hat hU e HN
        go_wp2
        go_roundw
        case rel => first | exact ⟨k + 1, by omega, by go_num, HN2, HI⟩ | ((repeat apply Exists.intro); exact ⟨⟨k + 1, by omega, by go_num, HN2, HI⟩, rfl⟩)
        case measure => simp [intOf]; omega
    · have hk11 : k = 11 := by omega
      subst hk11
      have hR : Hid (oppR op = op) := hid (opp_none HN.out)
      clear HN
      go_wp2
      go_ret
      exact ⟨by rw [hR.out]; rfl, by rw [HI.out]; exact HW.out⟩
theorem rPlain_any (op : Int) (w : World) : Calls Tryz.prog 65 #[.int .i64 op] w fun e w' => e = .returned (.int .i64 (unsI op)) ∧ w' = w := by
  by_cases h6 : op = 6
  · subst h6
    rw [show unsI 6 = 2 by decide]
    go_enter Tryz.func65, Tryz.ntmps65
    go_wp2
    go_ret
    exact ⟨rfl, rfl⟩
  by_cases h7 : op = 7
  · subst h7
    rw [show unsI 7 = 3 by decide]
    go_enter Tryz.func65, Tryz.ntmps65
    go_wp2
    go_ret
    exact ⟨rfl, rfl⟩
  by_cases h12 : op = 12
  · subst h12
    rw [show unsI 12 = 10 by decide]
    go_enter Tryz.func65, Tryz.ntmps65
    go_wp2
    go_ret
    exact ⟨rfl, rfl⟩
  by_cases h13 : op = 13
  · subst h13
    rw [show unsI 13 = 11 by decide]
    go_enter Tryz.func65, Tryz.ntmps65
    go_wp2
    go_ret
    exact ⟨rfl, rfl⟩
  rw [show unsI op = op by unfold unsI; rw [if_neg h6, if_neg h7, if_neg h12, if_neg h13]]
  have e6 : (op == 6) = false := by simpa using h6
  have e7 : (op == 7) = false := by simpa using h7
  have e12 : (op == 12) = false := by simpa using h12
  have e13 : (op == 13) = false := by simpa using h13
  clear h6 h7 h12 h13
  go_enter Tryz.func65, Tryz.ntmps65
  go_wp2
  go_ret
  exact ⟨rfl, rfl⟩
set_option maxHeartbeats 4000000 in
theorem rSingle_any (a : Sc) (w : World) : Calls Tryz.prog 66 #[sv a] w fun e w' => e = .returned (.bool (singleX a)) ∧ Below w.heap.size w w' := by
  obtain ⟨⟨v, m⟩, l, h⟩ := a
  unfold sv singleX
  dsimp only
  go_enter Tryz.func66, Tryz.ntmps66
  go_wp2
  go_ret
  exact ⟨rfl, bel_alloc (Below.refl _ _)⟩
def witO (a : Sc) (lo hi : B64) : Option Sc := settle (a.1, meetP a.2 (lo, hi))
set_option maxHeartbeats 8000000 in
theorem rWithin_any (a : Sc) (lo hi : B64) (w : World) : Calls Tryz.prog 68 #[sv a, .int .u64 (ub lo), .int .u64 (ub hi)] w fun e w' => e = .returned (.tuple #[sv (optS (witO a lo hi)), .bool (witO a lo hi).isSome]) ∧ Below w.heap.size w w' := by
  have X1 := fun W => qMeet_any a.2 (lo, hi) W
  have X2 := fun W => rSettle_any a.1 (meetP a.2 (lo, hi)) W
  unfold meetS at X1
  unfold witO
  cases h1 : mayS (meetP a.2 (lo, hi))
  · rw [settle_bad (by rw [h1, Bool.and_false])]
    rw [h1] at X1
    generalize (if false = true then meetP a.2 (lo, hi) else t0) = T at *
    clear X2 h1
    obtain ⟨⟨v, m⟩, l, h⟩ := a
    unfold sv
    unfold tv at X1
    dsimp only at X1 ⊢
    replace X1 := hid X1
    go_enter Tryz.func68, Tryz.ntmps68
    go_wp2_with fail
    have JX : SC ((w.alloc (.cells #[.int .u64 (ub v), .int .u64 (ub m), .int .u64 (ub l), .int .u64 (ub h)] 28)).alloc (.cells #[.int .u64 0, .int .u64 0, .int .u64 0, .int .u64 0] 28)) (w.heap.size) ((v, m), l, h) := ((SC.new (x := ((v, m), l, h)) rfl).alloc _)
    have JR : SC ((w.alloc (.cells #[.int .u64 (ub v), .int .u64 (ub m), .int .u64 (ub l), .int .u64 (ub h)] 28)).alloc (.cells #[.int .u64 0, .int .u64 0, .int .u64 0, .int .u64 0] 28)) (w.heap.size + 1) sc0 := (SC.new (x := sc0) (by simp))
    have B : Below w.heap.size w ((w.alloc (.cells #[.int .u64 (ub v), .int .u64 (ub m), .int .u64 (ub l), .int .u64 (ub h)] 28)).alloc (.cells #[.int .u64 0, .int .u64 0, .int .u64 0, .int .u64 0] 28)) := (bel_alloc (bel_alloc (Below.refl _ _)))
    generalize ((w.alloc (.cells #[.int .u64 (ub v), .int .u64 (ub m), .int .u64 (ub l), .int .u64 (ub h)] 28)).alloc (.cells #[.int .u64 0, .int .u64 0, .int .u64 0, .int .u64 0] 28)) = w00 at *
    obtain ⟨JXl, JX0, JX1, JX2, JX3⟩ := JX.k
    obtain ⟨JRl, JR0, JR1, JR2, JR3, JRf0, JRf1, JRf2, JRf3⟩ := id JR
    have lb := B.size
    go_wp2_with fail
    refine (X1.out _).mono ?_
    rintro e w1 ⟨rfl, z⟩
    clear JX0 JX1 JX2 JX3 JXl JR0 JR1 JR2 JR3 JRl JRf0 JRf1 JRf2 JRf3 lb
    replace JX := JX.below z
    replace JR := JR.below z
    replace B := below_next B z
    clear z
    obtain ⟨JXl, JX0, JX1, JX2, JX3⟩ := JX.k
    obtain ⟨JRl, JR0, JR1, JR2, JR3, JRf0, JRf1, JRf2, JRf3⟩ := id JR
    have lb := B.size
    go_wp2
    exact bodyPost_ret (v := .tuple #[sv sc0, .bool false]) (by simp [results, Tryz.results68, go_sem, JX0, JX1, JX2, JX3, JXl, JR0, JR1, JR2, JR3, JRl]; try first | rfl | exact ⟨rfl, rfl⟩) rfl ⟨rfl, bel_alloc (putS_below sc0 B (by omega))⟩
  rw [h1, if_pos rfl] at X1
  clear h1
  generalize (settle (a.1, meetP a.2 (lo, hi))).isSome = K at *
  generalize optS (settle (a.1, meetP a.2 (lo, hi))) = Z at *
  generalize meetP a.2 (lo, hi) = T at *
  obtain ⟨⟨v, m⟩, l, h⟩ := a
  unfold sv at X2 ⊢
  unfold tv at X1 X2
  dsimp only at X1 X2 ⊢
  replace X1 := hid X1
  replace X2 := hid X2
  go_enter Tryz.func68, Tryz.ntmps68
  go_wp2_with fail
  have JX : SC ((w.alloc (.cells #[.int .u64 (ub v), .int .u64 (ub m), .int .u64 (ub l), .int .u64 (ub h)] 28)).alloc (.cells #[.int .u64 0, .int .u64 0, .int .u64 0, .int .u64 0] 28)) (w.heap.size) ((v, m), l, h) := ((SC.new (x := ((v, m), l, h)) rfl).alloc _)
  have JR : SC ((w.alloc (.cells #[.int .u64 (ub v), .int .u64 (ub m), .int .u64 (ub l), .int .u64 (ub h)] 28)).alloc (.cells #[.int .u64 0, .int .u64 0, .int .u64 0, .int .u64 0] 28)) (w.heap.size + 1) sc0 := (SC.new (x := sc0) (by simp))
  have B : Below w.heap.size w ((w.alloc (.cells #[.int .u64 (ub v), .int .u64 (ub m), .int .u64 (ub l), .int .u64 (ub h)] 28)).alloc (.cells #[.int .u64 0, .int .u64 0, .int .u64 0, .int .u64 0] 28)) := (bel_alloc (bel_alloc (Below.refl _ _)))
  generalize ((w.alloc (.cells #[.int .u64 (ub v), .int .u64 (ub m), .int .u64 (ub l), .int .u64 (ub h)] 28)).alloc (.cells #[.int .u64 0, .int .u64 0, .int .u64 0, .int .u64 0] 28)) = w00 at *
  obtain ⟨JXl, JX0, JX1, JX2, JX3⟩ := JX.k
  obtain ⟨JRl, JR0, JR1, JR2, JR3, JRf0, JRf1, JRf2, JRf3⟩ := id JR
  have lb := B.size
  go_wp2_with fail
  refine (X1.out _).mono ?_
  rintro e w1 ⟨rfl, z⟩
  clear JX0 JX1 JX2 JX3 JXl JR0 JR1 JR2 JR3 JRl JRf0 JRf1 JRf2 JRf3 lb
  replace JX := JX.below z
  replace JR := JR.below z
  replace B := below_next B z
  clear z
  obtain ⟨JXl, JX0, JX1, JX2, JX3⟩ := JX.k
  obtain ⟨JRl, JR0, JR1, JR2, JR3, JRf0, JRf1, JRf2, JRf3⟩ := id JR
  have lb := B.size
  go_wp2_with fail
  refine (X2.out _).mono ?_
  rintro e w2 ⟨rfl, z⟩
  clear JX0 JX1 JX2 JX3 JXl JR0 JR1 JR2 JR3 JRl JRf0 JRf1 JRf2 JRf3 lb
  have g2JX : w.heap.size < w1.heap.size := JX.lt
  have g2JR : w.heap.size + 1 < w1.heap.size := JR.lt
  have g2B := B.size
  replace JX := (JX.alloc _).below z
  replace JR := (JR.alloc _).below z
  have JT : BC w2 (w1.heap.size) (T) := (BC.new rfl).below z
  replace B := below_next (bel_alloc B) z
  clear z
  obtain ⟨JXl, JX0, JX1, JX2, JX3⟩ := JX.k
  obtain ⟨JRl, JR0, JR1, JR2, JR3, JRf0, JRf1, JRf2, JRf3⟩ := id JR
  have JT0 := JT.c0
  have JT1 := JT.c1
  have JTl := JT.lt
  have lb := B.size
  go_wp2
  exact bodyPost_ret (v := .tuple #[sv Z, .bool K]) (by simp [results, Tryz.results68, go_sem, JX0, JX1, JX2, JX3, JXl, JR0, JR1, JR2, JR3, JRl, JT0, JT1, JTl]; try first | rfl | exact ⟨rfl, rfl⟩) rfl ⟨rfl, putS_below Z B (by omega)⟩
def wouO (a : Sc) (n : B64) : Option Sc := if a.2.1 = n ∧ a.2.2 = n then none else if a.2.1 = n then witO a (n + 1#64) a.2.2 else if a.2.2 = n then witO a a.2.1 (n - 1#64) else some a
set_option maxHeartbeats 8000000 in
theorem rWithout_any (a : Sc) (n : B64) (w : World) : Calls Tryz.prog 67 #[sv a, .int .u64 (ub n)] w fun e w' => e = .returned (.tuple #[sv (optS (wouO a n)), .bool (wouO a n).isSome]) ∧ Below w.heap.size w w' := by
  have X1 := fun W => rWithin_any a (n + 1#64) a.2.2 W
  have X2 := fun W => rWithin_any a a.2.1 (n - 1#64) W
  unfold wouO
  by_cases e1 : a.2.1 = n
  · by_cases e2 : a.2.2 = n
    · rw [if_pos ⟨e1, e2⟩]
      clear X1 X2
      obtain ⟨⟨v, m⟩, l, h⟩ := a
      dsimp only at e1 e2 ⊢
      have f1 : (ub l == ub n) = true := by rw [e1]; simp
      have f2 : (ub h == ub n) = true := by rw [e2]; simp
      have g1 : (l == n) = true := by simpa using e1
      have g2 : (h == n) = true := by simpa using e2
      clear e1 e2
      unfold sv
      go_enter Tryz.func67, Tryz.ntmps67
      go_wp2_with fail
      have JX : SC ((w.alloc (.cells #[.int .u64 (ub v), .int .u64 (ub m), .int .u64 (ub l), .int .u64 (ub h)] 28)).alloc (.cells #[.int .u64 0, .int .u64 0, .int .u64 0, .int .u64 0] 28)) (w.heap.size) ((v, m), l, h) := ((SC.new (x := ((v, m), l, h)) rfl).alloc _)
      have JR : SC ((w.alloc (.cells #[.int .u64 (ub v), .int .u64 (ub m), .int .u64 (ub l), .int .u64 (ub h)] 28)).alloc (.cells #[.int .u64 0, .int .u64 0, .int .u64 0, .int .u64 0] 28)) (w.heap.size + 1) sc0 := (SC.new (x := sc0) (by simp))
      have B : Below w.heap.size w ((w.alloc (.cells #[.int .u64 (ub v), .int .u64 (ub m), .int .u64 (ub l), .int .u64 (ub h)] 28)).alloc (.cells #[.int .u64 0, .int .u64 0, .int .u64 0, .int .u64 0] 28)) := (bel_alloc (bel_alloc (Below.refl _ _)))
      generalize ((w.alloc (.cells #[.int .u64 (ub v), .int .u64 (ub m), .int .u64 (ub l), .int .u64 (ub h)] 28)).alloc (.cells #[.int .u64 0, .int .u64 0, .int .u64 0, .int .u64 0] 28)) = w00 at *
      obtain ⟨JXl, JX0, JX1, JX2, JX3⟩ := JX.k
      obtain ⟨JRl, JR0, JR1, JR2, JR3, JRf0, JRf1, JRf2, JRf3⟩ := id JR
      have lb := B.size
      go_wp2
      exact bodyPost_ret (v := .tuple #[sv sc0, .bool false]) (by simp [results, Tryz.results67, go_sem, JX0, JX1, JX2, JX3, JXl, JR0, JR1, JR2, JR3, JRl]; try first | rfl | exact ⟨rfl, rfl⟩) rfl ⟨rfl, by first | exact B | exact bel_alloc (bel_alloc (Below.refl _ _))⟩
    · rw [if_neg (fun q => e2 q.2), if_pos e1]
      clear X2
      generalize (witO a (n + 1#64) a.2.2).isSome = K at *
      generalize optS (witO a (n + 1#64) a.2.2) = Z at *
      obtain ⟨⟨v, m⟩, l, h⟩ := a
      dsimp only at e1 e2 X1 ⊢
      have f1 : (ub l == ub n) = true := by rw [e1]; simp
      have f2 : (ub h == ub n) = false := by simpa [ub_inj] using e2
      have g1 : (l == n) = true := by simpa using e1
      have g2 : (h == n) = false := by simpa using e2
      clear e1 e2
      unfold sv at X1 ⊢
      dsimp only at X1 ⊢
      replace X1 := hid X1
      go_enter Tryz.func67, Tryz.ntmps67
      go_wp2_with fail
      have JX : SC ((w.alloc (.cells #[.int .u64 (ub v), .int .u64 (ub m), .int .u64 (ub l), .int .u64 (ub h)] 28)).alloc (.cells #[.int .u64 0, .int .u64 0, .int .u64 0, .int .u64 0] 28)) (w.heap.size) ((v, m), l, h) := ((SC.new (x := ((v, m), l, h)) rfl).alloc _)
      have JR : SC ((w.alloc (.cells #[.int .u64 (ub v), .int .u64 (ub m), .int .u64 (ub l), .int .u64 (ub h)] 28)).alloc (.cells #[.int .u64 0, .int .u64 0, .int .u64 0, .int .u64 0] 28)) (w.heap.size + 1) sc0 := (SC.new (x := sc0) (by simp))
      have B : Below w.heap.size w ((w.alloc (.cells #[.int .u64 (ub v), .int .u64 (ub m), .int .u64 (ub l), .int .u64 (ub h)] 28)).alloc (.cells #[.int .u64 0, .int .u64 0, .int .u64 0, .int .u64 0] 28)) := (bel_alloc (bel_alloc (Below.refl _ _)))
      generalize ((w.alloc (.cells #[.int .u64 (ub v), .int .u64 (ub m), .int .u64 (ub l), .int .u64 (ub h)] 28)).alloc (.cells #[.int .u64 0, .int .u64 0, .int .u64 0, .int .u64 0] 28)) = w00 at *
      obtain ⟨JXl, JX0, JX1, JX2, JX3⟩ := JX.k
      obtain ⟨JRl, JR0, JR1, JR2, JR3, JRf0, JRf1, JRf2, JRf3⟩ := id JR
      have lb := B.size
      go_wp2_with fail
      refine (X1.out _).mono ?_
      rintro e w1 ⟨rfl, z⟩
      clear JX0 JX1 JX2 JX3 JXl JR0 JR1 JR2 JR3 JRl JRf0 JRf1 JRf2 JRf3 lb
      replace JX := JX.below z
      replace JR := JR.below z
      replace B := below_next B z
      clear z
      obtain ⟨JXl, JX0, JX1, JX2, JX3⟩ := JX.k
      obtain ⟨JRl, JR0, JR1, JR2, JR3, JRf0, JRf1, JRf2, JRf3⟩ := id JR
      have lb := B.size
      go_wp2
      exact bodyPost_ret (v := .tuple #[sv Z, .bool K]) (by simp [results, Tryz.results67, go_sem, JX0, JX1, JX2, JX3, JXl, JR0, JR1, JR2, JR3, JRl]; try first | rfl | exact ⟨rfl, rfl⟩) rfl ⟨rfl, putS_below Z B (by omega)⟩
  · by_cases e2 : a.2.2 = n
    · rw [if_neg (fun q => e1 q.1), if_neg e1, if_pos e2]
      clear X1
      generalize (witO a a.2.1 (n - 1#64)).isSome = K at *
      generalize optS (witO a a.2.1 (n - 1#64)) = Z at *
      obtain ⟨⟨v, m⟩, l, h⟩ := a
      dsimp only at e1 e2 X2 ⊢
      have f1 : (ub l == ub n) = false := by simpa [ub_inj] using e1
      have f2 : (ub h == ub n) = true := by rw [e2]; simp
      have g1 : (l == n) = false := by simpa using e1
      have g2 : (h == n) = true := by simpa using e2
      clear e1 e2
      unfold sv at X2 ⊢
      dsimp only at X2 ⊢
      replace X2 := hid X2
      go_enter Tryz.func67, Tryz.ntmps67
      go_wp2_with fail
      have JX : SC ((w.alloc (.cells #[.int .u64 (ub v), .int .u64 (ub m), .int .u64 (ub l), .int .u64 (ub h)] 28)).alloc (.cells #[.int .u64 0, .int .u64 0, .int .u64 0, .int .u64 0] 28)) (w.heap.size) ((v, m), l, h) := ((SC.new (x := ((v, m), l, h)) rfl).alloc _)
      have JR : SC ((w.alloc (.cells #[.int .u64 (ub v), .int .u64 (ub m), .int .u64 (ub l), .int .u64 (ub h)] 28)).alloc (.cells #[.int .u64 0, .int .u64 0, .int .u64 0, .int .u64 0] 28)) (w.heap.size + 1) sc0 := (SC.new (x := sc0) (by simp))
      have B : Below w.heap.size w ((w.alloc (.cells #[.int .u64 (ub v), .int .u64 (ub m), .int .u64 (ub l), .int .u64 (ub h)] 28)).alloc (.cells #[.int .u64 0, .int .u64 0, .int .u64 0, .int .u64 0] 28)) := (bel_alloc (bel_alloc (Below.refl _ _)))
      generalize ((w.alloc (.cells #[.int .u64 (ub v), .int .u64 (ub m), .int .u64 (ub l), .int .u64 (ub h)] 28)).alloc (.cells #[.int .u64 0, .int .u64 0, .int .u64 0, .int .u64 0] 28)) = w00 at *
      obtain ⟨JXl, JX0, JX1, JX2, JX3⟩ := JX.k
      obtain ⟨JRl, JR0, JR1, JR2, JR3, JRf0, JRf1, JRf2, JRf3⟩ := id JR
      have lb := B.size
      go_wp2_with fail
      refine (X2.out _).mono ?_
      rintro e w1 ⟨rfl, z⟩
      clear JX0 JX1 JX2 JX3 JXl JR0 JR1 JR2 JR3 JRl JRf0 JRf1 JRf2 JRf3 lb
      replace JX := JX.below z
      replace JR := JR.below z
      replace B := below_next B z
      clear z
      obtain ⟨JXl, JX0, JX1, JX2, JX3⟩ := JX.k
      obtain ⟨JRl, JR0, JR1, JR2, JR3, JRf0, JRf1, JRf2, JRf3⟩ := id JR
      have lb := B.size
      go_wp2
      exact bodyPost_ret (v := .tuple #[sv Z, .bool K]) (by simp [results, Tryz.results67, go_sem, JX0, JX1, JX2, JX3, JXl, JR0, JR1, JR2, JR3, JRl]; try first | rfl | exact ⟨rfl, rfl⟩) rfl ⟨rfl, putS_below Z B (by omega)⟩
    · rw [if_neg (fun q => e1 q.1), if_neg e1, if_neg e2]
      clear X1 X2
      obtain ⟨⟨v, m⟩, l, h⟩ := a
      dsimp only at e1 e2 ⊢
      have f1 : (ub l == ub n) = false := by simpa [ub_inj] using e1
      have f2 : (ub h == ub n) = false := by simpa [ub_inj] using e2
      have g1 : (l == n) = false := by simpa using e1
      have g2 : (h == n) = false := by simpa using e2
      clear e1 e2
      unfold sv
      go_enter Tryz.func67, Tryz.ntmps67
      go_wp2_with fail
      have JX : SC ((w.alloc (.cells #[.int .u64 (ub v), .int .u64 (ub m), .int .u64 (ub l), .int .u64 (ub h)] 28)).alloc (.cells #[.int .u64 0, .int .u64 0, .int .u64 0, .int .u64 0] 28)) (w.heap.size) ((v, m), l, h) := ((SC.new (x := ((v, m), l, h)) rfl).alloc _)
      have JR : SC ((w.alloc (.cells #[.int .u64 (ub v), .int .u64 (ub m), .int .u64 (ub l), .int .u64 (ub h)] 28)).alloc (.cells #[.int .u64 0, .int .u64 0, .int .u64 0, .int .u64 0] 28)) (w.heap.size + 1) sc0 := (SC.new (x := sc0) (by simp))
      have B : Below w.heap.size w ((w.alloc (.cells #[.int .u64 (ub v), .int .u64 (ub m), .int .u64 (ub l), .int .u64 (ub h)] 28)).alloc (.cells #[.int .u64 0, .int .u64 0, .int .u64 0, .int .u64 0] 28)) := (bel_alloc (bel_alloc (Below.refl _ _)))
      generalize ((w.alloc (.cells #[.int .u64 (ub v), .int .u64 (ub m), .int .u64 (ub l), .int .u64 (ub h)] 28)).alloc (.cells #[.int .u64 0, .int .u64 0, .int .u64 0, .int .u64 0] 28)) = w00 at *
      obtain ⟨JXl, JX0, JX1, JX2, JX3⟩ := JX.k
      obtain ⟨JRl, JR0, JR1, JR2, JR3, JRf0, JRf1, JRf2, JRf3⟩ := id JR
      have lb := B.size
      go_wp2
      exact bodyPost_ret (v := .tuple #[sv ((v, m), l, h), .bool true]) (by simp [results, Tryz.results67, go_sem, JX0, JX1, JX2, JX3, JXl, JR0, JR1, JR2, JR3, JRl]; try first | rfl | exact ⟨rfl, rfl⟩) rfl ⟨rfl, by first | exact bel_alloc (bel_alloc (Below.refl _ _)) | exact putS_below ((v, m), l, h) B (by omega)⟩
end Go.Proofs.YtodmikjpmcabiaaGreat
