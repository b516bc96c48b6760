/-
  TnumSound: whatever numbers two tnums hold, what is made of them is held by the answer.
-/
import Derived.Test.YtbinbjfpjielkaaTnZa
import Derived.Test.YtbinbjfpjielkaaTnW
namespace Go.Proofs.Ytbinbjfpjielkaa
set_option linter.unusedSimpArgs false
set_option linter.unusedVariables false
open Go.ChangeShapes Go.WideShapes Go.ChangeAt Go.RowKit

structure SdI (w : World) (a b n : Tn) (wr : World) : Prop where
  ca : TC wr w.heap.size a
  cb : TC wr (w.heap.size + 1) b
  cn : TC wr (w.heap.size + 1 + 1) n
  bel : Below w.heap.size w wr
theorem SdI.next {w : World} {a b n : Tn} {wr w' : World} (h : SdI w a b n wr) (hb : Below wr.heap.size wr w') : SdI w a b n w' :=
  ⟨h.ca.below hb, h.cb.below hb, h.cn.below hb, h.bel.trans (hb.mono h.bel.size)⟩
theorem hs_has {t : Tn} {x : B64} (hm : tmay t = true) (h : Hs t x) : thas t x = true := (has_iff t x).2 ⟨hm, h⟩
set_option maxHeartbeats 4000000 in
theorem sound_a (a b : Tn) (n0 n1 : B64) (w : World) (ha : tmay a = false) : Calls Try.prog 7 #[tv a, tv b, .agg #[.int .u64 (ub n0), .int .u64 (ub n1)]] w fun e w' => e = .returned (.bool true) ∧ Below w.heap.size w w' := by
    have HAW := hid awake_true
    have HA := fun W => tMay_any a W
    have HB := fun W => tMay_any b W
    have HMa := hid fun W => member_any a n0 W
    have HMb := hid fun W => member_any b n1 W
    have HOps := hid ops_any
    unfold tv at HA HB HMa HMb ⊢
    rw [ha] at HA
    have HA' := hid HA
    have hmn := hid (show (tmay a && tmay b) = false by rw [ha]; rfl)
    clear HA HB ha
    go_enter Try.func7, Try.ntmps7
    go_wp2_with fail
    refine (HAW.out _).mono ?_
    rintro e w1 ⟨rfl, z1⟩
    have I : SdI w a b (n0, n1) w1 := ⟨((TC.new rfl).alloc _ |>.alloc _).below z1, ((TC.new (by simp)).alloc _).below z1, (TC.new (a := (n0, n1)) (by simp)).below z1, ((((Below.refl _ _).alloc (Nat.le_refl _) _).alloc (by simp) _).alloc (by simp; omega) _).trans (z1.mono (by simp; omega))⟩
    clear z1
    have p0 := I.ca.1
    have q0 := I.ca.2.1
    have r0 := I.ca.2.2
    have p1 := I.cb.1
    have q1 := I.cb.2.1
    have r1 := I.cb.2.2
    go_wp2_with fail
    refine (HA'.out _).mono ?_
    rintro e w2 ⟨rfl, z2⟩
    clear p0 q0 r0 p1 q1 r1
    replace I := I.next z2
    clear z2
    have p0 := I.ca.1
    have q0 := I.ca.2.1
    have r0 := I.ca.2.2
    have p1 := I.cb.1
    have q1 := I.cb.2.1
    have r1 := I.cb.2.2
    go_wp2_with fail
    have p2 := I.cn.1
    have q2 := I.cn.2.1
    have r2 := I.cn.2.2
    dsimp only at q2 r2
    obtain ⟨WV, hWV⟩ : ∃ WV : World, WV = w2 := ⟨_, rfl⟩
    rw [← hWV] at I p0 q0 r0 p1 q1 r1 p2 q2 r2 ⊢
    clear hWV
    have HI := hid I
    go_region_held3 (fun w' => w'.cell? ⟨w.heap.size, 0, none⟩ = some (.int .u64 (ub a.1)) ∧ w'.cell? ⟨w.heap.size, 1, none⟩ = some (.int .u64 (ub a.2)) ∧ w'.cell? ⟨w.heap.size + 1, 0, none⟩ = some (.int .u64 (ub b.1)) ∧ w'.cell? ⟨w.heap.size + 1, 1, none⟩ = some (.int .u64 (ub b.2)) ∧ w'.cell? ⟨w.heap.size + 1 + 1, 0, none⟩ = some (.int .u64 (ub n0)) ∧ w'.cell? ⟨w.heap.size + 1 + 1, 1, none⟩ = some (.int .u64 (ub n1)) ∧ Below WV.heap.size WV w')
      (first | (go_split_ands; exact ⟨cn bq (by assumption), cn bq (by assumption), cn bq (by assumption), cn bq (by assumption), cn bq (by assumption), cn bq (by assumption), below_next (by assumption) bq⟩) | exact ⟨cn (below_dr WV) q0, cn (below_dr WV) r0, cn (below_dr WV) q1, cn (below_dr WV) r1, cn (below_dr WV) q2, cn (below_dr WV) r2, below_dr WV⟩)
      (first | (go_at_call 50; go_split_ands; (with_reducible refine (HMa.out _).mono ?_); rintro e wq ⟨rfl, bq⟩) | (go_at_call 50; go_split_ands; (with_reducible refine (HMb.out _).mono ?_); rintro e wq ⟨rfl, bq⟩))
    go_split_ands
    obtain ⟨wn, rfl⟩ : ∃ X : World, X = wq := ⟨_, rfl⟩
    have I2 := HI.out.next (show Below WV.heap.size WV wn by assumption)
    clear HI I p0 q0 r0 p1 q1 r1 p2 q2 r2
    go_wp2_with fail
    refine (HOps.out _).mono ?_
    rintro e w5 ⟨rfl, z5⟩
    have I3 := hid (I2.next z5)
    clear I2 z5
    unfold opsV
    go_wp2_with fail
    go_loopw [33] (fun i wr => ∃ k : Nat, k ≤ 6 ∧ i = .int .i64 k ∧ Hid (SdI w a b (n0, n1) wr)) (fun i _ => 6 - (intOf i).toNat)
    case atStart => exact ⟨0, by omega, rfl, I3⟩
    case round =>
      clear I3
      obtain ⟨k, hk, rfl, HI⟩ := hrel
      obtain ⟨wo, rfl⟩ : ∃ wo : World, wo = wr := ⟨_, rfl⟩
      by_cases hlt : k < 6
      · have hc : k = 0 ∨ k = 1 ∨ k = 2 ∨ k = 3 ∨ k = 4 ∨ k = 5 := by omega
        clear hk hlt
        rcases hc with rfl | rfl | rfl | rfl | rfl | rfl
        · have I := HI.out
          have p0 := I.ca.1
          have q0 := I.ca.2.1
          have r0 := I.ca.2.2
          have p1 := I.cb.1
          have q1 := I.cb.2.1
          have r1 := I.cb.2.2
          have HD : Hid (∀ W, Calls Try.prog 52 #[.int .i64 0, .agg #[.int .u64 (ub a.1), .int .u64 (ub a.2)], .agg #[.int .u64 (ub b.1), .int .u64 (ub b.2)]] W fun e w' => e = .returned (.tuple #[.agg #[.int .u64 (ub (bothT a b (opT 0 a b)).1), .int .u64 (ub (bothT a b (opT 0 a b)).2)], .int .i64 (bothE a b)]) ∧ Below W.heap.size W w') := hid fun W => done_any 0 (by unfold opOk; omega) a b W
          have HR : Hid (∀ W, Calls Try.prog 53 #[.int .i64 0, .bool true, .int .u64 (ub (memB a n0)), .int .u64 (ub (memB b n1))] W fun e w' => e = .returned (.tuple #[.int .u64 (ub (opN 0 (memB a n0) (memB b n1))), .int .i64 0]) ∧ W = w') := hid fun W => ralu_is 0 (by unfold opOk; omega) _ _ W
          have ht : bothT a b (opT 0 a b) = t0 := by unfold bothT; rw [hmn.out]; rfl
          have he : bothE a b = 1 := by unfold bothE; rw [hmn.out]; rfl
          rw [ht, he] at HD
          clear ht he
          have hix : ∀ W : World, (Instr.index 51 opsV (.int .i64 0)).run Try.prog W = .ok (.int .i64 0) W := fun W => by kernel_rfl
          unfold opsV at hix
          go_wp2_with fail
          refine (HD.out _).mono ?_
          rintro e w7 ⟨rfl, z7⟩
          clear p0 q0 r0 p1 q1 r1 hix
          have I7 := hid (I.next z7)
          clear I z7
          go_wp2_with fail
          refine (HR.out _).mono ?_
          rintro e w8 ⟨rfl, rfl⟩
          have I9 := hid (I7.out.next ((Below.refl _ _).alloc (Nat.le_refl _) (.cells #[.int .u64 (ub t0.1), .int .u64 (ub t0.2)] 24)))
          clear I7
          go_wp2
          go_roundw
          case rel => first | exact ⟨1, by omega, by first | rfl | go_num, I9⟩ | ((repeat apply Exists.intro); exact ⟨⟨1, by omega, by first | rfl | go_num, I9⟩, rfl⟩)
          case measure => simp [intOf]
        · have I := HI.out
          have p0 := I.ca.1
          have q0 := I.ca.2.1
          have r0 := I.ca.2.2
          have p1 := I.cb.1
          have q1 := I.cb.2.1
          have r1 := I.cb.2.2
          have HD : Hid (∀ W, Calls Try.prog 52 #[.int .i64 1, .agg #[.int .u64 (ub a.1), .int .u64 (ub a.2)], .agg #[.int .u64 (ub b.1), .int .u64 (ub b.2)]] W fun e w' => e = .returned (.tuple #[.agg #[.int .u64 (ub (bothT a b (opT 1 a b)).1), .int .u64 (ub (bothT a b (opT 1 a b)).2)], .int .i64 (bothE a b)]) ∧ Below W.heap.size W w') := hid fun W => done_any 1 (by unfold opOk; omega) a b W
          have HR : Hid (∀ W, Calls Try.prog 53 #[.int .i64 1, .bool true, .int .u64 (ub (memB a n0)), .int .u64 (ub (memB b n1))] W fun e w' => e = .returned (.tuple #[.int .u64 (ub (opN 1 (memB a n0) (memB b n1))), .int .i64 0]) ∧ W = w') := hid fun W => ralu_is 1 (by unfold opOk; omega) _ _ W
          have ht : bothT a b (opT 1 a b) = t0 := by unfold bothT; rw [hmn.out]; rfl
          have he : bothE a b = 1 := by unfold bothE; rw [hmn.out]; rfl
          rw [ht, he] at HD
          clear ht he
          have hix : ∀ W : World, (Instr.index 51 opsV (.int .i64 1)).run Try.prog W = .ok (.int .i64 1) W := fun W => by kernel_rfl
          unfold opsV at hix
          go_wp2_with fail
          refine (HD.out _).mono ?_
          rintro e w7 ⟨rfl, z7⟩
          clear p0 q0 r0 p1 q1 r1 hix
          have I7 := hid (I.next z7)
          clear I z7
          go_wp2_with fail
          refine (HR.out _).mono ?_
          rintro e w8 ⟨rfl, rfl⟩
          have I9 := hid (I7.out.next ((Below.refl _ _).alloc (Nat.le_refl _) (.cells #[.int .u64 (ub t0.1), .int .u64 (ub t0.2)] 24)))
          clear I7
          go_wp2
          go_roundw
          case rel => first | exact ⟨2, by omega, by first | rfl | go_num, I9⟩ | ((repeat apply Exists.intro); exact ⟨⟨2, by omega, by first | rfl | go_num, I9⟩, rfl⟩)
          case measure => simp [intOf]
        · have I := HI.out
          have p0 := I.ca.1
          have q0 := I.ca.2.1
          have r0 := I.ca.2.2
          have p1 := I.cb.1
          have q1 := I.cb.2.1
          have r1 := I.cb.2.2
          have HD : Hid (∀ W, Calls Try.prog 52 #[.int .i64 2, .agg #[.int .u64 (ub a.1), .int .u64 (ub a.2)], .agg #[.int .u64 (ub b.1), .int .u64 (ub b.2)]] W fun e w' => e = .returned (.tuple #[.agg #[.int .u64 (ub (bothT a b (opT 2 a b)).1), .int .u64 (ub (bothT a b (opT 2 a b)).2)], .int .i64 (bothE a b)]) ∧ Below W.heap.size W w') := hid fun W => done_any 2 (by unfold opOk; omega) a b W
          have HR : Hid (∀ W, Calls Try.prog 53 #[.int .i64 2, .bool true, .int .u64 (ub (memB a n0)), .int .u64 (ub (memB b n1))] W fun e w' => e = .returned (.tuple #[.int .u64 (ub (opN 2 (memB a n0) (memB b n1))), .int .i64 0]) ∧ W = w') := hid fun W => ralu_is 2 (by unfold opOk; omega) _ _ W
          have ht : bothT a b (opT 2 a b) = t0 := by unfold bothT; rw [hmn.out]; rfl
          have he : bothE a b = 1 := by unfold bothE; rw [hmn.out]; rfl
          rw [ht, he] at HD
          clear ht he
          have hix : ∀ W : World, (Instr.index 51 opsV (.int .i64 2)).run Try.prog W = .ok (.int .i64 2) W := fun W => by kernel_rfl
          unfold opsV at hix
          go_wp2_with fail
          refine (HD.out _).mono ?_
          rintro e w7 ⟨rfl, z7⟩
          clear p0 q0 r0 p1 q1 r1 hix
          have I7 := hid (I.next z7)
          clear I z7
          go_wp2_with fail
          refine (HR.out _).mono ?_
          rintro e w8 ⟨rfl, rfl⟩
          have I9 := hid (I7.out.next ((Below.refl _ _).alloc (Nat.le_refl _) (.cells #[.int .u64 (ub t0.1), .int .u64 (ub t0.2)] 24)))
          clear I7
          go_wp2
          go_roundw
          case rel => first | exact ⟨3, by omega, by first | rfl | go_num, I9⟩ | ((repeat apply Exists.intro); exact ⟨⟨3, by omega, by first | rfl | go_num, I9⟩, rfl⟩)
          case measure => simp [intOf]
        · have I := HI.out
          have p0 := I.ca.1
          have q0 := I.ca.2.1
          have r0 := I.ca.2.2
          have p1 := I.cb.1
          have q1 := I.cb.2.1
          have r1 := I.cb.2.2
          have HD : Hid (∀ W, Calls Try.prog 52 #[.int .i64 4, .agg #[.int .u64 (ub a.1), .int .u64 (ub a.2)], .agg #[.int .u64 (ub b.1), .int .u64 (ub b.2)]] W fun e w' => e = .returned (.tuple #[.agg #[.int .u64 (ub (bothT a b (opT 4 a b)).1), .int .u64 (ub (bothT a b (opT 4 a b)).2)], .int .i64 (bothE a b)]) ∧ Below W.heap.size W w') := hid fun W => done_any 4 (by unfold opOk; omega) a b W
          have HR : Hid (∀ W, Calls Try.prog 53 #[.int .i64 4, .bool true, .int .u64 (ub (memB a n0)), .int .u64 (ub (memB b n1))] W fun e w' => e = .returned (.tuple #[.int .u64 (ub (opN 4 (memB a n0) (memB b n1))), .int .i64 0]) ∧ W = w') := hid fun W => ralu_is 4 (by unfold opOk; omega) _ _ W
          have ht : bothT a b (opT 4 a b) = t0 := by unfold bothT; rw [hmn.out]; rfl
          have he : bothE a b = 1 := by unfold bothE; rw [hmn.out]; rfl
          rw [ht, he] at HD
          clear ht he
          have hix : ∀ W : World, (Instr.index 51 opsV (.int .i64 3)).run Try.prog W = .ok (.int .i64 4) W := fun W => by kernel_rfl
          unfold opsV at hix
          go_wp2_with fail
          refine (HD.out _).mono ?_
          rintro e w7 ⟨rfl, z7⟩
          clear p0 q0 r0 p1 q1 r1 hix
          have I7 := hid (I.next z7)
          clear I z7
          go_wp2_with fail
          refine (HR.out _).mono ?_
          rintro e w8 ⟨rfl, rfl⟩
          have I9 := hid (I7.out.next ((Below.refl _ _).alloc (Nat.le_refl _) (.cells #[.int .u64 (ub t0.1), .int .u64 (ub t0.2)] 24)))
          clear I7
          go_wp2
          go_roundw
          case rel => first | exact ⟨4, by omega, by first | rfl | go_num, I9⟩ | ((repeat apply Exists.intro); exact ⟨⟨4, by omega, by first | rfl | go_num, I9⟩, rfl⟩)
          case measure => simp [intOf]
        · have I := HI.out
          have p0 := I.ca.1
          have q0 := I.ca.2.1
          have r0 := I.ca.2.2
          have p1 := I.cb.1
          have q1 := I.cb.2.1
          have r1 := I.cb.2.2
          have HD : Hid (∀ W, Calls Try.prog 52 #[.int .i64 5, .agg #[.int .u64 (ub a.1), .int .u64 (ub a.2)], .agg #[.int .u64 (ub b.1), .int .u64 (ub b.2)]] W fun e w' => e = .returned (.tuple #[.agg #[.int .u64 (ub (bothT a b (opT 5 a b)).1), .int .u64 (ub (bothT a b (opT 5 a b)).2)], .int .i64 (bothE a b)]) ∧ Below W.heap.size W w') := hid fun W => done_any 5 (by unfold opOk; omega) a b W
          have HR : Hid (∀ W, Calls Try.prog 53 #[.int .i64 5, .bool true, .int .u64 (ub (memB a n0)), .int .u64 (ub (memB b n1))] W fun e w' => e = .returned (.tuple #[.int .u64 (ub (opN 5 (memB a n0) (memB b n1))), .int .i64 0]) ∧ W = w') := hid fun W => ralu_is 5 (by unfold opOk; omega) _ _ W
          have ht : bothT a b (opT 5 a b) = t0 := by unfold bothT; rw [hmn.out]; rfl
          have he : bothE a b = 1 := by unfold bothE; rw [hmn.out]; rfl
          rw [ht, he] at HD
          clear ht he
          have hix : ∀ W : World, (Instr.index 51 opsV (.int .i64 4)).run Try.prog W = .ok (.int .i64 5) W := fun W => by kernel_rfl
          unfold opsV at hix
          go_wp2_with fail
          refine (HD.out _).mono ?_
          rintro e w7 ⟨rfl, z7⟩
          clear p0 q0 r0 p1 q1 r1 hix
          have I7 := hid (I.next z7)
          clear I z7
          go_wp2_with fail
          refine (HR.out _).mono ?_
          rintro e w8 ⟨rfl, rfl⟩
          have I9 := hid (I7.out.next ((Below.refl _ _).alloc (Nat.le_refl _) (.cells #[.int .u64 (ub t0.1), .int .u64 (ub t0.2)] 24)))
          clear I7
          go_wp2
          go_roundw
          case rel => first | exact ⟨5, by omega, by first | rfl | go_num, I9⟩ | ((repeat apply Exists.intro); exact ⟨⟨5, by omega, by first | rfl | go_num, I9⟩, rfl⟩)
          case measure => simp [intOf]
        · have I := HI.out
          have p0 := I.ca.1
          have q0 := I.ca.2.1
          have r0 := I.ca.2.2
          have p1 := I.cb.1
          have q1 := I.cb.2.1
          have r1 := I.cb.2.2
          have HD : Hid (∀ W, Calls Try.prog 52 #[.int .i64 10, .agg #[.int .u64 (ub a.1), .int .u64 (ub a.2)], .agg #[.int .u64 (ub b.1), .int .u64 (ub b.2)]] W fun e w' => e = .returned (.tuple #[.agg #[.int .u64 (ub (bothT a b (opT 10 a b)).1), .int .u64 (ub (bothT a b (opT 10 a b)).2)], .int .i64 (bothE a b)]) ∧ Below W.heap.size W w') := hid fun W => done_any 10 (by unfold opOk; omega) a b W
          have HR : Hid (∀ W, Calls Try.prog 53 #[.int .i64 10, .bool true, .int .u64 (ub (memB a n0)), .int .u64 (ub (memB b n1))] W fun e w' => e = .returned (.tuple #[.int .u64 (ub (opN 10 (memB a n0) (memB b n1))), .int .i64 0]) ∧ W = w') := hid fun W => ralu_is 10 (by unfold opOk; omega) _ _ W
          have ht : bothT a b (opT 10 a b) = t0 := by unfold bothT; rw [hmn.out]; rfl
          have he : bothE a b = 1 := by unfold bothE; rw [hmn.out]; rfl
          rw [ht, he] at HD
          clear ht he
          have hix : ∀ W : World, (Instr.index 51 opsV (.int .i64 5)).run Try.prog W = .ok (.int .i64 10) W := fun W => by kernel_rfl
          unfold opsV at hix
          go_wp2_with fail
          refine (HD.out _).mono ?_
          rintro e w7 ⟨rfl, z7⟩
          clear p0 q0 r0 p1 q1 r1 hix
          have I7 := hid (I.next z7)
          clear I z7
          go_wp2_with fail
          refine (HR.out _).mono ?_
          rintro e w8 ⟨rfl, rfl⟩
          have I9 := hid (I7.out.next ((Below.refl _ _).alloc (Nat.le_refl _) (.cells #[.int .u64 (ub t0.1), .int .u64 (ub t0.2)] 24)))
          clear I7
          go_wp2
          go_roundw
          case rel => first | exact ⟨6, by omega, by first | rfl | go_num, I9⟩ | ((repeat apply Exists.intro); exact ⟨⟨6, by omega, by first | rfl | go_num, I9⟩, rfl⟩)
          case measure => simp [intOf]
      · have hk6 : k = 6 := by omega
        subst hk6
        have HB9 := hid HI.out.bel
        go_wp2
        go_ret
        exact ⟨rfl, HB9.out⟩
set_option maxHeartbeats 4000000 in
theorem sound_b (a b : Tn) (n0 n1 : B64) (w : World) (ha : tmay a = true) (hb : tmay b = false) : Calls Try.prog 7 #[tv a, tv b, .agg #[.int .u64 (ub n0), .int .u64 (ub n1)]] w fun e w' => e = .returned (.bool true) ∧ Below w.heap.size w w' := by
    have HAW := hid awake_true
    have HA := fun W => tMay_any a W
    have HB := fun W => tMay_any b W
    have HMa := hid fun W => member_any a n0 W
    have HMb := hid fun W => member_any b n1 W
    have HOps := hid ops_any
    unfold tv at HA HB HMa HMb ⊢
    rw [ha] at HA
    rw [hb] at HB
    have HA' := hid HA
    have HB' := hid HB
    have hmn := hid (show (tmay a && tmay b) = false by rw [ha, hb]; rfl)
    clear HA HB ha hb
    go_enter Try.func7, Try.ntmps7
    go_wp2_with fail
    refine (HAW.out _).mono ?_
    rintro e w1 ⟨rfl, z1⟩
    have I : SdI w a b (n0, n1) w1 := ⟨((TC.new rfl).alloc _ |>.alloc _).below z1, ((TC.new (by simp)).alloc _).below z1, (TC.new (a := (n0, n1)) (by simp)).below z1, ((((Below.refl _ _).alloc (Nat.le_refl _) _).alloc (by simp) _).alloc (by simp; omega) _).trans (z1.mono (by simp; omega))⟩
    clear z1
    have p0 := I.ca.1
    have q0 := I.ca.2.1
    have r0 := I.ca.2.2
    have p1 := I.cb.1
    have q1 := I.cb.2.1
    have r1 := I.cb.2.2
    go_wp2_with fail
    refine (HA'.out _).mono ?_
    rintro e w2 ⟨rfl, z2⟩
    clear p0 q0 r0 p1 q1 r1
    replace I := I.next z2
    clear z2
    have p0 := I.ca.1
    have q0 := I.ca.2.1
    have r0 := I.ca.2.2
    have p1 := I.cb.1
    have q1 := I.cb.2.1
    have r1 := I.cb.2.2
    go_wp2_with fail
    refine (HB'.out _).mono ?_
    rintro e w3 ⟨rfl, z3⟩
    clear p0 q0 r0 p1 q1 r1
    replace I := I.next z3
    clear z3
    have p0 := I.ca.1
    have q0 := I.ca.2.1
    have r0 := I.ca.2.2
    have p1 := I.cb.1
    have q1 := I.cb.2.1
    have r1 := I.cb.2.2
    go_wp2_with fail
    have p2 := I.cn.1
    have q2 := I.cn.2.1
    have r2 := I.cn.2.2
    dsimp only at q2 r2
    obtain ⟨WV, hWV⟩ : ∃ WV : World, WV = w3 := ⟨_, rfl⟩
    rw [← hWV] at I p0 q0 r0 p1 q1 r1 p2 q2 r2 ⊢
    clear hWV
    have HI := hid I
    go_region_held3 (fun w' => w'.cell? ⟨w.heap.size, 0, none⟩ = some (.int .u64 (ub a.1)) ∧ w'.cell? ⟨w.heap.size, 1, none⟩ = some (.int .u64 (ub a.2)) ∧ w'.cell? ⟨w.heap.size + 1, 0, none⟩ = some (.int .u64 (ub b.1)) ∧ w'.cell? ⟨w.heap.size + 1, 1, none⟩ = some (.int .u64 (ub b.2)) ∧ w'.cell? ⟨w.heap.size + 1 + 1, 0, none⟩ = some (.int .u64 (ub n0)) ∧ w'.cell? ⟨w.heap.size + 1 + 1, 1, none⟩ = some (.int .u64 (ub n1)) ∧ Below WV.heap.size WV w')
      (first | (go_split_ands; exact ⟨cn bq (by assumption), cn bq (by assumption), cn bq (by assumption), cn bq (by assumption), cn bq (by assumption), cn bq (by assumption), below_next (by assumption) bq⟩) | exact ⟨cn (below_dr WV) q0, cn (below_dr WV) r0, cn (below_dr WV) q1, cn (below_dr WV) r1, cn (below_dr WV) q2, cn (below_dr WV) r2, below_dr WV⟩)
      (first | (go_at_call 50; go_split_ands; (with_reducible refine (HMa.out _).mono ?_); rintro e wq ⟨rfl, bq⟩) | (go_at_call 50; go_split_ands; (with_reducible refine (HMb.out _).mono ?_); rintro e wq ⟨rfl, bq⟩))
    go_split_ands
    obtain ⟨wn, rfl⟩ : ∃ X : World, X = wq := ⟨_, rfl⟩
    have I2 := HI.out.next (show Below WV.heap.size WV wn by assumption)
    clear HI I p0 q0 r0 p1 q1 r1 p2 q2 r2
    go_wp2_with fail
    refine (HOps.out _).mono ?_
    rintro e w5 ⟨rfl, z5⟩
    have I3 := hid (I2.next z5)
    clear I2 z5
    unfold opsV
    go_wp2_with fail
    go_loopw [33] (fun i wr => ∃ k : Nat, k ≤ 6 ∧ i = .int .i64 k ∧ Hid (SdI w a b (n0, n1) wr)) (fun i _ => 6 - (intOf i).toNat)
    case atStart => exact ⟨0, by omega, rfl, I3⟩
    case round =>
      clear I3
      obtain ⟨k, hk, rfl, HI⟩ := hrel
      obtain ⟨wo, rfl⟩ : ∃ wo : World, wo = wr := ⟨_, rfl⟩
      by_cases hlt : k < 6
      · have hc : k = 0 ∨ k = 1 ∨ k = 2 ∨ k = 3 ∨ k = 4 ∨ k = 5 := by omega
        clear hk hlt
        rcases hc with rfl | rfl | rfl | rfl | rfl | rfl
        · have I := HI.out
          have p0 := I.ca.1
          have q0 := I.ca.2.1
          have r0 := I.ca.2.2
          have p1 := I.cb.1
          have q1 := I.cb.2.1
          have r1 := I.cb.2.2
          have HD : Hid (∀ W, Calls Try.prog 52 #[.int .i64 0, .agg #[.int .u64 (ub a.1), .int .u64 (ub a.2)], .agg #[.int .u64 (ub b.1), .int .u64 (ub b.2)]] W fun e w' => e = .returned (.tuple #[.agg #[.int .u64 (ub (bothT a b (opT 0 a b)).1), .int .u64 (ub (bothT a b (opT 0 a b)).2)], .int .i64 (bothE a b)]) ∧ Below W.heap.size W w') := hid fun W => done_any 0 (by unfold opOk; omega) a b W
          have HR : Hid (∀ W, Calls Try.prog 53 #[.int .i64 0, .bool true, .int .u64 (ub (memB a n0)), .int .u64 (ub (memB b n1))] W fun e w' => e = .returned (.tuple #[.int .u64 (ub (opN 0 (memB a n0) (memB b n1))), .int .i64 0]) ∧ W = w') := hid fun W => ralu_is 0 (by unfold opOk; omega) _ _ W
          have ht : bothT a b (opT 0 a b) = t0 := by unfold bothT; rw [hmn.out]; rfl
          have he : bothE a b = 1 := by unfold bothE; rw [hmn.out]; rfl
          rw [ht, he] at HD
          clear ht he
          have hix : ∀ W : World, (Instr.index 51 opsV (.int .i64 0)).run Try.prog W = .ok (.int .i64 0) W := fun W => by kernel_rfl
          unfold opsV at hix
          go_wp2_with fail
          refine (HD.out _).mono ?_
          rintro e w7 ⟨rfl, z7⟩
          clear p0 q0 r0 p1 q1 r1 hix
          have I7 := hid (I.next z7)
          clear I z7
          go_wp2_with fail
          refine (HR.out _).mono ?_
          rintro e w8 ⟨rfl, rfl⟩
          have I9 := hid (I7.out.next ((Below.refl _ _).alloc (Nat.le_refl _) (.cells #[.int .u64 (ub t0.1), .int .u64 (ub t0.2)] 24)))
          clear I7
          go_wp2
          go_roundw
          case rel => first | exact ⟨1, by omega, by first | rfl | go_num, I9⟩ | ((repeat apply Exists.intro); exact ⟨⟨1, by omega, by first | rfl | go_num, I9⟩, rfl⟩)
          case measure => simp [intOf]
        · have I := HI.out
          have p0 := I.ca.1
          have q0 := I.ca.2.1
          have r0 := I.ca.2.2
          have p1 := I.cb.1
          have q1 := I.cb.2.1
          have r1 := I.cb.2.2
          have HD : Hid (∀ W, Calls Try.prog 52 #[.int .i64 1, .agg #[.int .u64 (ub a.1), .int .u64 (ub a.2)], .agg #[.int .u64 (ub b.1), .int .u64 (ub b.2)]] W fun e w' => e = .returned (.tuple #[.agg #[.int .u64 (ub (bothT a b (opT 1 a b)).1), .int .u64 (ub (bothT a b (opT 1 a b)).2)], .int .i64 (bothE a b)]) ∧ Below W.heap.size W w') := hid fun W => done_any 1 (by unfold opOk; omega) a b W
          have HR : Hid (∀ W, Calls Try.prog 53 #[.int .i64 1, .bool true, .int .u64 (ub (memB a n0)), .int .u64 (ub (memB b n1))] W fun e w' => e = .returned (.tuple #[.int .u64 (ub (opN 1 (memB a n0) (memB b n1))), .int .i64 0]) ∧ W = w') := hid fun W => ralu_is 1 (by unfold opOk; omega) _ _ W
          have ht : bothT a b (opT 1 a b) = t0 := by unfold bothT; rw [hmn.out]; rfl
          have he : bothE a b = 1 := by unfold bothE; rw [hmn.out]; rfl
          rw [ht, he] at HD
          clear ht he
          have hix : ∀ W : World, (Instr.index 51 opsV (.int .i64 1)).run Try.prog W = .ok (.int .i64 1) W := fun W => by kernel_rfl
          unfold opsV at hix
          go_wp2_with fail
          refine (HD.out _).mono ?_
          rintro e w7 ⟨rfl, z7⟩
          clear p0 q0 r0 p1 q1 r1 hix
          have I7 := hid (I.next z7)
          clear I z7
          go_wp2_with fail
          refine (HR.out _).mono ?_
          rintro e w8 ⟨rfl, rfl⟩
          have I9 := hid (I7.out.next ((Below.refl _ _).alloc (Nat.le_refl _) (.cells #[.int .u64 (ub t0.1), .int .u64 (ub t0.2)] 24)))
          clear I7
          go_wp2
          go_roundw
          case rel => first | exact ⟨2, by omega, by first | rfl | go_num, I9⟩ | ((repeat apply Exists.intro); exact ⟨⟨2, by omega, by first | rfl | go_num, I9⟩, rfl⟩)
          case measure => simp [intOf]
        · have I := HI.out
          have p0 := I.ca.1
          have q0 := I.ca.2.1
          have r0 := I.ca.2.2
          have p1 := I.cb.1
          have q1 := I.cb.2.1
          have r1 := I.cb.2.2
          have HD : Hid (∀ W, Calls Try.prog 52 #[.int .i64 2, .agg #[.int .u64 (ub a.1), .int .u64 (ub a.2)], .agg #[.int .u64 (ub b.1), .int .u64 (ub b.2)]] W fun e w' => e = .returned (.tuple #[.agg #[.int .u64 (ub (bothT a b (opT 2 a b)).1), .int .u64 (ub (bothT a b (opT 2 a b)).2)], .int .i64 (bothE a b)]) ∧ Below W.heap.size W w') := hid fun W => done_any 2 (by unfold opOk; omega) a b W
          have HR : Hid (∀ W, Calls Try.prog 53 #[.int .i64 2, .bool true, .int .u64 (ub (memB a n0)), .int .u64 (ub (memB b n1))] W fun e w' => e = .returned (.tuple #[.int .u64 (ub (opN 2 (memB a n0) (memB b n1))), .int .i64 0]) ∧ W = w') := hid fun W => ralu_is 2 (by unfold opOk; omega) _ _ W
          have ht : bothT a b (opT 2 a b) = t0 := by unfold bothT; rw [hmn.out]; rfl
          have he : bothE a b = 1 := by unfold bothE; rw [hmn.out]; rfl
          rw [ht, he] at HD
          clear ht he
          have hix : ∀ W : World, (Instr.index 51 opsV (.int .i64 2)).run Try.prog W = .ok (.int .i64 2) W := fun W => by kernel_rfl
          unfold opsV at hix
          go_wp2_with fail
          refine (HD.out _).mono ?_
          rintro e w7 ⟨rfl, z7⟩
          clear p0 q0 r0 p1 q1 r1 hix
          have I7 := hid (I.next z7)
          clear I z7
          go_wp2_with fail
          refine (HR.out _).mono ?_
          rintro e w8 ⟨rfl, rfl⟩
          have I9 := hid (I7.out.next ((Below.refl _ _).alloc (Nat.le_refl _) (.cells #[.int .u64 (ub t0.1), .int .u64 (ub t0.2)] 24)))
          clear I7
          go_wp2
          go_roundw
          case rel => first | exact ⟨3, by omega, by first | rfl | go_num, I9⟩ | ((repeat apply Exists.intro); exact ⟨⟨3, by omega, by first | rfl | go_num, I9⟩, rfl⟩)
          case measure => simp [intOf]
        · have I := HI.out
          have p0 := I.ca.1
          have q0 := I.ca.2.1
          have r0 := I.ca.2.2
          have p1 := I.cb.1
          have q1 := I.cb.2.1
          have r1 := I.cb.2.2
          have HD : Hid (∀ W, Calls Try.prog 52 #[.int .i64 4, .agg #[.int .u64 (ub a.1), .int .u64 (ub a.2)], .agg #[.int .u64 (ub b.1), .int .u64 (ub b.2)]] W fun e w' => e = .returned (.tuple #[.agg #[.int .u64 (ub (bothT a b (opT 4 a b)).1), .int .u64 (ub (bothT a b (opT 4 a b)).2)], .int .i64 (bothE a b)]) ∧ Below W.heap.size W w') := hid fun W => done_any 4 (by unfold opOk; omega) a b W
          have HR : Hid (∀ W, Calls Try.prog 53 #[.int .i64 4, .bool true, .int .u64 (ub (memB a n0)), .int .u64 (ub (memB b n1))] W fun e w' => e = .returned (.tuple #[.int .u64 (ub (opN 4 (memB a n0) (memB b n1))), .int .i64 0]) ∧ W = w') := hid fun W => ralu_is 4 (by unfold opOk; omega) _ _ W
          have ht : bothT a b (opT 4 a b) = t0 := by unfold bothT; rw [hmn.out]; rfl
          have he : bothE a b = 1 := by unfold bothE; rw [hmn.out]; rfl
          rw [ht, he] at HD
          clear ht he
          have hix : ∀ W : World, (Instr.index 51 opsV (.int .i64 3)).run Try.prog W = .ok (.int .i64 4) W := fun W => by kernel_rfl
          unfold opsV at hix
          go_wp2_with fail
          refine (HD.out _).mono ?_
          rintro e w7 ⟨rfl, z7⟩
          clear p0 q0 r0 p1 q1 r1 hix
          have I7 := hid (I.next z7)
          clear I z7
          go_wp2_with fail
          refine (HR.out _).mono ?_
          rintro e w8 ⟨rfl, rfl⟩
          have I9 := hid (I7.out.next ((Below.refl _ _).alloc (Nat.le_refl _) (.cells #[.int .u64 (ub t0.1), .int .u64 (ub t0.2)] 24)))
          clear I7
          go_wp2
          go_roundw
          case rel => first | exact ⟨4, by omega, by first | rfl | go_num, I9⟩ | ((repeat apply Exists.intro); exact ⟨⟨4, by omega, by first | rfl | go_num, I9⟩, rfl⟩)
          case measure => simp [intOf]
        · have I := HI.out
          have p0 := I.ca.1
          have q0 := I.ca.2.1
          have r0 := I.ca.2.2
          have p1 := I.cb.1
          have q1 := I.cb.2.1
          have r1 := I.cb.2.2
          have HD : Hid (∀ W, Calls Try.prog 52 #[.int .i64 5, .agg #[.int .u64 (ub a.1), .int .u64 (ub a.2)], .agg #[.int .u64 (ub b.1), .int .u64 (ub b.2)]] W fun e w' => e = .returned (.tuple #[.agg #[.int .u64 (ub (bothT a b (opT 5 a b)).1), .int .u64 (ub (bothT a b (opT 5 a b)).2)], .int .i64 (bothE a b)]) ∧ Below W.heap.size W w') := hid fun W => done_any 5 (by unfold opOk; omega) a b W
          have HR : Hid (∀ W, Calls Try.prog 53 #[.int .i64 5, .bool true, .int .u64 (ub (memB a n0)), .int .u64 (ub (memB b n1))] W fun e w' => e = .returned (.tuple #[.int .u64 (ub (opN 5 (memB a n0) (memB b n1))), .int .i64 0]) ∧ W = w') := hid fun W => ralu_is 5 (by unfold opOk; omega) _ _ W
          have ht : bothT a b (opT 5 a b) = t0 := by unfold bothT; rw [hmn.out]; rfl
          have he : bothE a b = 1 := by unfold bothE; rw [hmn.out]; rfl
          rw [ht, he] at HD
          clear ht he
          have hix : ∀ W : World, (Instr.index 51 opsV (.int .i64 4)).run Try.prog W = .ok (.int .i64 5) W := fun W => by kernel_rfl
          unfold opsV at hix
          go_wp2_with fail
          refine (HD.out _).mono ?_
          rintro e w7 ⟨rfl, z7⟩
          clear p0 q0 r0 p1 q1 r1 hix
          have I7 := hid (I.next z7)
          clear I z7
          go_wp2_with fail
          refine (HR.out _).mono ?_
          rintro e w8 ⟨rfl, rfl⟩
          have I9 := hid (I7.out.next ((Below.refl _ _).alloc (Nat.le_refl _) (.cells #[.int .u64 (ub t0.1), .int .u64 (ub t0.2)] 24)))
          clear I7
          go_wp2
          go_roundw
          case rel => first | exact ⟨5, by omega, by first | rfl | go_num, I9⟩ | ((repeat apply Exists.intro); exact ⟨⟨5, by omega, by first | rfl | go_num, I9⟩, rfl⟩)
          case measure => simp [intOf]
        · have I := HI.out
          have p0 := I.ca.1
          have q0 := I.ca.2.1
          have r0 := I.ca.2.2
          have p1 := I.cb.1
          have q1 := I.cb.2.1
          have r1 := I.cb.2.2
          have HD : Hid (∀ W, Calls Try.prog 52 #[.int .i64 10, .agg #[.int .u64 (ub a.1), .int .u64 (ub a.2)], .agg #[.int .u64 (ub b.1), .int .u64 (ub b.2)]] W fun e w' => e = .returned (.tuple #[.agg #[.int .u64 (ub (bothT a b (opT 10 a b)).1), .int .u64 (ub (bothT a b (opT 10 a b)).2)], .int .i64 (bothE a b)]) ∧ Below W.heap.size W w') := hid fun W => done_any 10 (by unfold opOk; omega) a b W
          have HR : Hid (∀ W, Calls Try.prog 53 #[.int .i64 10, .bool true, .int .u64 (ub (memB a n0)), .int .u64 (ub (memB b n1))] W fun e w' => e = .returned (.tuple #[.int .u64 (ub (opN 10 (memB a n0) (memB b n1))), .int .i64 0]) ∧ W = w') := hid fun W => ralu_is 10 (by unfold opOk; omega) _ _ W
          have ht : bothT a b (opT 10 a b) = t0 := by unfold bothT; rw [hmn.out]; rfl
          have he : bothE a b = 1 := by unfold bothE; rw [hmn.out]; rfl
          rw [ht, he] at HD
          clear ht he
          have hix : ∀ W : World, (Instr.index 51 opsV (.int .i64 5)).run Try.prog W = .ok (.int .i64 10) W := fun W => by kernel_rfl
          unfold opsV at hix
          go_wp2_with fail
          refine (HD.out _).mono ?_
          rintro e w7 ⟨rfl, z7⟩
          clear p0 q0 r0 p1 q1 r1 hix
          have I7 := hid (I.next z7)
          clear I z7
          go_wp2_with fail
          refine (HR.out _).mono ?_
          rintro e w8 ⟨rfl, rfl⟩
          have I9 := hid (I7.out.next ((Below.refl _ _).alloc (Nat.le_refl _) (.cells #[.int .u64 (ub t0.1), .int .u64 (ub t0.2)] 24)))
          clear I7
          go_wp2
          go_roundw
          case rel => first | exact ⟨6, by omega, by first | rfl | go_num, I9⟩ | ((repeat apply Exists.intro); exact ⟨⟨6, by omega, by first | rfl | go_num, I9⟩, rfl⟩)
          case measure => simp [intOf]
      · have hk6 : k = 6 := by omega
        subst hk6
        have HB9 := hid HI.out.bel
        go_wp2
        go_ret
        exact ⟨rfl, HB9.out⟩
set_option maxHeartbeats 4000000 in
theorem sound_c (a b : Tn) (n0 n1 : B64) (w : World) (ha : tmay a = true) (hb : tmay b = true) : Calls Try.prog 7 #[tv a, tv b, .agg #[.int .u64 (ub n0), .int .u64 (ub n1)]] w fun e w' => e = .returned (.bool true) ∧ Below w.heap.size w w' := by
    have HAW := hid awake_true
    have HA := fun W => tMay_any a W
    have HB := fun W => tMay_any b W
    have HMa := hid fun W => member_any a n0 W
    have HMb := hid fun W => member_any b n1 W
    have HOps := hid ops_any
    unfold tv at HA HB HMa HMb ⊢
    rw [ha] at HA
    rw [hb] at HB
    have HA' := hid HA
    have HB' := hid HB
    have hxs := hid (mem_hs ha n0)
    have hys := hid (mem_hs hb n1)
    have hma := hid ha
    have hmb := hid hb
    clear HA HB ha hb
    go_enter Try.func7, Try.ntmps7
    go_wp2_with fail
    refine (HAW.out _).mono ?_
    rintro e w1 ⟨rfl, z1⟩
    have I : SdI w a b (n0, n1) w1 := ⟨((TC.new rfl).alloc _ |>.alloc _).below z1, ((TC.new (by simp)).alloc _).below z1, (TC.new (a := (n0, n1)) (by simp)).below z1, ((((Below.refl _ _).alloc (Nat.le_refl _) _).alloc (by simp) _).alloc (by simp; omega) _).trans (z1.mono (by simp; omega))⟩
    clear z1
    have p0 := I.ca.1
    have q0 := I.ca.2.1
    have r0 := I.ca.2.2
    have p1 := I.cb.1
    have q1 := I.cb.2.1
    have r1 := I.cb.2.2
    go_wp2_with fail
    refine (HA'.out _).mono ?_
    rintro e w2 ⟨rfl, z2⟩
    clear p0 q0 r0 p1 q1 r1
    replace I := I.next z2
    clear z2
    have p0 := I.ca.1
    have q0 := I.ca.2.1
    have r0 := I.ca.2.2
    have p1 := I.cb.1
    have q1 := I.cb.2.1
    have r1 := I.cb.2.2
    go_wp2_with fail
    refine (HB'.out _).mono ?_
    rintro e w3 ⟨rfl, z3⟩
    clear p0 q0 r0 p1 q1 r1
    replace I := I.next z3
    clear z3
    have p0 := I.ca.1
    have q0 := I.ca.2.1
    have r0 := I.ca.2.2
    have p1 := I.cb.1
    have q1 := I.cb.2.1
    have r1 := I.cb.2.2
    go_wp2_with fail
    have p2 := I.cn.1
    have q2 := I.cn.2.1
    have r2 := I.cn.2.2
    dsimp only at q2 r2
    obtain ⟨WV, hWV⟩ : ∃ WV : World, WV = w3 := ⟨_, rfl⟩
    rw [← hWV] at I p0 q0 r0 p1 q1 r1 p2 q2 r2 ⊢
    clear hWV
    have HI := hid I
    go_region_held3 (fun w' => w'.cell? ⟨w.heap.size, 0, none⟩ = some (.int .u64 (ub a.1)) ∧ w'.cell? ⟨w.heap.size, 1, none⟩ = some (.int .u64 (ub a.2)) ∧ w'.cell? ⟨w.heap.size + 1, 0, none⟩ = some (.int .u64 (ub b.1)) ∧ w'.cell? ⟨w.heap.size + 1, 1, none⟩ = some (.int .u64 (ub b.2)) ∧ w'.cell? ⟨w.heap.size + 1 + 1, 0, none⟩ = some (.int .u64 (ub n0)) ∧ w'.cell? ⟨w.heap.size + 1 + 1, 1, none⟩ = some (.int .u64 (ub n1)) ∧ Below WV.heap.size WV w')
      (first | (go_split_ands; exact ⟨cn bq (by assumption), cn bq (by assumption), cn bq (by assumption), cn bq (by assumption), cn bq (by assumption), cn bq (by assumption), below_next (by assumption) bq⟩) | exact ⟨cn (below_dr WV) q0, cn (below_dr WV) r0, cn (below_dr WV) q1, cn (below_dr WV) r1, cn (below_dr WV) q2, cn (below_dr WV) r2, below_dr WV⟩)
      (first | (go_at_call 50; go_split_ands; (with_reducible refine (HMa.out _).mono ?_); rintro e wq ⟨rfl, bq⟩) | (go_at_call 50; go_split_ands; (with_reducible refine (HMb.out _).mono ?_); rintro e wq ⟨rfl, bq⟩))
    go_split_ands
    obtain ⟨wn, rfl⟩ : ∃ X : World, X = wq := ⟨_, rfl⟩
    have I2 := HI.out.next (show Below WV.heap.size WV wn by assumption)
    clear HI I p0 q0 r0 p1 q1 r1 p2 q2 r2
    go_wp2_with fail
    refine (HOps.out _).mono ?_
    rintro e w5 ⟨rfl, z5⟩
    have I3 := hid (I2.next z5)
    clear I2 z5
    unfold opsV
    go_wp2_with fail
    go_loopw [33] (fun i wr => ∃ k : Nat, k ≤ 6 ∧ i = .int .i64 k ∧ Hid (SdI w a b (n0, n1) wr)) (fun i _ => 6 - (intOf i).toNat)
    case atStart => exact ⟨0, by omega, rfl, I3⟩
    case round =>
      clear I3
      obtain ⟨k, hk, rfl, HI⟩ := hrel
      obtain ⟨wo, rfl⟩ : ∃ wo : World, wo = wr := ⟨_, rfl⟩
      by_cases hlt : k < 6
      · have hc : k = 0 ∨ k = 1 ∨ k = 2 ∨ k = 3 ∨ k = 4 ∨ k = 5 := by omega
        clear hk hlt
        rcases hc with rfl | rfl | rfl | rfl | rfl | rfl
        · have I := HI.out
          have p0 := I.ca.1
          have q0 := I.ca.2.1
          have r0 := I.ca.2.2
          have p1 := I.cb.1
          have q1 := I.cb.2.1
          have r1 := I.cb.2.2
          have HD : Hid (∀ W, Calls Try.prog 52 #[.int .i64 0, .agg #[.int .u64 (ub a.1), .int .u64 (ub a.2)], .agg #[.int .u64 (ub b.1), .int .u64 (ub b.2)]] W fun e w' => e = .returned (.tuple #[.agg #[.int .u64 (ub (bothT a b (opT 0 a b)).1), .int .u64 (ub (bothT a b (opT 0 a b)).2)], .int .i64 (bothE a b)]) ∧ Below W.heap.size W w') := hid fun W => done_any 0 (by unfold opOk; omega) a b W
          have HR : Hid (∀ W, Calls Try.prog 53 #[.int .i64 0, .bool true, .int .u64 (ub (memB a n0)), .int .u64 (ub (memB b n1))] W fun e w' => e = .returned (.tuple #[.int .u64 (ub (opN 0 (memB a n0) (memB b n1))), .int .i64 0]) ∧ W = w') := hid fun W => ralu_is 0 (by unfold opOk; omega) _ _ W
          have ht : bothT a b (opT 0 a b) = opT 0 a b := by unfold bothT; rw [hma.out, hmb.out]; rfl
          have he : bothE a b = 0 := by unfold bothE; rw [hma.out, hmb.out]; rfl
          have hh : thas (opT 0 a b) (opN 0 (memB a n0) (memB b n1)) = true := op_sound (by unfold opOk; omega) hma.out hmb.out hxs.out hys.out
          have HH0 := fun W => tHas_any (opT 0 a b) (opN 0 (memB a n0) (memB b n1)) W
          rw [hh] at HH0
          rw [ht, he] at HD
          clear ht he hh
          generalize opT 0 a b = R at HD HH0
          unfold tv at HH0
          have HH := hid HH0
          clear HH0
          have hix : ∀ W : World, (Instr.index 51 opsV (.int .i64 0)).run Try.prog W = .ok (.int .i64 0) W := fun W => by kernel_rfl
          unfold opsV at hix
          go_wp2_with fail
          refine (HD.out _).mono ?_
          rintro e w7 ⟨rfl, z7⟩
          clear p0 q0 r0 p1 q1 r1 hix
          have I7 := hid (I.next z7)
          clear I z7
          go_wp2_with fail
          refine (HR.out _).mono ?_
          rintro e w8 ⟨rfl, rfl⟩
          go_wp2_with fail
          refine (HH.out _).mono ?_
          rintro e w9 ⟨rfl, z9⟩
          have I9 := hid (I7.out.next (((Below.refl _ _).alloc (Nat.le_refl _) _).trans (z9.mono (by simp))))
          clear I7 z9
          go_wp2
          go_roundw
          case rel => first | exact ⟨1, by omega, by first | rfl | go_num, I9⟩ | ((repeat apply Exists.intro); exact ⟨⟨1, by omega, by first | rfl | go_num, I9⟩, rfl⟩)
          case measure => simp [intOf]
        · have I := HI.out
          have p0 := I.ca.1
          have q0 := I.ca.2.1
          have r0 := I.ca.2.2
          have p1 := I.cb.1
          have q1 := I.cb.2.1
          have r1 := I.cb.2.2
          have HD : Hid (∀ W, Calls Try.prog 52 #[.int .i64 1, .agg #[.int .u64 (ub a.1), .int .u64 (ub a.2)], .agg #[.int .u64 (ub b.1), .int .u64 (ub b.2)]] W fun e w' => e = .returned (.tuple #[.agg #[.int .u64 (ub (bothT a b (opT 1 a b)).1), .int .u64 (ub (bothT a b (opT 1 a b)).2)], .int .i64 (bothE a b)]) ∧ Below W.heap.size W w') := hid fun W => done_any 1 (by unfold opOk; omega) a b W
          have HR : Hid (∀ W, Calls Try.prog 53 #[.int .i64 1, .bool true, .int .u64 (ub (memB a n0)), .int .u64 (ub (memB b n1))] W fun e w' => e = .returned (.tuple #[.int .u64 (ub (opN 1 (memB a n0) (memB b n1))), .int .i64 0]) ∧ W = w') := hid fun W => ralu_is 1 (by unfold opOk; omega) _ _ W
          have ht : bothT a b (opT 1 a b) = opT 1 a b := by unfold bothT; rw [hma.out, hmb.out]; rfl
          have he : bothE a b = 0 := by unfold bothE; rw [hma.out, hmb.out]; rfl
          have hh : thas (opT 1 a b) (opN 1 (memB a n0) (memB b n1)) = true := op_sound (by unfold opOk; omega) hma.out hmb.out hxs.out hys.out
          have HH0 := fun W => tHas_any (opT 1 a b) (opN 1 (memB a n0) (memB b n1)) W
          rw [hh] at HH0
          rw [ht, he] at HD
          clear ht he hh
          generalize opT 1 a b = R at HD HH0
          unfold tv at HH0
          have HH := hid HH0
          clear HH0
          have hix : ∀ W : World, (Instr.index 51 opsV (.int .i64 1)).run Try.prog W = .ok (.int .i64 1) W := fun W => by kernel_rfl
          unfold opsV at hix
          go_wp2_with fail
          refine (HD.out _).mono ?_
          rintro e w7 ⟨rfl, z7⟩
          clear p0 q0 r0 p1 q1 r1 hix
          have I7 := hid (I.next z7)
          clear I z7
          go_wp2_with fail
          refine (HR.out _).mono ?_
          rintro e w8 ⟨rfl, rfl⟩
          go_wp2_with fail
          refine (HH.out _).mono ?_
          rintro e w9 ⟨rfl, z9⟩
          have I9 := hid (I7.out.next (((Below.refl _ _).alloc (Nat.le_refl _) _).trans (z9.mono (by simp))))
          clear I7 z9
          go_wp2
          go_roundw
          case rel => first | exact ⟨2, by omega, by first | rfl | go_num, I9⟩ | ((repeat apply Exists.intro); exact ⟨⟨2, by omega, by first | rfl | go_num, I9⟩, rfl⟩)
          case measure => simp [intOf]
        · have I := HI.out
          have p0 := I.ca.1
          have q0 := I.ca.2.1
          have r0 := I.ca.2.2
          have p1 := I.cb.1
          have q1 := I.cb.2.1
          have r1 := I.cb.2.2
          have HD : Hid (∀ W, Calls Try.prog 52 #[.int .i64 2, .agg #[.int .u64 (ub a.1), .int .u64 (ub a.2)], .agg #[.int .u64 (ub b.1), .int .u64 (ub b.2)]] W fun e w' => e = .returned (.tuple #[.agg #[.int .u64 (ub (bothT a b (opT 2 a b)).1), .int .u64 (ub (bothT a b (opT 2 a b)).2)], .int .i64 (bothE a b)]) ∧ Below W.heap.size W w') := hid fun W => done_any 2 (by unfold opOk; omega) a b W
          have HR : Hid (∀ W, Calls Try.prog 53 #[.int .i64 2, .bool true, .int .u64 (ub (memB a n0)), .int .u64 (ub (memB b n1))] W fun e w' => e = .returned (.tuple #[.int .u64 (ub (opN 2 (memB a n0) (memB b n1))), .int .i64 0]) ∧ W = w') := hid fun W => ralu_is 2 (by unfold opOk; omega) _ _ W
          have ht : bothT a b (opT 2 a b) = opT 2 a b := by unfold bothT; rw [hma.out, hmb.out]; rfl
          have he : bothE a b = 0 := by unfold bothE; rw [hma.out, hmb.out]; rfl
          have hh : thas (opT 2 a b) (opN 2 (memB a n0) (memB b n1)) = true := op_sound (by unfold opOk; omega) hma.out hmb.out hxs.out hys.out
          have HH0 := fun W => tHas_any (opT 2 a b) (opN 2 (memB a n0) (memB b n1)) W
          rw [hh] at HH0
          rw [ht, he] at HD
          clear ht he hh
          generalize opT 2 a b = R at HD HH0
          unfold tv at HH0
          have HH := hid HH0
          clear HH0
          have hix : ∀ W : World, (Instr.index 51 opsV (.int .i64 2)).run Try.prog W = .ok (.int .i64 2) W := fun W => by kernel_rfl
          unfold opsV at hix
          go_wp2_with fail
          refine (HD.out _).mono ?_
          rintro e w7 ⟨rfl, z7⟩
          clear p0 q0 r0 p1 q1 r1 hix
          have I7 := hid (I.next z7)
          clear I z7
          go_wp2_with fail
          refine (HR.out _).mono ?_
          rintro e w8 ⟨rfl, rfl⟩
          go_wp2_with fail
          refine (HH.out _).mono ?_
          rintro e w9 ⟨rfl, z9⟩
          have I9 := hid (I7.out.next (((Below.refl _ _).alloc (Nat.le_refl _) _).trans (z9.mono (by simp))))
          clear I7 z9
          go_wp2
          go_roundw
          case rel => first | exact ⟨3, by omega, by first | rfl | go_num, I9⟩ | ((repeat apply Exists.intro); exact ⟨⟨3, by omega, by first | rfl | go_num, I9⟩, rfl⟩)
          case measure => simp [intOf]
        · have I := HI.out
          have p0 := I.ca.1
          have q0 := I.ca.2.1
          have r0 := I.ca.2.2
          have p1 := I.cb.1
          have q1 := I.cb.2.1
          have r1 := I.cb.2.2
          have HD : Hid (∀ W, Calls Try.prog 52 #[.int .i64 4, .agg #[.int .u64 (ub a.1), .int .u64 (ub a.2)], .agg #[.int .u64 (ub b.1), .int .u64 (ub b.2)]] W fun e w' => e = .returned (.tuple #[.agg #[.int .u64 (ub (bothT a b (opT 4 a b)).1), .int .u64 (ub (bothT a b (opT 4 a b)).2)], .int .i64 (bothE a b)]) ∧ Below W.heap.size W w') := hid fun W => done_any 4 (by unfold opOk; omega) a b W
          have HR : Hid (∀ W, Calls Try.prog 53 #[.int .i64 4, .bool true, .int .u64 (ub (memB a n0)), .int .u64 (ub (memB b n1))] W fun e w' => e = .returned (.tuple #[.int .u64 (ub (opN 4 (memB a n0) (memB b n1))), .int .i64 0]) ∧ W = w') := hid fun W => ralu_is 4 (by unfold opOk; omega) _ _ W
          have ht : bothT a b (opT 4 a b) = opT 4 a b := by unfold bothT; rw [hma.out, hmb.out]; rfl
          have he : bothE a b = 0 := by unfold bothE; rw [hma.out, hmb.out]; rfl
          have hh : thas (opT 4 a b) (opN 4 (memB a n0) (memB b n1)) = true := op_sound (by unfold opOk; omega) hma.out hmb.out hxs.out hys.out
          have HH0 := fun W => tHas_any (opT 4 a b) (opN 4 (memB a n0) (memB b n1)) W
          rw [hh] at HH0
          rw [ht, he] at HD
          clear ht he hh
          generalize opT 4 a b = R at HD HH0
          unfold tv at HH0
          have HH := hid HH0
          clear HH0
          have hix : ∀ W : World, (Instr.index 51 opsV (.int .i64 3)).run Try.prog W = .ok (.int .i64 4) W := fun W => by kernel_rfl
          unfold opsV at hix
          go_wp2_with fail
          refine (HD.out _).mono ?_
          rintro e w7 ⟨rfl, z7⟩
          clear p0 q0 r0 p1 q1 r1 hix
          have I7 := hid (I.next z7)
          clear I z7
          go_wp2_with fail
          refine (HR.out _).mono ?_
          rintro e w8 ⟨rfl, rfl⟩
          go_wp2_with fail
          refine (HH.out _).mono ?_
          rintro e w9 ⟨rfl, z9⟩
          have I9 := hid (I7.out.next (((Below.refl _ _).alloc (Nat.le_refl _) _).trans (z9.mono (by simp))))
          clear I7 z9
          go_wp2
          go_roundw
          case rel => first | exact ⟨4, by omega, by first | rfl | go_num, I9⟩ | ((repeat apply Exists.intro); exact ⟨⟨4, by omega, by first | rfl | go_num, I9⟩, rfl⟩)
          case measure => simp [intOf]
        · have I := HI.out
          have p0 := I.ca.1
          have q0 := I.ca.2.1
          have r0 := I.ca.2.2
          have p1 := I.cb.1
          have q1 := I.cb.2.1
          have r1 := I.cb.2.2
          have HD : Hid (∀ W, Calls Try.prog 52 #[.int .i64 5, .agg #[.int .u64 (ub a.1), .int .u64 (ub a.2)], .agg #[.int .u64 (ub b.1), .int .u64 (ub b.2)]] W fun e w' => e = .returned (.tuple #[.agg #[.int .u64 (ub (bothT a b (opT 5 a b)).1), .int .u64 (ub (bothT a b (opT 5 a b)).2)], .int .i64 (bothE a b)]) ∧ Below W.heap.size W w') := hid fun W => done_any 5 (by unfold opOk; omega) a b W
          have HR : Hid (∀ W, Calls Try.prog 53 #[.int .i64 5, .bool true, .int .u64 (ub (memB a n0)), .int .u64 (ub (memB b n1))] W fun e w' => e = .returned (.tuple #[.int .u64 (ub (opN 5 (memB a n0) (memB b n1))), .int .i64 0]) ∧ W = w') := hid fun W => ralu_is 5 (by unfold opOk; omega) _ _ W
          have ht : bothT a b (opT 5 a b) = opT 5 a b := by unfold bothT; rw [hma.out, hmb.out]; rfl
          have he : bothE a b = 0 := by unfold bothE; rw [hma.out, hmb.out]; rfl
          have hh : thas (opT 5 a b) (opN 5 (memB a n0) (memB b n1)) = true := op_sound (by unfold opOk; omega) hma.out hmb.out hxs.out hys.out
          have HH0 := fun W => tHas_any (opT 5 a b) (opN 5 (memB a n0) (memB b n1)) W
          rw [hh] at HH0
          rw [ht, he] at HD
          clear ht he hh
          generalize opT 5 a b = R at HD HH0
          unfold tv at HH0
          have HH := hid HH0
          clear HH0
          have hix : ∀ W : World, (Instr.index 51 opsV (.int .i64 4)).run Try.prog W = .ok (.int .i64 5) W := fun W => by kernel_rfl
          unfold opsV at hix
          go_wp2_with fail
          refine (HD.out _).mono ?_
          rintro e w7 ⟨rfl, z7⟩
          clear p0 q0 r0 p1 q1 r1 hix
          have I7 := hid (I.next z7)
          clear I z7
          go_wp2_with fail
          refine (HR.out _).mono ?_
          rintro e w8 ⟨rfl, rfl⟩
          go_wp2_with fail
          refine (HH.out _).mono ?_
          rintro e w9 ⟨rfl, z9⟩
          have I9 := hid (I7.out.next (((Below.refl _ _).alloc (Nat.le_refl _) _).trans (z9.mono (by simp))))
          clear I7 z9
          go_wp2
          go_roundw
          case rel => first | exact ⟨5, by omega, by first | rfl | go_num, I9⟩ | ((repeat apply Exists.intro); exact ⟨⟨5, by omega, by first | rfl | go_num, I9⟩, rfl⟩)
          case measure => simp [intOf]
        · have I := HI.out
          have p0 := I.ca.1
          have q0 := I.ca.2.1
          have r0 := I.ca.2.2
          have p1 := I.cb.1
          have q1 := I.cb.2.1
          have r1 := I.cb.2.2
          have HD : Hid (∀ W, Calls Try.prog 52 #[.int .i64 10, .agg #[.int .u64 (ub a.1), .int .u64 (ub a.2)], .agg #[.int .u64 (ub b.1), .int .u64 (ub b.2)]] W fun e w' => e = .returned (.tuple #[.agg #[.int .u64 (ub (bothT a b (opT 10 a b)).1), .int .u64 (ub (bothT a b (opT 10 a b)).2)], .int .i64 (bothE a b)]) ∧ Below W.heap.size W w') := hid fun W => done_any 10 (by unfold opOk; omega) a b W
          have HR : Hid (∀ W, Calls Try.prog 53 #[.int .i64 10, .bool true, .int .u64 (ub (memB a n0)), .int .u64 (ub (memB b n1))] W fun e w' => e = .returned (.tuple #[.int .u64 (ub (opN 10 (memB a n0) (memB b n1))), .int .i64 0]) ∧ W = w') := hid fun W => ralu_is 10 (by unfold opOk; omega) _ _ W
          have ht : bothT a b (opT 10 a b) = opT 10 a b := by unfold bothT; rw [hma.out, hmb.out]; rfl
          have he : bothE a b = 0 := by unfold bothE; rw [hma.out, hmb.out]; rfl
          have hh : thas (opT 10 a b) (opN 10 (memB a n0) (memB b n1)) = true := op_sound (by unfold opOk; omega) hma.out hmb.out hxs.out hys.out
          have HH0 := fun W => tHas_any (opT 10 a b) (opN 10 (memB a n0) (memB b n1)) W
          rw [hh] at HH0
          rw [ht, he] at HD
          clear ht he hh
          generalize opT 10 a b = R at HD HH0
          unfold tv at HH0
          have HH := hid HH0
          clear HH0
          have hix : ∀ W : World, (Instr.index 51 opsV (.int .i64 5)).run Try.prog W = .ok (.int .i64 10) W := fun W => by kernel_rfl
          unfold opsV at hix
          go_wp2_with fail
          refine (HD.out _).mono ?_
          rintro e w7 ⟨rfl, z7⟩
          clear p0 q0 r0 p1 q1 r1 hix
          have I7 := hid (I.next z7)
          clear I z7
          go_wp2_with fail
          refine (HR.out _).mono ?_
          rintro e w8 ⟨rfl, rfl⟩
          go_wp2_with fail
          refine (HH.out _).mono ?_
          rintro e w9 ⟨rfl, z9⟩
          have I9 := hid (I7.out.next (((Below.refl _ _).alloc (Nat.le_refl _) _).trans (z9.mono (by simp))))
          clear I7 z9
          go_wp2
          go_roundw
          case rel => first | exact ⟨6, by omega, by first | rfl | go_num, I9⟩ | ((repeat apply Exists.intro); exact ⟨⟨6, by omega, by first | rfl | go_num, I9⟩, rfl⟩)
          case measure => simp [intOf]
      · have hk6 : k = 6 := by omega
        subst hk6
        have HB9 := hid HI.out.bel
        go_wp2
        go_ret
        exact ⟨rfl, HB9.out⟩
theorem sound_walk (a b : Tn) (n0 n1 : B64) (w : World) : Calls Try.prog 7 #[tv a, tv b, .agg #[.int .u64 (ub n0), .int .u64 (ub n1)]] w fun e w' => e = .returned (.bool true) ∧ Below w.heap.size w w' := by
  cases ha : tmay a
  · exact sound_a a b n0 n1 w ha
  cases hb : tmay b
  · exact sound_b a b n0 n1 w ha hb
  · exact sound_c a b n0 n1 w ha hb
end Go.Proofs.Ytbinbjfpjielkaa
