/-
  Contracts of the document's MaySlot, May (layer 12).
-/
import Derived.Test.YtodmikjpmcabiaaJRdA
import Derived.Test.YtodmikjpmcabiaaJStK
import Derived.Deep.MidRow
namespace Go.Proofs.Ytodmikjpmcabiaa
set_option linter.unusedSimpArgs false
set_option linter.unusedVariables false
set_option maxRecDepth 100000
set_option maxRecDepth 100000
open Go.ChangeShapes Go.WideShapes Go.ChangeAt Go.RowKit Me

theorem rMay_none {r : Rg} (h : r.k = 0) : rMay r = rB r r0 := by
  unfold rMay
  rw [if_pos (.inl h)]
  obtain ⟨k, l, m, s, lo, hi⟩ := r
  obtain rfl : k = 0 := h
  rfl
theorem rB_kind {r : Rg} (h : r.k ≠ 0) : rB r r0 = false := by
  cases e : rB r r0
  · rfl
  · exact absurd (by rw [(rB_iff _ _).1 e]; rfl) h
set_option maxHeartbeats 4000000 in
theorem rMaySlot_any (x : Sk) (hx : ROk x.r) (w : World) : Calls Try.prog 82 #[kV x] w fun e w' => e = .returned (.bool (kMay x)) ∧ Below w.heap.size w w' := by
  have E := fun W => eq_r x.r r0 hx r0_ok W
  have M := fun W => rMayReg_any x.r hx W
  have BL := bld_r0
  have hc : (vb x.h == 255) = (x.h == 255#8) := vb_eqi x.h 255#8
  unfold kMay
  by_cases h0 : x.r.k = 0
  · have ek : rMay x.r = rB x.r r0 := rMay_none h0
    rw [show (rB x.r r0 || (rMay x.r && (x.h == 255#8))) = rB x.r r0 by rw [ek]; cases rB x.r r0 <;> simp]
    clear ek M hc
    generalize rB x.r r0 = q at *
    obtain ⟨h, k, l, m, s, lo, hi⟩ := x
    obtain rfl : k = 0 := h0
    dsimp only at *
    unfold rV at E BL
    simp only [r0, sc0, t0, ub00] at E BL
    unfold kV
    dsimp only

    go_enter Try.func82, Try.ntmps82
    go_wp2
    go_ret
    exact ⟨rfl, bel_alloc (Below.refl _ _)⟩
  · rw [rB_kind h0, Bool.false_or]
    clear E
    have e0 : (x.r.k == 0) = false := by simpa using h0

    generalize (x.h == 255#8) = hh at *
    generalize rMay x.r = mm at *
    obtain ⟨h, r⟩ := x
    dsimp only at *
    unfold rV at M
    unfold kV
    dsimp only
    replace M := hid M
    cases hh
    · rw [Bool.and_false]
      go_enter Try.func82, Try.ntmps82
      go_wp2
      go_ret
      exact ⟨rfl, bel_alloc (Below.refl _ _)⟩
    · rw [Bool.and_true]
      go_enter Try.func82, Try.ntmps82
      go_wp2_with fail
      refine (M.out _).mono ?_
      rintro e w1 ⟨rfl, z⟩
      have B := below_next (bel_alloc (Below.refl w.heap.size w)) z
      clear z
      go_wp2
      go_ret
      exact ⟨rfl, B⟩
theorem wpList_load_gx {P : Program} {ops : Array Oper} {rest : List Oper} {op : Oper} {a : Act} {w : World} {Q : Exit → Act → World → Prop} (hw : Region.wanted op (yielded ops a.tmps) = true) (ty : TypeId) (x : Operand) (ho : op.op = .load ty x)
    (b o : Nat) (hx : a.eval x = .pointer (some ⟨b, o, none⟩)) (cs : List Value) (d : TypeDesc) (hc : w.rangeAt b o cs)
    (hu : P.underlying ty = some d) (hd : d.isRow = true) (hi : (P.info? ty).map (·.size) = some cs.length)
    (h : wpList P ops Q rest (a.put op.dst (.agg cs.toArray)) w) : wpList P ops Q (op :: rest) a w := by
  rw [wpList, if_pos hw]
  exact .inl (wp_load_mid ty x ho b o hx cs d hc hu hd hi h)
def upB (n : Nat) (f : Nat → Bool) : Bool := (List.range n).all f
theorem upB_succ (n : Nat) (f : Nat → Bool) : upB (n + 1) f = (upB n f && f n) := by unfold upB; rw [List.range_succ, List.all_append]; simp
theorem upB_zero (f : Nat → Bool) : upB 0 f = true := rfl
set_option maxHeartbeats 16000000 in
theorem rMayS_any (S : St) (hS : StOk S) (w : World) : Calls Try.prog 34 #[stV S] w fun e w' => e = .returned (.bool (sMay S)) ∧ Below w.heap.size w w' := by
  have HR : Hid (∀ k, k < 11 → ∀ W, Calls Try.prog 81 #[.agg (rC (S.rg k)).toArray] W fun e w' => e = .returned (.bool (rMay (S.rg k))) ∧ Below W.heap.size W w') := fun k hk W => rMayReg_any (S.rg k) (hS.1 k hk) W
  have HK : Hid (∀ k, k < 64 → ∀ W, Calls Try.prog 82 #[.agg (kC (S.sk k)).toArray] W fun e w' => e = .returned (.bool (kMay (S.sk k))) ∧ Below W.heap.size W w') := fun k hk W => rMaySlot_any (S.sk k) (hS.2.1 k hk) W
  have I0 := hid (RwI.first w (stC S) 36)
  have hr : sMay S = ((lenB S.p && upB 11 (fun k => rMay (S.rg k))) && upB 64 (fun k => kMay (S.sk k))) := by
    unfold sMay allR allK upB
    generalize (List.range 11).all (fun k => rMay (S.rg k)) = a
    generalize (List.range 64).all (fun k => kMay (S.sk k)) = b
    generalize lenB S.p = c
    cases a <;> cases b <;> cases c <;> rfl
  generalize hRR : sMay S = R at hr ⊢
  have HRR := hid hr
  obtain ⟨CF, hCF⟩ : ∃ CF, (stC S).toArray = CF := ⟨_, rfl⟩
  have hp0 : CF[739]? = some (.int .i64 S.p) := by rw [← hCF]; have := stC_pkt S; simpa using this
  unfold stV
  rw [hCF] at I0 ⊢
  clear hS hr hRR hCF
  have hLx : ∀ q0 : Bool, q0 = lenB S.p → Hid (q0 = lenB S.p) := fun _ h => h
  by_cases g1 : 0 ≤ S.p
  · by_cases g2 : S.p ≤ 65535
    · have e0 : true = lenB S.p := by unfold lenB; rw [decide_eq_true g1, decide_eq_true g2]; rfl
      have hQ := hLx true e0
      clear e0
      clear hLx
      go_enter Try.func34, Try.ntmps34
      refine wp_seq ?_
      refine Code.wp_mono (Q := CutX fun a' W' => (RwI w.heap.size w W' w.heap.size (stC S) ∧ W'.cell? ⟨w.heap.size, 739, none⟩ = some (.int .i64 S.p)) ∧ a' = ⟨#[.agg CF, .pointer (some ⟨w.heap.size, 0, none⟩), .bool false, undef, undef, undef, undef, undef, undef, undef, undef, undef, undef, undef, undef, undef, undef, undef, undef, undef, undef, undef, undef, undef, undef, undef, undef, undef, undef, undef, undef, undef, undef, undef, undef, undef, undef, undef, undef], []⟩) (CutX.imp ?_) ?_
      rotate_left
      · go_wp2
        exact ⟨⟨I0.out, range_pkt I0.out.r0⟩, rfl⟩
      clear I0 hp0
      rintro a' W0 ⟨⟨I1, hp⟩, rfl⟩
      have I0 := hid I1
      have hl := I1.sz
      clear I1
      go_wp2_with fail
      clear hp hl
      go_loopw [3, 4] (fun o i w' => ∃ (k : Nat) (q : Bool), k ≤ 11 ∧ o = .bool q ∧ i = .int .i64 k ∧ Hid (q = (lenB S.p && upB k (fun j => rMay (S.rg j)))) ∧ Hid (RwI w.heap.size w w' w.heap.size (stC S))) (fun o i _ => 11 - (intOf i).toNat)
      case atStart => exact ⟨0, _, by omega, rfl, rfl, hid (by rw [upB_zero, Bool.and_true]; exact hQ.out), I0⟩
      case round =>
        obtain ⟨k, q, hk, rfl, rfl, hq, I0⟩ := hrel
        by_cases hlt : k < 11
        · have hlt' : (k : Int) < 11 := by omega
          rcases (show q = false ∨ q = true by cases q <;> simp) with rfl | rfl
          · go_wp2
            go_roundw
            case rel => first | exact ⟨k + 1, false, by omega, rfl, by go_num, hid (by rw [upB_succ k, ← Bool.and_assoc, ← hq.out]; rfl), I0⟩ | ((repeat apply Exists.intro); exact ⟨⟨k + 1, false, by omega, rfl, by go_num, hid (by rw [upB_succ k, ← Bool.and_assoc, ← hq.out]; rfl), I0⟩, rfl⟩)
            case measure => simp [intOf]; omega
          · have hrk : Hid (wr.rangeAt w.heap.size (k * 9) (rC (S.rg k))) := hid (range_reg I0.out.r0 k hlt)
            have HS : Hid ((Try.prog.info? 30).map (·.size) = some (rC (S.rg k)).length) := hid (by rw [rC_len]; exact yinfo30)
            have HKk := hid (HR.out k hlt)
            go_wp2_with (refine wpList_load_gx (op := ⟨_, .load 30 _, _, _, _, _⟩) (by rfl) 30 _ rfl w.heap.size (k * 9) rfl (rC (S.rg k)) _ hrk.out Try.underlying30 rfl HS.out ?_)
            refine (HKk.out _).mono ?_
            rintro e w1 ⟨rfl, b1⟩
            have I2 := hid (I0.out.next b1 (Nat.le_of_lt I0.out.sz))
            clear b1 hrk
            have hq2 : Hid (rMay (S.rg k) = (lenB S.p && upB (k + 1) (fun j => rMay (S.rg j)))) := hid (by rw [upB_succ k, ← Bool.and_assoc, ← hq.out]; rfl)
            go_wp2
            go_roundw
            case rel => first | exact ⟨k + 1, _, by omega, rfl, by go_num, hq2, I2⟩ | ((repeat apply Exists.intro); exact ⟨⟨k + 1, _, by omega, rfl, by go_num, hq2, I2⟩, rfl⟩)
            case measure => simp [intOf]; omega
        · have hk8 : k = 11 := by omega
          subst hk8
          clear hlt hk
          clear HR hQ
          have hQ := hq
          clear hq
          go_wp2_with fail
          go_loopw [3, 5] (fun o i w' => ∃ (k : Nat) (q : Bool), k ≤ 64 ∧ o = .bool q ∧ i = .int .i64 k ∧ Hid (q = ((lenB S.p && upB 11 (fun j => rMay (S.rg j))) && upB k (fun j => kMay (S.sk j)))) ∧ Hid (RwI w.heap.size w w' w.heap.size (stC S))) (fun o i _ => 64 - (intOf i).toNat)
          case atStart => exact ⟨0, _, by omega, rfl, rfl, hid (by rw [upB_zero, Bool.and_true]; exact hQ.out), I0⟩
          case round =>
            obtain ⟨k, q, hk, rfl, rfl, hq, I0⟩ := hrel
            by_cases hlt : k < 64
            · have hlt' : (k : Int) < 64 := by omega
              rcases (show q = false ∨ q = true by cases q <;> simp) with rfl | rfl
              · go_wp2
                go_roundw
                case rel => first | exact ⟨k + 1, false, by omega, rfl, by go_num, hid (by rw [upB_succ k, ← Bool.and_assoc, ← hq.out]; rfl), I0⟩ | ((repeat apply Exists.intro); exact ⟨⟨k + 1, false, by omega, rfl, by go_num, hid (by rw [upB_succ k, ← Bool.and_assoc, ← hq.out]; rfl), I0⟩, rfl⟩)
                case measure => simp [intOf]; omega
              · have hrk : Hid (wr.rangeAt w.heap.size (99 + k * 10) (kC (S.sk k))) := hid (range_slot I0.out.r0 k hlt)
                have HS : Hid ((Try.prog.info? 33).map (·.size) = some (kC (S.sk k)).length) := hid (by rw [kC_len]; exact yinfo33)
                have HKk := hid (HK.out k hlt)
                go_wp2_with (refine wpList_load_gx (op := ⟨_, .load 33 _, _, _, _, _⟩) (by rfl) 33 _ rfl w.heap.size (99 + k * 10) rfl (kC (S.sk k)) _ hrk.out Try.underlying33 rfl HS.out ?_)
                refine (HKk.out _).mono ?_
                rintro e w1 ⟨rfl, b1⟩
                have I2 := hid (I0.out.next b1 (Nat.le_of_lt I0.out.sz))
                clear b1 hrk
                have hq2 : Hid (kMay (S.sk k) = ((lenB S.p && upB 11 (fun j => rMay (S.rg j))) && upB (k + 1) (fun j => kMay (S.sk j)))) := hid (by rw [upB_succ k, ← Bool.and_assoc, ← hq.out]; rfl)
                go_wp2
                go_roundw
                case rel => first | exact ⟨k + 1, _, by omega, rfl, by go_num, hq2, I2⟩ | ((repeat apply Exists.intro); exact ⟨⟨k + 1, _, by omega, rfl, by go_num, hq2, I2⟩, rfl⟩)
                case measure => simp [intOf]; omega
            · have hk8 : k = 64 := by omega
              subst hk8
              clear hlt hk
              clear HK hQ
              go_wp2
              go_ret
              refine ⟨Me.ret_val ?_, I0.out.bel⟩
              rw [HRR.out, ← hq.out]
              rfl
    · have e0 : false = lenB S.p := by unfold lenB; rw [decide_eq_false g2, Bool.and_false]
      have hQ := hLx false e0
      clear e0
      clear hLx
      go_enter Try.func34, Try.ntmps34
      refine wp_seq ?_
      refine Code.wp_mono (Q := CutX fun a' W' => (RwI w.heap.size w W' w.heap.size (stC S) ∧ W'.cell? ⟨w.heap.size, 739, none⟩ = some (.int .i64 S.p)) ∧ a' = ⟨#[.agg CF, .pointer (some ⟨w.heap.size, 0, none⟩), .bool false, undef, undef, undef, undef, undef, undef, undef, undef, undef, undef, undef, undef, undef, undef, undef, undef, undef, undef, undef, undef, undef, undef, undef, undef, undef, undef, undef, undef, undef, undef, undef, undef, undef, undef, undef, undef], []⟩) (CutX.imp ?_) ?_
      rotate_left
      · go_wp2
        exact ⟨⟨I0.out, range_pkt I0.out.r0⟩, rfl⟩
      clear I0 hp0
      rintro a' W0 ⟨⟨I1, hp⟩, rfl⟩
      have I0 := hid I1
      have hl := I1.sz
      clear I1
      go_wp2_with fail
      clear hp hl
      go_loopw [3, 4] (fun o i w' => ∃ (k : Nat) (q : Bool), k ≤ 11 ∧ o = .bool q ∧ i = .int .i64 k ∧ Hid (q = (lenB S.p && upB k (fun j => rMay (S.rg j)))) ∧ Hid (RwI w.heap.size w w' w.heap.size (stC S))) (fun o i _ => 11 - (intOf i).toNat)
      case atStart => exact ⟨0, _, by omega, rfl, rfl, hid (by rw [upB_zero, Bool.and_true]; exact hQ.out), I0⟩
      case round =>
        obtain ⟨k, q, hk, rfl, rfl, hq, I0⟩ := hrel
        by_cases hlt : k < 11
        · have hlt' : (k : Int) < 11 := by omega
          rcases (show q = false ∨ q = true by cases q <;> simp) with rfl | rfl
          · go_wp2
            go_roundw
            case rel => first | exact ⟨k + 1, false, by omega, rfl, by go_num, hid (by rw [upB_succ k, ← Bool.and_assoc, ← hq.out]; rfl), I0⟩ | ((repeat apply Exists.intro); exact ⟨⟨k + 1, false, by omega, rfl, by go_num, hid (by rw [upB_succ k, ← Bool.and_assoc, ← hq.out]; rfl), I0⟩, rfl⟩)
            case measure => simp [intOf]; omega
          · have hrk : Hid (wr.rangeAt w.heap.size (k * 9) (rC (S.rg k))) := hid (range_reg I0.out.r0 k hlt)
            have HS : Hid ((Try.prog.info? 30).map (·.size) = some (rC (S.rg k)).length) := hid (by rw [rC_len]; exact yinfo30)
            have HKk := hid (HR.out k hlt)
            go_wp2_with (refine wpList_load_gx (op := ⟨_, .load 30 _, _, _, _, _⟩) (by rfl) 30 _ rfl w.heap.size (k * 9) rfl (rC (S.rg k)) _ hrk.out Try.underlying30 rfl HS.out ?_)
            refine (HKk.out _).mono ?_
            rintro e w1 ⟨rfl, b1⟩
            have I2 := hid (I0.out.next b1 (Nat.le_of_lt I0.out.sz))
            clear b1 hrk
            have hq2 : Hid (rMay (S.rg k) = (lenB S.p && upB (k + 1) (fun j => rMay (S.rg j)))) := hid (by rw [upB_succ k, ← Bool.and_assoc, ← hq.out]; rfl)
            go_wp2
            go_roundw
            case rel => first | exact ⟨k + 1, _, by omega, rfl, by go_num, hq2, I2⟩ | ((repeat apply Exists.intro); exact ⟨⟨k + 1, _, by omega, rfl, by go_num, hq2, I2⟩, rfl⟩)
            case measure => simp [intOf]; omega
        · have hk8 : k = 11 := by omega
          subst hk8
          clear hlt hk
          clear HR hQ
          have hQ := hq
          clear hq
          go_wp2_with fail
          go_loopw [3, 5] (fun o i w' => ∃ (k : Nat) (q : Bool), k ≤ 64 ∧ o = .bool q ∧ i = .int .i64 k ∧ Hid (q = ((lenB S.p && upB 11 (fun j => rMay (S.rg j))) && upB k (fun j => kMay (S.sk j)))) ∧ Hid (RwI w.heap.size w w' w.heap.size (stC S))) (fun o i _ => 64 - (intOf i).toNat)
          case atStart => exact ⟨0, _, by omega, rfl, rfl, hid (by rw [upB_zero, Bool.and_true]; exact hQ.out), I0⟩
          case round =>
            obtain ⟨k, q, hk, rfl, rfl, hq, I0⟩ := hrel
            by_cases hlt : k < 64
            · have hlt' : (k : Int) < 64 := by omega
              rcases (show q = false ∨ q = true by cases q <;> simp) with rfl | rfl
              · go_wp2
                go_roundw
                case rel => first | exact ⟨k + 1, false, by omega, rfl, by go_num, hid (by rw [upB_succ k, ← Bool.and_assoc, ← hq.out]; rfl), I0⟩ | ((repeat apply Exists.intro); exact ⟨⟨k + 1, false, by omega, rfl, by go_num, hid (by rw [upB_succ k, ← Bool.and_assoc, ← hq.out]; rfl), I0⟩, rfl⟩)
                case measure => simp [intOf]; omega
              · have hrk : Hid (wr.rangeAt w.heap.size (99 + k * 10) (kC (S.sk k))) := hid (range_slot I0.out.r0 k hlt)
                have HS : Hid ((Try.prog.info? 33).map (·.size) = some (kC (S.sk k)).length) := hid (by rw [kC_len]; exact yinfo33)
                have HKk := hid (HK.out k hlt)
                go_wp2_with (refine wpList_load_gx (op := ⟨_, .load 33 _, _, _, _, _⟩) (by rfl) 33 _ rfl w.heap.size (99 + k * 10) rfl (kC (S.sk k)) _ hrk.out Try.underlying33 rfl HS.out ?_)
                refine (HKk.out _).mono ?_
                rintro e w1 ⟨rfl, b1⟩
                have I2 := hid (I0.out.next b1 (Nat.le_of_lt I0.out.sz))
                clear b1 hrk
                have hq2 : Hid (kMay (S.sk k) = ((lenB S.p && upB 11 (fun j => rMay (S.rg j))) && upB (k + 1) (fun j => kMay (S.sk j)))) := hid (by rw [upB_succ k, ← Bool.and_assoc, ← hq.out]; rfl)
                go_wp2
                go_roundw
                case rel => first | exact ⟨k + 1, _, by omega, rfl, by go_num, hq2, I2⟩ | ((repeat apply Exists.intro); exact ⟨⟨k + 1, _, by omega, rfl, by go_num, hq2, I2⟩, rfl⟩)
                case measure => simp [intOf]; omega
            · have hk8 : k = 64 := by omega
              subst hk8
              clear hlt hk
              clear HK hQ
              go_wp2
              go_ret
              refine ⟨Me.ret_val ?_, I0.out.bel⟩
              rw [HRR.out, ← hq.out]
              rfl
  · have e0 : false = lenB S.p := by unfold lenB; rw [decide_eq_false g1, Bool.false_and]
    have hQ := hLx false e0
    clear e0
    clear hLx
    go_enter Try.func34, Try.ntmps34
    refine wp_seq ?_
    refine Code.wp_mono (Q := CutX fun a' W' => (RwI w.heap.size w W' w.heap.size (stC S) ∧ W'.cell? ⟨w.heap.size, 739, none⟩ = some (.int .i64 S.p)) ∧ a' = ⟨#[.agg CF, .pointer (some ⟨w.heap.size, 0, none⟩), .bool false, undef, undef, undef, undef, undef, undef, undef, undef, undef, undef, undef, undef, undef, undef, undef, undef, undef, undef, undef, undef, undef, undef, undef, undef, undef, undef, undef, undef, undef, undef, undef, undef, undef, undef, undef, undef], []⟩) (CutX.imp ?_) ?_
    rotate_left
    · go_wp2
      exact ⟨⟨I0.out, range_pkt I0.out.r0⟩, rfl⟩
    clear I0 hp0
    rintro a' W0 ⟨⟨I1, hp⟩, rfl⟩
    have I0 := hid I1
    have hl := I1.sz
    clear I1
    go_wp2_with fail
    clear hp hl
    go_loopw [3, 4] (fun o i w' => ∃ (k : Nat) (q : Bool), k ≤ 11 ∧ o = .bool q ∧ i = .int .i64 k ∧ Hid (q = (lenB S.p && upB k (fun j => rMay (S.rg j)))) ∧ Hid (RwI w.heap.size w w' w.heap.size (stC S))) (fun o i _ => 11 - (intOf i).toNat)
    case atStart => exact ⟨0, _, by omega, rfl, rfl, hid (by rw [upB_zero, Bool.and_true]; exact hQ.out), I0⟩
    case round =>
      obtain ⟨k, q, hk, rfl, rfl, hq, I0⟩ := hrel
      by_cases hlt : k < 11
      · have hlt' : (k : Int) < 11 := by omega
        rcases (show q = false ∨ q = true by cases q <;> simp) with rfl | rfl
        · go_wp2
          go_roundw
          case rel => first | exact ⟨k + 1, false, by omega, rfl, by go_num, hid (by rw [upB_succ k, ← Bool.and_assoc, ← hq.out]; rfl), I0⟩ | ((repeat apply Exists.intro); exact ⟨⟨k + 1, false, by omega, rfl, by go_num, hid (by rw [upB_succ k, ← Bool.and_assoc, ← hq.out]; rfl), I0⟩, rfl⟩)
          case measure => simp [intOf]; omega
        · have hrk : Hid (wr.rangeAt w.heap.size (k * 9) (rC (S.rg k))) := hid (range_reg I0.out.r0 k hlt)
          have HS : Hid ((Try.prog.info? 30).map (·.size) = some (rC (S.rg k)).length) := hid (by rw [rC_len]; exact yinfo30)
          have HKk := hid (HR.out k hlt)
          go_wp2_with (refine wpList_load_gx (op := ⟨_, .load 30 _, _, _, _, _⟩) (by rfl) 30 _ rfl w.heap.size (k * 9) rfl (rC (S.rg k)) _ hrk.out Try.underlying30 rfl HS.out ?_)
          refine (HKk.out _).mono ?_
          rintro e w1 ⟨rfl, b1⟩
          have I2 := hid (I0.out.next b1 (Nat.le_of_lt I0.out.sz))
          clear b1 hrk
          have hq2 : Hid (rMay (S.rg k) = (lenB S.p && upB (k + 1) (fun j => rMay (S.rg j)))) := hid (by rw [upB_succ k, ← Bool.and_assoc, ← hq.out]; rfl)
          go_wp2
          go_roundw
          case rel => first | exact ⟨k + 1, _, by omega, rfl, by go_num, hq2, I2⟩ | ((repeat apply Exists.intro); exact ⟨⟨k + 1, _, by omega, rfl, by go_num, hq2, I2⟩, rfl⟩)
          case measure => simp [intOf]; omega
      · have hk8 : k = 11 := by omega
        subst hk8
        clear hlt hk
        clear HR hQ
        have hQ := hq
        clear hq
        go_wp2_with fail
        go_loopw [3, 5] (fun o i w' => ∃ (k : Nat) (q : Bool), k ≤ 64 ∧ o = .bool q ∧ i = .int .i64 k ∧ Hid (q = ((lenB S.p && upB 11 (fun j => rMay (S.rg j))) && upB k (fun j => kMay (S.sk j)))) ∧ Hid (RwI w.heap.size w w' w.heap.size (stC S))) (fun o i _ => 64 - (intOf i).toNat)
        case atStart => exact ⟨0, _, by omega, rfl, rfl, hid (by rw [upB_zero, Bool.and_true]; exact hQ.out), I0⟩
        case round =>
          obtain ⟨k, q, hk, rfl, rfl, hq, I0⟩ := hrel
          by_cases hlt : k < 64
          · have hlt' : (k : Int) < 64 := by omega
            rcases (show q = false ∨ q = true by cases q <;> simp) with rfl | rfl
            · go_wp2
              go_roundw
              case rel => first | exact ⟨k + 1, false, by omega, rfl, by go_num, hid (by rw [upB_succ k, ← Bool.and_assoc, ← hq.out]; rfl), I0⟩ | ((repeat apply Exists.intro); exact ⟨⟨k + 1, false, by omega, rfl, by go_num, hid (by rw [upB_succ k, ← Bool.and_assoc, ← hq.out]; rfl), I0⟩, rfl⟩)
              case measure => simp [intOf]; omega
            · have hrk : Hid (wr.rangeAt w.heap.size (99 + k * 10) (kC (S.sk k))) := hid (range_slot I0.out.r0 k hlt)
              have HS : Hid ((Try.prog.info? 33).map (·.size) = some (kC (S.sk k)).length) := hid (by rw [kC_len]; exact yinfo33)
              have HKk := hid (HK.out k hlt)
              go_wp2_with (refine wpList_load_gx (op := ⟨_, .load 33 _, _, _, _, _⟩) (by rfl) 33 _ rfl w.heap.size (99 + k * 10) rfl (kC (S.sk k)) _ hrk.out Try.underlying33 rfl HS.out ?_)
              refine (HKk.out _).mono ?_
              rintro e w1 ⟨rfl, b1⟩
              have I2 := hid (I0.out.next b1 (Nat.le_of_lt I0.out.sz))
              clear b1 hrk
              have hq2 : Hid (kMay (S.sk k) = ((lenB S.p && upB 11 (fun j => rMay (S.rg j))) && upB (k + 1) (fun j => kMay (S.sk j)))) := hid (by rw [upB_succ k, ← Bool.and_assoc, ← hq.out]; rfl)
              go_wp2
              go_roundw
              case rel => first | exact ⟨k + 1, _, by omega, rfl, by go_num, hq2, I2⟩ | ((repeat apply Exists.intro); exact ⟨⟨k + 1, _, by omega, rfl, by go_num, hq2, I2⟩, rfl⟩)
              case measure => simp [intOf]; omega
          · have hk8 : k = 64 := by omega
            subst hk8
            clear hlt hk
            clear HK hQ
            go_wp2
            go_ret
            refine ⟨Me.ret_val ?_, I0.out.bel⟩
            rw [HRR.out, ← hq.out]
            rfl
end Go.Proofs.Ytodmikjpmcabiaa
