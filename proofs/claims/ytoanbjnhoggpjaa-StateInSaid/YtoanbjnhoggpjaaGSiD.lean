/-
  Contract of the document's In (layer 12).
-/
import Derived.Test.YtoanbjnhoggpjaaGSiC
import Derived.Test.YtoanbjnhoggpjaaGRdB
import Derived.Test.YtoanbjnhoggpjaaGStY
import Derived.Deep.MidRow
import Derived.Deep.RegionHeld3
namespace Go.Proofs.Ytoanbjnhoggpjaa
set_option linter.unusedSimpArgs false
set_option linter.unusedVariables false
set_option maxRecDepth 100000
open Go.ChangeShapes Go.WideShapes Go.ChangeAt Go.RowKit Me

set_option maxHeartbeats 16000000 in
theorem rInS_any (A B : St) (hA : StOk A) (hB : StOk B) (w : World) : Calls Try.prog 26 #[stV A, stV B] w fun e w' => e = .returned (.bool (sIn A B)) ∧ Below w.heap.size w w' := by
  have HM : Hid (∀ W, Calls Try.prog 19 #[.agg (stC A).toArray] W fun e w' => e = .returned (.bool (sMay A)) ∧ Below W.heap.size W w') := hid fun W => rMayS_any A hA W
  have HN : Hid (∀ W, Calls Try.prog 19 #[.agg (stC B).toArray] W fun e w' => e = .returned (.bool (sMay B)) ∧ Below W.heap.size W w') := hid fun W => rMayS_any B hB W
  have HRr : Hid (sMay A = true → sMay B = true → ∀ k, k < 11 → ∀ W, Calls Try.prog 86 #[.agg (rC (A.rg k)).toArray, .agg (rC (B.rg k)).toArray] W fun e w' => e = .returned (.bool (rIn (A.rg k) (B.rg k))) ∧ Below W.heap.size W w') := fun ha hb k hk W => rInReg_any (A.rg k) (B.rg k) (((sMay_iff A).1 ha).1 k hk) (((sMay_iff B).1 hb).1 k hk) W
  have HKk : Hid (sMay A = true → sMay B = true → ∀ k, k < 64 → ∀ W, Calls Try.prog 87 #[.agg (kC (A.sk k)).toArray, .agg (kC (B.sk k)).toArray] W fun e w' => e = .returned (.bool (kIn (A.sk k) (B.sk k))) ∧ Below W.heap.size W w') := fun ha hb k hk W => rInSlot_any (A.sk k) (B.sk k) (((sMay_iff A).1 ha).2.1 k hk) (((sMay_iff B).1 hb).2.1 k hk) W
  have hr : sIn A B = (((sMay A && (sMay B && decide (B.p ≤ A.p))) && upB 11 (fun k => rIn (A.rg k) (B.rg k))) && upB 64 (fun k => kIn (A.sk k) (B.sk k))) := by
    unfold sIn allR allK upB
    generalize (List.range 11).all (fun k => rIn (A.rg k) (B.rg k)) = a
    generalize (List.range 64).all (fun k => kIn (A.sk k) (B.sk k)) = b
    generalize sMay A = c
    generalize sMay B = d
    generalize decide (B.p ≤ A.p) = e
    cases a <;> cases b <;> cases c <;> cases d <;> cases e <;> rfl
  generalize hRR : sIn A B = R at hr ⊢
  have a0 := RwT.new (g := w.heap.size) (n := 740) (w := w) (W := w) (cs := stC A) 37 (Below.refl _ _) (Nat.le_refl _) (stC_len A).symm
  have b0 := RwT.new (g := w.heap.size) (n := 740) (w := w) (cs := stC B) 37 a0.i.bel (by simp) (stC_len B).symm
  have I0 := (a0.alloc (by simp) (.cells (stC B).toArray 37)).i
  have J0 := b0.i
  have e1 : (w.alloc (.cells (stC A).toArray 37)).heap.size = w.heap.size + 1 := by simp
  rw [e1] at J0
  have hia : Hid ((Try.prog.info? 37).map (·.size) = some (stC A).length) := hid (by rw [stC_len]; exact yinfo36)
  have hib : Hid ((Try.prog.info? 37).map (·.size) = some (stC B).length) := hid (by rw [stC_len]; exact yinfo36)
  unfold stV
  obtain ⟨CA, hCA⟩ : ∃ CF, (stC A).toArray = CF := ⟨_, rfl⟩
  obtain ⟨CB, hCB⟩ : ∃ CF, (stC B).toArray = CF := ⟨_, rfl⟩
  rw [hCA, hCB] at I0 J0
  rw [hCA] at HM
  rw [hCB] at HN
  rw [hCA, hCB]
  replace hCA := hid hCA
  replace hCB := hid hCB
  clear a0 b0 e1 hA hB hRR
  cases hma : sMay A
  · rw [hma] at HM hr
    rw [Bool.false_and] at hr
    have HRR := hid hr
    clear hr HN HRr HKk hma hCB
    go_enter Try.func26, Try.ntmps26
    refine wp_seq ?_
    refine Code.wp_mono (Q := CutX fun a' W' => (RwI w.heap.size w W' w.heap.size (stC A) ∧ RwI w.heap.size w W' (w.heap.size + 1) (stC B)) ∧ a' = ⟨#[.agg CA, .agg CB, .pointer (some ⟨w.heap.size, 0, none⟩), .pointer (some ⟨w.heap.size + 1, 0, none⟩), .bool false, undef, undef, undef, undef, undef, undef, undef, undef, undef, undef, undef, undef, undef, undef, undef, undef, undef, undef, undef, undef, undef, undef, undef, undef, undef, undef, undef, undef, undef, undef, undef, undef, undef, undef, undef, undef, undef, undef, undef, undef, undef, undef, undef, undef, undef, undef, undef, undef, undef], []⟩) (CutX.imp ?_) ?_
    rotate_left
    · go_wp2
      exact ⟨⟨I0, J0⟩, rfl⟩
    clear I0 J0
    rintro a' w0 ⟨⟨I1, J1⟩, rfl⟩
    have I0 := hid I1
    have J0 := hid J1
    clear I1 J1
    go_wp2_with (((with_reducible refine at_ldx (d := some 8) 37 ?_); refine wpList_load_gx (by rfl) 37 _ rfl w.heap.size 0 rfl (stC A) _ I0.out.r0 Try.underlying37 rfl hia.out ?_))
    rw [hCA.out]
    refine (HM.out _).mono ?_
    rintro e w1 ⟨rfl, z⟩
    have I2 := hid (I0.out.next z (by have := I0.out.bel.size; omega))
    have J2 := hid (J0.out.next z (by have := I0.out.bel.size; omega))
    clear I0 J0 z
    have I0 := I2
    have J0 := J2
    clear I2 J2
    clear HM hCA hia hib
    go_wp2_with fail
    go_loopw [5, 6] (fun o i w' => ∃ (k : Nat) (q : Bool), k ≤ 11 ∧ o = .bool q ∧ i = .int .i64 k ∧ Hid (q = (false && upB k (fun j => rIn (A.rg j) (B.rg j)))) ∧ Hid (RwI w.heap.size w w' w.heap.size (stC A)) ∧ Hid (RwI w.heap.size w w' (w.heap.size + 1) (stC B))) (fun o i _ => 11 - (intOf i).toNat)
    case atStart => exact ⟨0, _, by omega, rfl, rfl, hid (by rw [upB_zero, Bool.and_true]; try exact decide_eq_false (by omega)), I0, J0⟩
    case round =>
      obtain ⟨k, q, hk, rfl, rfl, hq, I0, J0⟩ := hrel
      by_cases hlt : k < 11
      · have hlt' : (k : Int) < 11 := by omega
        rcases (show q = false ∨ q = true by cases q <;> simp) with rfl | rfl
        · go_wp2_with fail
          refine wp_region_held_drew (S := (fun w' : World => Below wr.heap.size wr w')) (by kernel_rfl) ?_ (fun hHeld => ?_)
          · (try dsimp only); first | (with_reducible exact below_dr _) | (with_reducible exact Below.refl _ _) | exact below_dr _
          have hBk := below_dr wr
          refine tq 0 rfl (fun _ hS => by go_simp; try with_reducible rfl) ?_
          try simp only [s1, s2, s3]
          refine tq 1 rfl (fun _ hS => by go_simp; try with_reducible rfl) ?_
          try simp only [s1, s2, s3]
          refine ts 2 rfl ?_
          try simp only [s1, s2, s3]
          refine ts 3 rfl ?_
          try simp only [s1, s2, s3]
          refine ts 4 rfl ?_
          try simp only [s1, s2, s3]
          refine ts 5 rfl ?_
          try simp only [s1, s2, s3]
          refine ts 6 rfl ?_
          try simp only [s1, s2, s3]
          refine ts 7 rfl ?_
          try simp only [s1, s2, s3]
          refine ts 8 rfl ?_
          try simp only [s1, s2, s3]
          refine ts 9 rfl ?_
          try simp only [s1, s2, s3]
          refine ts 10 rfl ?_
          try simp only [s1, s2, s3]
          refine tq 11 rfl (fun _ hS => by go_simp; try with_reducible rfl) ?_
          try simp only [s1, s2, s3]
          refine tq 12 rfl (fun _ hS => by go_simp; try with_reducible rfl) ?_
          try simp only [s1, s2, s3]
          refine wpAnyH_done (by kernel_rfl) ?_ _
          have I2 := hid (I0.out.next hBk (by have := I0.out.bel.size; omega))
          have J2 := hid (J0.out.next hBk (by have := I0.out.bel.size; omega))
          clear I0 J0 hBk
          have I0 := I2
          have J0 := J2
          clear I2 J2
          go_wp2
          go_roundw
          case rel => first | exact ⟨k + 1, false, by omega, rfl, by go_num, hid (by rw [upB_succ k, ← Bool.and_assoc, ← hq.out]; rfl), I0, J0⟩ | ((repeat apply Exists.intro); exact ⟨⟨k + 1, false, by omega, rfl, by go_num, hid (by rw [upB_succ k, ← Bool.and_assoc, ← hq.out]; rfl), I0, J0⟩, rfl⟩)
          case measure => simp [intOf]; omega
        · exact absurd hq.out (by simp)
      · have hk8 : k = 11 := by omega
        subst hk8
        clear hlt hk
        skip
        have hQ := hq
        clear hq
        go_wp2_with fail
        go_loopw [5, 7] (fun o i w' => ∃ (k : Nat) (q : Bool), k ≤ 64 ∧ o = .bool q ∧ i = .int .i64 k ∧ Hid (q = ((false && upB 11 (fun j => rIn (A.rg j) (B.rg j))) && upB k (fun j => kIn (A.sk j) (B.sk j)))) ∧ Hid (RwI w.heap.size w w' w.heap.size (stC A)) ∧ Hid (RwI w.heap.size w w' (w.heap.size + 1) (stC B))) (fun o i _ => 64 - (intOf i).toNat)
        case atStart => exact ⟨0, _, by omega, rfl, rfl, hid (by rw [upB_zero, Bool.and_true]; exact hQ.out), I0, J0⟩
        case round =>
          obtain ⟨k, q, hk, rfl, rfl, hq, I0, J0⟩ := hrel
          by_cases hlt : k < 64
          · have hlt' : (k : Int) < 64 := by omega
            rcases (show q = false ∨ q = true by cases q <;> simp) with rfl | rfl
            · go_wp2_with fail
              refine wp_region_held_drew (S := (fun w' : World => Below wr.heap.size wr w')) (by kernel_rfl) ?_ (fun hHeld => ?_)
              · (try dsimp only); first | (with_reducible exact below_dr _) | (with_reducible exact Below.refl _ _) | exact below_dr _
              have hBk := below_dr wr
              refine tq 0 rfl (fun _ hS => by go_simp; try with_reducible rfl) ?_
              try simp only [s1, s2, s3]
              refine tq 1 rfl (fun _ hS => by go_simp; try with_reducible rfl) ?_
              try simp only [s1, s2, s3]
              refine ts 2 rfl ?_
              try simp only [s1, s2, s3]
              refine ts 3 rfl ?_
              try simp only [s1, s2, s3]
              refine ts 4 rfl ?_
              try simp only [s1, s2, s3]
              refine ts 5 rfl ?_
              try simp only [s1, s2, s3]
              refine ts 6 rfl ?_
              try simp only [s1, s2, s3]
              refine ts 7 rfl ?_
              try simp only [s1, s2, s3]
              refine ts 8 rfl ?_
              try simp only [s1, s2, s3]
              refine ts 9 rfl ?_
              try simp only [s1, s2, s3]
              refine ts 10 rfl ?_
              try simp only [s1, s2, s3]
              refine tq 11 rfl (fun _ hS => by go_simp; try with_reducible rfl) ?_
              try simp only [s1, s2, s3]
              refine tq 12 rfl (fun _ hS => by go_simp; try with_reducible rfl) ?_
              try simp only [s1, s2, s3]
              refine wpAnyH_done (by kernel_rfl) ?_ _
              have I2 := hid (I0.out.next hBk (by have := I0.out.bel.size; omega))
              have J2 := hid (J0.out.next hBk (by have := I0.out.bel.size; omega))
              clear I0 J0 hBk
              have I0 := I2
              have J0 := J2
              clear I2 J2
              go_wp2
              go_roundw
              case rel => first | exact ⟨k + 1, false, by omega, rfl, by go_num, hid (by rw [upB_succ k, ← Bool.and_assoc, ← hq.out]; rfl), I0, J0⟩ | ((repeat apply Exists.intro); exact ⟨⟨k + 1, false, by omega, rfl, by go_num, hid (by rw [upB_succ k, ← Bool.and_assoc, ← hq.out]; rfl), I0, J0⟩, rfl⟩)
              case measure => simp [intOf]; omega
            · exact absurd hq.out (by simp)
          · have hk8 : k = 64 := by omega
            subst hk8
            clear hlt hk
            clear hQ
            go_wp2
            go_ret
            refine ⟨Me.ret_val ?_, I0.out.bel⟩
            rw [HRR.out, ← hq.out]
            rfl
  rw [hma] at HM hr
  rw [Bool.true_and] at hr
  cases hmb : sMay B
  · rw [hmb] at HN hr
    rw [Bool.false_and] at hr
    have HRR := hid hr
    clear hr HRr HKk hma hmb
    go_enter Try.func26, Try.ntmps26
    refine wp_seq ?_
    refine Code.wp_mono (Q := CutX fun a' W' => (RwI w.heap.size w W' w.heap.size (stC A) ∧ RwI w.heap.size w W' (w.heap.size + 1) (stC B)) ∧ a' = ⟨#[.agg CA, .agg CB, .pointer (some ⟨w.heap.size, 0, none⟩), .pointer (some ⟨w.heap.size + 1, 0, none⟩), .bool false, undef, undef, undef, undef, undef, undef, undef, undef, undef, undef, undef, undef, undef, undef, undef, undef, undef, undef, undef, undef, undef, undef, undef, undef, undef, undef, undef, undef, undef, undef, undef, undef, undef, undef, undef, undef, undef, undef, undef, undef, undef, undef, undef, undef, undef, undef, undef, undef, undef], []⟩) (CutX.imp ?_) ?_
    rotate_left
    · go_wp2
      exact ⟨⟨I0, J0⟩, rfl⟩
    clear I0 J0
    rintro a' w0 ⟨⟨I1, J1⟩, rfl⟩
    have I0 := hid I1
    have J0 := hid J1
    clear I1 J1
    go_wp2_with (((with_reducible refine at_ldx (d := some 8) 37 ?_); refine wpList_load_gx (by rfl) 37 _ rfl w.heap.size 0 rfl (stC A) _ I0.out.r0 Try.underlying37 rfl hia.out ?_))
    rw [hCA.out]
    refine (HM.out _).mono ?_
    rintro e w1 ⟨rfl, z⟩
    have I2 := hid (I0.out.next z (by have := I0.out.bel.size; omega))
    have J2 := hid (J0.out.next z (by have := I0.out.bel.size; omega))
    clear I0 J0 z
    have I0 := I2
    have J0 := J2
    clear I2 J2
    go_wp2_with (((with_reducible refine at_ldx (d := some 11) 37 ?_); refine wpList_load_gx (by rfl) 37 _ rfl (w.heap.size + 1) 0 rfl (stC B) _ J0.out.r0 Try.underlying37 rfl hib.out ?_))
    rw [hCB.out]
    refine (HN.out _).mono ?_
    rintro e w2 ⟨rfl, z⟩
    have I2 := hid (I0.out.next z (by have := I0.out.bel.size; omega))
    have J2 := hid (J0.out.next z (by have := I0.out.bel.size; omega))
    clear I0 J0 z
    have I0 := I2
    have J0 := J2
    clear I2 J2
    clear HM HN hCA hCB hia hib
    go_wp2_with fail
    go_loopw [5, 6] (fun o i w' => ∃ (k : Nat) (q : Bool), k ≤ 11 ∧ o = .bool q ∧ i = .int .i64 k ∧ Hid (q = (false && upB k (fun j => rIn (A.rg j) (B.rg j)))) ∧ Hid (RwI w.heap.size w w' w.heap.size (stC A)) ∧ Hid (RwI w.heap.size w w' (w.heap.size + 1) (stC B))) (fun o i _ => 11 - (intOf i).toNat)
    case atStart => exact ⟨0, _, by omega, rfl, rfl, hid (by rw [upB_zero, Bool.and_true]; try exact decide_eq_false (by omega)), I0, J0⟩
    case round =>
      obtain ⟨k, q, hk, rfl, rfl, hq, I0, J0⟩ := hrel
      by_cases hlt : k < 11
      · have hlt' : (k : Int) < 11 := by omega
        rcases (show q = false ∨ q = true by cases q <;> simp) with rfl | rfl
        · go_wp2_with fail
          refine wp_region_held_drew (S := (fun w' : World => Below wr.heap.size wr w')) (by kernel_rfl) ?_ (fun hHeld => ?_)
          · (try dsimp only); first | (with_reducible exact below_dr _) | (with_reducible exact Below.refl _ _) | exact below_dr _
          have hBk := below_dr wr
          refine tq 0 rfl (fun _ hS => by go_simp; try with_reducible rfl) ?_
          try simp only [s1, s2, s3]
          refine tq 1 rfl (fun _ hS => by go_simp; try with_reducible rfl) ?_
          try simp only [s1, s2, s3]
          refine ts 2 rfl ?_
          try simp only [s1, s2, s3]
          refine ts 3 rfl ?_
          try simp only [s1, s2, s3]
          refine ts 4 rfl ?_
          try simp only [s1, s2, s3]
          refine ts 5 rfl ?_
          try simp only [s1, s2, s3]
          refine ts 6 rfl ?_
          try simp only [s1, s2, s3]
          refine ts 7 rfl ?_
          try simp only [s1, s2, s3]
          refine ts 8 rfl ?_
          try simp only [s1, s2, s3]
          refine ts 9 rfl ?_
          try simp only [s1, s2, s3]
          refine ts 10 rfl ?_
          try simp only [s1, s2, s3]
          refine tq 11 rfl (fun _ hS => by go_simp; try with_reducible rfl) ?_
          try simp only [s1, s2, s3]
          refine tq 12 rfl (fun _ hS => by go_simp; try with_reducible rfl) ?_
          try simp only [s1, s2, s3]
          refine wpAnyH_done (by kernel_rfl) ?_ _
          have I2 := hid (I0.out.next hBk (by have := I0.out.bel.size; omega))
          have J2 := hid (J0.out.next hBk (by have := I0.out.bel.size; omega))
          clear I0 J0 hBk
          have I0 := I2
          have J0 := J2
          clear I2 J2
          go_wp2
          go_roundw
          case rel => first | exact ⟨k + 1, false, by omega, rfl, by go_num, hid (by rw [upB_succ k, ← Bool.and_assoc, ← hq.out]; rfl), I0, J0⟩ | ((repeat apply Exists.intro); exact ⟨⟨k + 1, false, by omega, rfl, by go_num, hid (by rw [upB_succ k, ← Bool.and_assoc, ← hq.out]; rfl), I0, J0⟩, rfl⟩)
          case measure => simp [intOf]; omega
        · exact absurd hq.out (by simp)
      · have hk8 : k = 11 := by omega
        subst hk8
        clear hlt hk
        skip
        have hQ := hq
        clear hq
        go_wp2_with fail
        go_loopw [5, 7] (fun o i w' => ∃ (k : Nat) (q : Bool), k ≤ 64 ∧ o = .bool q ∧ i = .int .i64 k ∧ Hid (q = ((false && upB 11 (fun j => rIn (A.rg j) (B.rg j))) && upB k (fun j => kIn (A.sk j) (B.sk j)))) ∧ Hid (RwI w.heap.size w w' w.heap.size (stC A)) ∧ Hid (RwI w.heap.size w w' (w.heap.size + 1) (stC B))) (fun o i _ => 64 - (intOf i).toNat)
        case atStart => exact ⟨0, _, by omega, rfl, rfl, hid (by rw [upB_zero, Bool.and_true]; exact hQ.out), I0, J0⟩
        case round =>
          obtain ⟨k, q, hk, rfl, rfl, hq, I0, J0⟩ := hrel
          by_cases hlt : k < 64
          · have hlt' : (k : Int) < 64 := by omega
            rcases (show q = false ∨ q = true by cases q <;> simp) with rfl | rfl
            · go_wp2_with fail
              refine wp_region_held_drew (S := (fun w' : World => Below wr.heap.size wr w')) (by kernel_rfl) ?_ (fun hHeld => ?_)
              · (try dsimp only); first | (with_reducible exact below_dr _) | (with_reducible exact Below.refl _ _) | exact below_dr _
              have hBk := below_dr wr
              refine tq 0 rfl (fun _ hS => by go_simp; try with_reducible rfl) ?_
              try simp only [s1, s2, s3]
              refine tq 1 rfl (fun _ hS => by go_simp; try with_reducible rfl) ?_
              try simp only [s1, s2, s3]
              refine ts 2 rfl ?_
              try simp only [s1, s2, s3]
              refine ts 3 rfl ?_
              try simp only [s1, s2, s3]
              refine ts 4 rfl ?_
              try simp only [s1, s2, s3]
              refine ts 5 rfl ?_
              try simp only [s1, s2, s3]
              refine ts 6 rfl ?_
              try simp only [s1, s2, s3]
              refine ts 7 rfl ?_
              try simp only [s1, s2, s3]
              refine ts 8 rfl ?_
              try simp only [s1, s2, s3]
              refine ts 9 rfl ?_
              try simp only [s1, s2, s3]
              refine ts 10 rfl ?_
              try simp only [s1, s2, s3]
              refine tq 11 rfl (fun _ hS => by go_simp; try with_reducible rfl) ?_
              try simp only [s1, s2, s3]
              refine tq 12 rfl (fun _ hS => by go_simp; try with_reducible rfl) ?_
              try simp only [s1, s2, s3]
              refine wpAnyH_done (by kernel_rfl) ?_ _
              have I2 := hid (I0.out.next hBk (by have := I0.out.bel.size; omega))
              have J2 := hid (J0.out.next hBk (by have := I0.out.bel.size; omega))
              clear I0 J0 hBk
              have I0 := I2
              have J0 := J2
              clear I2 J2
              go_wp2
              go_roundw
              case rel => first | exact ⟨k + 1, false, by omega, rfl, by go_num, hid (by rw [upB_succ k, ← Bool.and_assoc, ← hq.out]; rfl), I0, J0⟩ | ((repeat apply Exists.intro); exact ⟨⟨k + 1, false, by omega, rfl, by go_num, hid (by rw [upB_succ k, ← Bool.and_assoc, ← hq.out]; rfl), I0, J0⟩, rfl⟩)
              case measure => simp [intOf]; omega
            · exact absurd hq.out (by simp)
          · have hk8 : k = 64 := by omega
            subst hk8
            clear hlt hk
            clear hQ
            go_wp2
            go_ret
            refine ⟨Me.ret_val ?_, I0.out.bel⟩
            rw [HRR.out, ← hq.out]
            rfl
  rw [hmb] at HN hr
  rw [Bool.true_and] at hr
  have HR := hid (HRr.out hma hmb)
  have HK := hid (HKk.out hma hmb)
  clear HRr HKk hma hmb
  by_cases hp : B.p ≤ A.p
  · rw [decide_eq_true hp] at hr
    have HRR := hid hr
    clear hr
    go_enter Try.func26, Try.ntmps26
    refine wp_seq ?_
    refine Code.wp_mono (Q := CutX fun a' W' => (RwI w.heap.size w W' w.heap.size (stC A) ∧ RwI w.heap.size w W' (w.heap.size + 1) (stC B)) ∧ a' = ⟨#[.agg CA, .agg CB, .pointer (some ⟨w.heap.size, 0, none⟩), .pointer (some ⟨w.heap.size + 1, 0, none⟩), .bool false, undef, undef, undef, undef, undef, undef, undef, undef, undef, undef, undef, undef, undef, undef, undef, undef, undef, undef, undef, undef, undef, undef, undef, undef, undef, undef, undef, undef, undef, undef, undef, undef, undef, undef, undef, undef, undef, undef, undef, undef, undef, undef, undef, undef, undef, undef, undef, undef, undef], []⟩) (CutX.imp ?_) ?_
    rotate_left
    · go_wp2
      exact ⟨⟨I0, J0⟩, rfl⟩
    clear I0 J0
    rintro a' w0 ⟨⟨I1, J1⟩, rfl⟩
    have I0 := hid I1
    have J0 := hid J1
    clear I1 J1
    go_wp2_with (((with_reducible refine at_ldx (d := some 8) 37 ?_); refine wpList_load_gx (by rfl) 37 _ rfl w.heap.size 0 rfl (stC A) _ I0.out.r0 Try.underlying37 rfl hia.out ?_))
    rw [hCA.out]
    refine (HM.out _).mono ?_
    rintro e w1 ⟨rfl, z⟩
    have I2 := hid (I0.out.next z (by have := I0.out.bel.size; omega))
    have J2 := hid (J0.out.next z (by have := I0.out.bel.size; omega))
    clear I0 J0 z
    have I0 := I2
    have J0 := J2
    clear I2 J2
    go_wp2_with (((with_reducible refine at_ldx (d := some 11) 37 ?_); refine wpList_load_gx (by rfl) 37 _ rfl (w.heap.size + 1) 0 rfl (stC B) _ J0.out.r0 Try.underlying37 rfl hib.out ?_))
    rw [hCB.out]
    refine (HN.out _).mono ?_
    rintro e w2 ⟨rfl, z⟩
    have I2 := hid (I0.out.next z (by have := I0.out.bel.size; omega))
    have J2 := hid (J0.out.next z (by have := I0.out.bel.size; omega))
    clear I0 J0 z
    have I0 := I2
    have J0 := J2
    clear I2 J2
    have hp1 := range_pkt I0.out.r0
    have hp2 := range_pkt J0.out.r0
    have sa := I0.out.sz
    have sb := J0.out.sz
    go_wp2_with fail
    clear hp1 hp2 sa sb
    clear HM HN hCA hCB hia hib
    go_loopw [5, 6] (fun o i w' => ∃ (k : Nat) (q : Bool), k ≤ 11 ∧ o = .bool q ∧ i = .int .i64 k ∧ Hid (q = (true && upB k (fun j => rIn (A.rg j) (B.rg j)))) ∧ Hid (RwI w.heap.size w w' w.heap.size (stC A)) ∧ Hid (RwI w.heap.size w w' (w.heap.size + 1) (stC B))) (fun o i _ => 11 - (intOf i).toNat)
    case atStart => exact ⟨0, _, by omega, rfl, rfl, hid (by rw [upB_zero, Bool.and_true]; try exact decide_eq_false (by omega)), I0, J0⟩
    case round =>
      obtain ⟨k, q, hk, rfl, rfl, hq, I0, J0⟩ := hrel
      by_cases hlt : k < 11
      · have hlt' : (k : Int) < 11 := by omega
        rcases (show q = false ∨ q = true by cases q <;> simp) with rfl | rfl
        · go_wp2_with fail
          refine wp_region_held_drew (S := (fun w' : World => Below wr.heap.size wr w')) (by kernel_rfl) ?_ (fun hHeld => ?_)
          · (try dsimp only); first | (with_reducible exact below_dr _) | (with_reducible exact Below.refl _ _) | exact below_dr _
          have hBk := below_dr wr
          refine tq 0 rfl (fun _ hS => by go_simp; try with_reducible rfl) ?_
          try simp only [s1, s2, s3]
          refine tq 1 rfl (fun _ hS => by go_simp; try with_reducible rfl) ?_
          try simp only [s1, s2, s3]
          refine ts 2 rfl ?_
          try simp only [s1, s2, s3]
          refine ts 3 rfl ?_
          try simp only [s1, s2, s3]
          refine ts 4 rfl ?_
          try simp only [s1, s2, s3]
          refine ts 5 rfl ?_
          try simp only [s1, s2, s3]
          refine ts 6 rfl ?_
          try simp only [s1, s2, s3]
          refine ts 7 rfl ?_
          try simp only [s1, s2, s3]
          refine ts 8 rfl ?_
          try simp only [s1, s2, s3]
          refine ts 9 rfl ?_
          try simp only [s1, s2, s3]
          refine ts 10 rfl ?_
          try simp only [s1, s2, s3]
          refine tq 11 rfl (fun _ hS => by go_simp; try with_reducible rfl) ?_
          try simp only [s1, s2, s3]
          refine tq 12 rfl (fun _ hS => by go_simp; try with_reducible rfl) ?_
          try simp only [s1, s2, s3]
          refine wpAnyH_done (by kernel_rfl) ?_ _
          have I2 := hid (I0.out.next hBk (by have := I0.out.bel.size; omega))
          have J2 := hid (J0.out.next hBk (by have := I0.out.bel.size; omega))
          clear I0 J0 hBk
          have I0 := I2
          have J0 := J2
          clear I2 J2
          go_wp2
          go_roundw
          case rel => first | exact ⟨k + 1, false, by omega, rfl, by go_num, hid (by rw [upB_succ k, ← Bool.and_assoc, ← hq.out]; rfl), I0, J0⟩ | ((repeat apply Exists.intro); exact ⟨⟨k + 1, false, by omega, rfl, by go_num, hid (by rw [upB_succ k, ← Bool.and_assoc, ← hq.out]; rfl), I0, J0⟩, rfl⟩)
          case measure => simp [intOf]; omega
        · have ra := range_reg I0.out.r0 k hlt
          have rb := range_reg J0.out.r0 k hlt
          have sa := I0.out.sz
          have sb := J0.out.sz
          have hsA : (Try.prog.info? 31).map (·.size) = some (rC (A.rg k)).length := by rw [rC_len]; exact yinfo30
          have hsB : (Try.prog.info? 31).map (·.size) = some (rC (B.rg k)).length := by rw [rC_len]; exact yinfo30
          have HC := hid (HR.out k hlt)
          have hq2 : Hid (rIn (A.rg k) (B.rg k) = (true && upB (k + 1) (fun j => rIn (A.rg j) (B.rg j)))) := hid (by rw [upB_succ k, ← Bool.and_assoc, ← hq.out]; rfl)
          go_wp2_with fail
          refine wp_region_held_drew (S := (fun w' : World => Below wr.heap.size wr w')) (by kernel_rfl) ?_ (fun hHeld => ?_)
          · (try dsimp only); first | (with_reducible exact below_dr _) | (with_reducible exact Below.refl _ _) | exact below_dr _
          have hBk := below_dr wr
          refine tq 0 rfl (fun _ hS => by go_simp; try with_reducible rfl) ?_
          try simp only [s1, s2, s3]
          refine tq 1 rfl (fun _ hS => by go_simp; try with_reducible rfl) ?_
          try simp only [s1, s2, s3]
          refine tq 2 rfl (fun _ hS => by go_simp; try with_reducible rfl) ?_
          try simp only [s1, s2, s3]
          refine tq 3 rfl (fun _ hS => by go_simp; try with_reducible rfl) ?_
          try simp only [s1, s2, s3]
          refine tq 4 rfl (fun _ hS => by go_simp; try with_reducible rfl) ?_
          try simp only [s1, s2, s3]
          refine take_d (i := 5) (v := _) rfl (by rfl) (by kernel_rfl) (by kernel_rfl) (by kernel_rfl) (fun _ _ _ h => h) (yieldsIf_load_mid (by rfl) _ _ rfl _ _ rfl (rC (A.rg k)) _ ?hx7_ Try.underlying31 rfl hsA) (by assumption) ?rx7_
          case hx7_ => (intro wS hSw; exact range_below ra sa (Me.bcell hSw).1)
          try simp only [s1, s2, s3]
          refine tq 6 rfl (fun _ hS => by go_simp; try with_reducible rfl) ?_
          try simp only [s1, s2, s3]
          refine tq 7 rfl (fun _ hS => by go_simp; try with_reducible rfl) ?_
          try simp only [s1, s2, s3]
          refine tq 8 rfl (fun _ hS => by go_simp; try with_reducible rfl) ?_
          try simp only [s1, s2, s3]
          refine take_d (i := 9) (v := _) rfl (by rfl) (by kernel_rfl) (by kernel_rfl) (by kernel_rfl) (fun _ _ _ h => h) (yieldsIf_load_mid (by rfl) _ _ rfl _ _ rfl (rC (B.rg k)) _ ?hx8_ Try.underlying31 rfl hsB) (by assumption) ?rx8_
          case hx8_ => (intro wS hSw; exact range_below rb sb (Me.bcell hSw).1)
          try simp only [s1, s2, s3]
          refine wpAnyH_ready (rs := [10]) (by kernel_rfl) (by simp) ?_
          refine AllReadyH.cons rfl (fun K hK => ?_) AllReadyH.nil
          go_simp
          go_at_call 86
          refine (HC.out _).mono ?_
          rintro e wy6_1 ⟨rfl, bky6_1⟩
          have hBn := below_next hBk bky6_1
          clear hBk bky6_1
          have hBk := hBn
          clear hBn
          try go_simp
          refine hK.out _ _ ?_ (fun hHeld => ?_)
          · (try dsimp only); exact hBk
          clear hK K
          (try simp only [Act.put, List.setIfInBounds_toArray, List.set_cons_zero, List.set_cons_succ])
          refine tq 11 rfl (fun _ hS => by go_simp; try with_reducible rfl) ?_
          try simp only [s1, s2, s3]
          refine tq 12 rfl (fun _ hS => by go_simp; try with_reducible rfl) ?_
          try simp only [s1, s2, s3]
          refine wpAnyH_done (by kernel_rfl) ?_ _
          clear ra rb sa sb hsA hsB
          have I2 := hid (I0.out.next hBk (by have := I0.out.bel.size; omega))
          have J2 := hid (J0.out.next hBk (by have := I0.out.bel.size; omega))
          clear I0 J0 hBk
          have I0 := I2
          have J0 := J2
          clear I2 J2
          go_wp2
          go_roundw
          case rel => first | exact ⟨k + 1, _, by omega, rfl, by go_num, hq2, I0, J0⟩ | ((repeat apply Exists.intro); exact ⟨⟨k + 1, _, by omega, rfl, by go_num, hq2, I0, J0⟩, rfl⟩)
          case measure => simp [intOf]; omega
      · have hk8 : k = 11 := by omega
        subst hk8
        clear hlt hk
        skip
        have hQ := hq
        clear hq
        go_wp2_with fail
        go_loopw [5, 7] (fun o i w' => ∃ (k : Nat) (q : Bool), k ≤ 64 ∧ o = .bool q ∧ i = .int .i64 k ∧ Hid (q = ((true && upB 11 (fun j => rIn (A.rg j) (B.rg j))) && upB k (fun j => kIn (A.sk j) (B.sk j)))) ∧ Hid (RwI w.heap.size w w' w.heap.size (stC A)) ∧ Hid (RwI w.heap.size w w' (w.heap.size + 1) (stC B))) (fun o i _ => 64 - (intOf i).toNat)
        case atStart => exact ⟨0, _, by omega, rfl, rfl, hid (by rw [upB_zero, Bool.and_true]; exact hQ.out), I0, J0⟩
        case round =>
          obtain ⟨k, q, hk, rfl, rfl, hq, I0, J0⟩ := hrel
          by_cases hlt : k < 64
          · have hlt' : (k : Int) < 64 := by omega
            rcases (show q = false ∨ q = true by cases q <;> simp) with rfl | rfl
            · go_wp2_with fail
              refine wp_region_held_drew (S := (fun w' : World => Below wr.heap.size wr w')) (by kernel_rfl) ?_ (fun hHeld => ?_)
              · (try dsimp only); first | (with_reducible exact below_dr _) | (with_reducible exact Below.refl _ _) | exact below_dr _
              have hBk := below_dr wr
              refine tq 0 rfl (fun _ hS => by go_simp; try with_reducible rfl) ?_
              try simp only [s1, s2, s3]
              refine tq 1 rfl (fun _ hS => by go_simp; try with_reducible rfl) ?_
              try simp only [s1, s2, s3]
              refine ts 2 rfl ?_
              try simp only [s1, s2, s3]
              refine ts 3 rfl ?_
              try simp only [s1, s2, s3]
              refine ts 4 rfl ?_
              try simp only [s1, s2, s3]
              refine ts 5 rfl ?_
              try simp only [s1, s2, s3]
              refine ts 6 rfl ?_
              try simp only [s1, s2, s3]
              refine ts 7 rfl ?_
              try simp only [s1, s2, s3]
              refine ts 8 rfl ?_
              try simp only [s1, s2, s3]
              refine ts 9 rfl ?_
              try simp only [s1, s2, s3]
              refine ts 10 rfl ?_
              try simp only [s1, s2, s3]
              refine tq 11 rfl (fun _ hS => by go_simp; try with_reducible rfl) ?_
              try simp only [s1, s2, s3]
              refine tq 12 rfl (fun _ hS => by go_simp; try with_reducible rfl) ?_
              try simp only [s1, s2, s3]
              refine wpAnyH_done (by kernel_rfl) ?_ _
              have I2 := hid (I0.out.next hBk (by have := I0.out.bel.size; omega))
              have J2 := hid (J0.out.next hBk (by have := I0.out.bel.size; omega))
              clear I0 J0 hBk
              have I0 := I2
              have J0 := J2
              clear I2 J2
              go_wp2
              go_roundw
              case rel => first | exact ⟨k + 1, false, by omega, rfl, by go_num, hid (by rw [upB_succ k, ← Bool.and_assoc, ← hq.out]; rfl), I0, J0⟩ | ((repeat apply Exists.intro); exact ⟨⟨k + 1, false, by omega, rfl, by go_num, hid (by rw [upB_succ k, ← Bool.and_assoc, ← hq.out]; rfl), I0, J0⟩, rfl⟩)
              case measure => simp [intOf]; omega
            · have ra := range_slot I0.out.r0 k hlt
              have rb := range_slot J0.out.r0 k hlt
              have sa := I0.out.sz
              have sb := J0.out.sz
              have hsA : (Try.prog.info? 34).map (·.size) = some (kC (A.sk k)).length := by rw [kC_len]; exact yinfo33
              have hsB : (Try.prog.info? 34).map (·.size) = some (kC (B.sk k)).length := by rw [kC_len]; exact yinfo33
              have HC := hid (HK.out k hlt)
              have hq2 : Hid (kIn (A.sk k) (B.sk k) = ((true && upB 11 (fun j => rIn (A.rg j) (B.rg j))) && upB (k + 1) (fun j => kIn (A.sk j) (B.sk j)))) := hid (by rw [upB_succ k, ← Bool.and_assoc, ← hq.out]; rfl)
              go_wp2_with fail
              refine wp_region_held_drew (S := (fun w' : World => Below wr.heap.size wr w')) (by kernel_rfl) ?_ (fun hHeld => ?_)
              · (try dsimp only); first | (with_reducible exact below_dr _) | (with_reducible exact Below.refl _ _) | exact below_dr _
              have hBk := below_dr wr
              refine tq 0 rfl (fun _ hS => by go_simp; try with_reducible rfl) ?_
              try simp only [s1, s2, s3]
              refine tq 1 rfl (fun _ hS => by go_simp; try with_reducible rfl) ?_
              try simp only [s1, s2, s3]
              refine tq 2 rfl (fun _ hS => by go_simp; try with_reducible rfl) ?_
              try simp only [s1, s2, s3]
              refine tq 3 rfl (fun _ hS => by go_simp; try with_reducible rfl) ?_
              try simp only [s1, s2, s3]
              refine tq 4 rfl (fun _ hS => by go_simp; try with_reducible rfl) ?_
              try simp only [s1, s2, s3]
              refine take_d (i := 5) (v := _) rfl (by rfl) (by kernel_rfl) (by kernel_rfl) (by kernel_rfl) (fun _ _ _ h => h) (yieldsIf_load_mid (by rfl) _ _ rfl _ _ rfl (kC (A.sk k)) _ ?hx11_ Try.underlying34 rfl hsA) (by assumption) ?rx11_
              case hx11_ => (intro wS hSw; exact range_below ra sa (Me.bcell hSw).1)
              try simp only [s1, s2, s3]
              refine tq 6 rfl (fun _ hS => by go_simp; try with_reducible rfl) ?_
              try simp only [s1, s2, s3]
              refine tq 7 rfl (fun _ hS => by go_simp; try with_reducible rfl) ?_
              try simp only [s1, s2, s3]
              refine tq 8 rfl (fun _ hS => by go_simp; try with_reducible rfl) ?_
              try simp only [s1, s2, s3]
              refine take_d (i := 9) (v := _) rfl (by rfl) (by kernel_rfl) (by kernel_rfl) (by kernel_rfl) (fun _ _ _ h => h) (yieldsIf_load_mid (by rfl) _ _ rfl _ _ rfl (kC (B.sk k)) _ ?hx12_ Try.underlying34 rfl hsB) (by assumption) ?rx12_
              case hx12_ => (intro wS hSw; exact range_below rb sb (Me.bcell hSw).1)
              try simp only [s1, s2, s3]
              refine wpAnyH_ready (rs := [10]) (by kernel_rfl) (by simp) ?_
              refine AllReadyH.cons rfl (fun K hK => ?_) AllReadyH.nil
              go_simp
              go_at_call 87
              refine (HC.out _).mono ?_
              rintro e wy10_1 ⟨rfl, bky10_1⟩
              have hBn := below_next hBk bky10_1
              clear hBk bky10_1
              have hBk := hBn
              clear hBn
              try go_simp
              refine hK.out _ _ ?_ (fun hHeld => ?_)
              · (try dsimp only); exact hBk
              clear hK K
              (try simp only [Act.put, List.setIfInBounds_toArray, List.set_cons_zero, List.set_cons_succ])
              refine tq 11 rfl (fun _ hS => by go_simp; try with_reducible rfl) ?_
              try simp only [s1, s2, s3]
              refine tq 12 rfl (fun _ hS => by go_simp; try with_reducible rfl) ?_
              try simp only [s1, s2, s3]
              refine wpAnyH_done (by kernel_rfl) ?_ _
              clear ra rb sa sb hsA hsB
              have I2 := hid (I0.out.next hBk (by have := I0.out.bel.size; omega))
              have J2 := hid (J0.out.next hBk (by have := I0.out.bel.size; omega))
              clear I0 J0 hBk
              have I0 := I2
              have J0 := J2
              clear I2 J2
              go_wp2
              go_roundw
              case rel => first | exact ⟨k + 1, _, by omega, rfl, by go_num, hq2, I0, J0⟩ | ((repeat apply Exists.intro); exact ⟨⟨k + 1, _, by omega, rfl, by go_num, hq2, I0, J0⟩, rfl⟩)
              case measure => simp [intOf]; omega
          · have hk8 : k = 64 := by omega
            subst hk8
            clear hlt hk
            clear hQ
            go_wp2
            go_ret
            refine ⟨Me.ret_val ?_, I0.out.bel⟩
            rw [HRR.out, ← hq.out]
            rfl
  · rw [decide_eq_false hp] at hr
    have HRR := hid hr
    have hp' : A.p < B.p := by omega
    clear hr HR HK
    go_enter Try.func26, Try.ntmps26
    refine wp_seq ?_
    refine Code.wp_mono (Q := CutX fun a' W' => (RwI w.heap.size w W' w.heap.size (stC A) ∧ RwI w.heap.size w W' (w.heap.size + 1) (stC B)) ∧ a' = ⟨#[.agg CA, .agg CB, .pointer (some ⟨w.heap.size, 0, none⟩), .pointer (some ⟨w.heap.size + 1, 0, none⟩), .bool false, undef, undef, undef, undef, undef, undef, undef, undef, undef, undef, undef, undef, undef, undef, undef, undef, undef, undef, undef, undef, undef, undef, undef, undef, undef, undef, undef, undef, undef, undef, undef, undef, undef, undef, undef, undef, undef, undef, undef, undef, undef, undef, undef, undef, undef, undef, undef, undef, undef], []⟩) (CutX.imp ?_) ?_
    rotate_left
    · go_wp2
      exact ⟨⟨I0, J0⟩, rfl⟩
    clear I0 J0
    rintro a' w0 ⟨⟨I1, J1⟩, rfl⟩
    have I0 := hid I1
    have J0 := hid J1
    clear I1 J1
    go_wp2_with (((with_reducible refine at_ldx (d := some 8) 37 ?_); refine wpList_load_gx (by rfl) 37 _ rfl w.heap.size 0 rfl (stC A) _ I0.out.r0 Try.underlying37 rfl hia.out ?_))
    rw [hCA.out]
    refine (HM.out _).mono ?_
    rintro e w1 ⟨rfl, z⟩
    have I2 := hid (I0.out.next z (by have := I0.out.bel.size; omega))
    have J2 := hid (J0.out.next z (by have := I0.out.bel.size; omega))
    clear I0 J0 z
    have I0 := I2
    have J0 := J2
    clear I2 J2
    go_wp2_with (((with_reducible refine at_ldx (d := some 11) 37 ?_); refine wpList_load_gx (by rfl) 37 _ rfl (w.heap.size + 1) 0 rfl (stC B) _ J0.out.r0 Try.underlying37 rfl hib.out ?_))
    rw [hCB.out]
    refine (HN.out _).mono ?_
    rintro e w2 ⟨rfl, z⟩
    have I2 := hid (I0.out.next z (by have := I0.out.bel.size; omega))
    have J2 := hid (J0.out.next z (by have := I0.out.bel.size; omega))
    clear I0 J0 z
    have I0 := I2
    have J0 := J2
    clear I2 J2
    have hp1 := range_pkt I0.out.r0
    have hp2 := range_pkt J0.out.r0
    have sa := I0.out.sz
    have sb := J0.out.sz
    go_wp2_with fail
    clear hp1 hp2 sa sb
    clear HM HN hCA hCB hia hib
    go_loopw [5, 6] (fun o i w' => ∃ (k : Nat) (q : Bool), k ≤ 11 ∧ o = .bool q ∧ i = .int .i64 k ∧ Hid (q = (false && upB k (fun j => rIn (A.rg j) (B.rg j)))) ∧ Hid (RwI w.heap.size w w' w.heap.size (stC A)) ∧ Hid (RwI w.heap.size w w' (w.heap.size + 1) (stC B))) (fun o i _ => 11 - (intOf i).toNat)
    case atStart => exact ⟨0, _, by omega, rfl, rfl, hid (by rw [upB_zero, Bool.and_true]; try exact decide_eq_false (by omega)), I0, J0⟩
    case round =>
      obtain ⟨k, q, hk, rfl, rfl, hq, I0, J0⟩ := hrel
      by_cases hlt : k < 11
      · have hlt' : (k : Int) < 11 := by omega
        rcases (show q = false ∨ q = true by cases q <;> simp) with rfl | rfl
        · go_wp2_with fail
          refine wp_region_held_drew (S := (fun w' : World => Below wr.heap.size wr w')) (by kernel_rfl) ?_ (fun hHeld => ?_)
          · (try dsimp only); first | (with_reducible exact below_dr _) | (with_reducible exact Below.refl _ _) | exact below_dr _
          have hBk := below_dr wr
          refine tq 0 rfl (fun _ hS => by go_simp; try with_reducible rfl) ?_
          try simp only [s1, s2, s3]
          refine tq 1 rfl (fun _ hS => by go_simp; try with_reducible rfl) ?_
          try simp only [s1, s2, s3]
          refine ts 2 rfl ?_
          try simp only [s1, s2, s3]
          refine ts 3 rfl ?_
          try simp only [s1, s2, s3]
          refine ts 4 rfl ?_
          try simp only [s1, s2, s3]
          refine ts 5 rfl ?_
          try simp only [s1, s2, s3]
          refine ts 6 rfl ?_
          try simp only [s1, s2, s3]
          refine ts 7 rfl ?_
          try simp only [s1, s2, s3]
          refine ts 8 rfl ?_
          try simp only [s1, s2, s3]
          refine ts 9 rfl ?_
          try simp only [s1, s2, s3]
          refine ts 10 rfl ?_
          try simp only [s1, s2, s3]
          refine tq 11 rfl (fun _ hS => by go_simp; try with_reducible rfl) ?_
          try simp only [s1, s2, s3]
          refine tq 12 rfl (fun _ hS => by go_simp; try with_reducible rfl) ?_
          try simp only [s1, s2, s3]
          refine wpAnyH_done (by kernel_rfl) ?_ _
          have I2 := hid (I0.out.next hBk (by have := I0.out.bel.size; omega))
          have J2 := hid (J0.out.next hBk (by have := I0.out.bel.size; omega))
          clear I0 J0 hBk
          have I0 := I2
          have J0 := J2
          clear I2 J2
          go_wp2
          go_roundw
          case rel => first | exact ⟨k + 1, false, by omega, rfl, by go_num, hid (by rw [upB_succ k, ← Bool.and_assoc, ← hq.out]; rfl), I0, J0⟩ | ((repeat apply Exists.intro); exact ⟨⟨k + 1, false, by omega, rfl, by go_num, hid (by rw [upB_succ k, ← Bool.and_assoc, ← hq.out]; rfl), I0, J0⟩, rfl⟩)
          case measure => simp [intOf]; omega
        · exact absurd hq.out (by simp)
      · have hk8 : k = 11 := by omega
        subst hk8
        clear hlt hk
        skip
        have hQ := hq
        clear hq
        go_wp2_with fail
        go_loopw [5, 7] (fun o i w' => ∃ (k : Nat) (q : Bool), k ≤ 64 ∧ o = .bool q ∧ i = .int .i64 k ∧ Hid (q = ((false && upB 11 (fun j => rIn (A.rg j) (B.rg j))) && upB k (fun j => kIn (A.sk j) (B.sk j)))) ∧ Hid (RwI w.heap.size w w' w.heap.size (stC A)) ∧ Hid (RwI w.heap.size w w' (w.heap.size + 1) (stC B))) (fun o i _ => 64 - (intOf i).toNat)
        case atStart => exact ⟨0, _, by omega, rfl, rfl, hid (by rw [upB_zero, Bool.and_true]; exact hQ.out), I0, J0⟩
        case round =>
          obtain ⟨k, q, hk, rfl, rfl, hq, I0, J0⟩ := hrel
          by_cases hlt : k < 64
          · have hlt' : (k : Int) < 64 := by omega
            rcases (show q = false ∨ q = true by cases q <;> simp) with rfl | rfl
            · go_wp2_with fail
              refine wp_region_held_drew (S := (fun w' : World => Below wr.heap.size wr w')) (by kernel_rfl) ?_ (fun hHeld => ?_)
              · (try dsimp only); first | (with_reducible exact below_dr _) | (with_reducible exact Below.refl _ _) | exact below_dr _
              have hBk := below_dr wr
              refine tq 0 rfl (fun _ hS => by go_simp; try with_reducible rfl) ?_
              try simp only [s1, s2, s3]
              refine tq 1 rfl (fun _ hS => by go_simp; try with_reducible rfl) ?_
              try simp only [s1, s2, s3]
              refine ts 2 rfl ?_
              try simp only [s1, s2, s3]
              refine ts 3 rfl ?_
              try simp only [s1, s2, s3]
              refine ts 4 rfl ?_
              try simp only [s1, s2, s3]
              refine ts 5 rfl ?_
              try simp only [s1, s2, s3]
              refine ts 6 rfl ?_
              try simp only [s1, s2, s3]
              refine ts 7 rfl ?_
              try simp only [s1, s2, s3]
              refine ts 8 rfl ?_
              try simp only [s1, s2, s3]
              refine ts 9 rfl ?_
              try simp only [s1, s2, s3]
              refine ts 10 rfl ?_
              try simp only [s1, s2, s3]
              refine tq 11 rfl (fun _ hS => by go_simp; try with_reducible rfl) ?_
              try simp only [s1, s2, s3]
              refine tq 12 rfl (fun _ hS => by go_simp; try with_reducible rfl) ?_
              try simp only [s1, s2, s3]
              refine wpAnyH_done (by kernel_rfl) ?_ _
              have I2 := hid (I0.out.next hBk (by have := I0.out.bel.size; omega))
              have J2 := hid (J0.out.next hBk (by have := I0.out.bel.size; omega))
              clear I0 J0 hBk
              have I0 := I2
              have J0 := J2
              clear I2 J2
              go_wp2
              go_roundw
              case rel => first | exact ⟨k + 1, false, by omega, rfl, by go_num, hid (by rw [upB_succ k, ← Bool.and_assoc, ← hq.out]; rfl), I0, J0⟩ | ((repeat apply Exists.intro); exact ⟨⟨k + 1, false, by omega, rfl, by go_num, hid (by rw [upB_succ k, ← Bool.and_assoc, ← hq.out]; rfl), I0, J0⟩, rfl⟩)
              case measure => simp [intOf]; omega
            · exact absurd hq.out (by simp)
          · have hk8 : k = 64 := by omega
            subst hk8
            clear hlt hk
            clear hQ
            go_wp2
            go_ret
            refine ⟨Me.ret_val ?_, I0.out.bel⟩
            rw [HRR.out, ← hq.out]
            rfl
end Go.Proofs.Ytoanbjnhoggpjaa
