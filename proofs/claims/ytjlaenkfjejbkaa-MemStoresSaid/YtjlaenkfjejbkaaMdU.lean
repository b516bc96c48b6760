/-
  The document's Store of a number.
-/
import Derived.Test.YtjlaenkfjejbkaaMdT
namespace Go.Proofs.Ytjlaenkfjejbkaa
set_option linter.unusedSimpArgs false
set_option linter.unusedVariables false
open Go.ChangeShapes Go.WideShapes Go.ChangeAt Go.RowKit

theorem put_none (b : List Int) (i : Nat) (x : Int) : putL b i (layL x 0) = b := by
  simp [putL, layL]
theorem lay_put_ok {h x : Int} {b : List Int} {i k : Nat} (hb : b.length = 8) (hbb : ∀ y ∈ b, 0 ≤ y ∧ y < 256) (hik : i + k ≤ 8) : SOk ⟨orB h i k, putL b i (layL x k), v0⟩ :=
  ⟨orB_bd h i k, by show (putL b i (layL x k)).length = 8; rw [putL_len (by rw [layL_len]; omega), hb], putL_bd hbb (layL_bd x k), v0_ok⟩
set_option maxRecDepth 100000 in
set_option maxHeartbeats 6400000 in
theorem rstore_n (F : Nat → Sl) (off size : Int) (v : Vl) (w : World) (hF : FOk F) (hv : VOk v) (ho : -9223372036854775808 ≤ off ∧ off < 9223372036854775808) (hr : rightF F = true) (hm : mayB v = true) (hs : sizeB size = true) (hk : v.k ≠ 0) (hp : placeE off size = 0) (ha : adrB v = false) :
    Calls Try.prog 18 #[fV F, .int .i64 off, .int .i64 size, vV v] w fun e w' => e = .returned (.tuple #[fV (storeF F off size v).1, .int .i64 (storeF F off size v).2]) ∧ Below w.heap.size w w' := by
  have HRt : Hid (∀ W, Calls Try.prog 16 #[.agg (fC F).toArray] W fun e w' => e = .returned (.bool true) ∧ Below W.heap.size W w') := fun W => hr ▸ rRight_any F W hF
  have HI35 : Hid ((Try.prog.info? 29).map (·.size) = some (fC F).length) := hid (by rw [fC_len hF]; kernel_rfl)
  have HM : Hid (∀ W, Calls Try.prog 21 #[vV v] W fun e w' => e = .returned (.bool true) ∧ Below W.heap.size W w') := fun W => hm ▸ rmay_any v W
  have HZ : Hid (∀ W, Calls Try.prog 32 #[.int .i64 size] W fun e w' => e = .returned (.bool true) ∧ W = w') := fun W => hs ▸ rsized_any size W
  have HO := hid (fun W => rplace_any off size W hs ho)
  rw [hp] at HO
  have HAv : Hid (∀ W, Calls Try.prog 34 #[vV v] W fun e w' => e = .returned (.bool (adrB v)) ∧ Below W.heap.size W w') := hid (fun W => radr_may hm ▸ raddr_any v W)
  have hL : storeF F off size v = if (storeS (F (off / 8).toNat) (off % 8).toNat size.toNat v).2 ≠ 0 then (f0, (storeS (F (off / 8).toNat) (off % 8).toNat size.toNat v).2) else (setF F (off / 8).toNat (storeS (F (off / 8).toNat) (off % 8).toNat size.toNat v).1, 0) := by simp [storeF, hr, hm, hs, hk, hp]
  rw [hL]
  clear hL
  obtain ⟨h0, h1, hz, h2, e1, e2, e3⟩ := place_ok hs hp
  have hsr : rightS (F (off / 8).toNat) = true := List.all_eq_true.1 hr _ (List.mem_range.2 h2)
  have hG := storeS_ok (hF _ h2) hz hv
  obtain ⟨vk, vm, vn, vo⟩ := v
  have I0 := hid (StP.first w F vk vm vn vo hF 29 25 29)
  generalize (off / 8).toNat = K at *
  generalize (off % 8).toNat = i at *
  generalize size.toNat = n at *
  subst e3
  have hso := hF K h2
  have hrkF := fun (W : World) (hW : StP w F ⟨vk, vm, vn, vo⟩ W) => range_at hF hW.r0 K h2
  have HFOK := hid hF
  generalize hFK : F K = s at hso hsr hrkF hG ⊢
  have HFK := hid hFK
  clear hFK
  have HSO := hid hso
  have HRKF := hid hrkF
  have HS : Hid ((Try.prog.info? 27).map (·.size) = some (sC s).length) := hid (by rw [sC_len hso]; exact info27)
  have hK : (K : Int) < 64 := by omega
  have hn1 : 1 ≤ n ∧ n ≤ 8 := by rcases hz.1 with h | h | h | h <;> omega
  have HZP := hid hz
  have hek : (vk == 0) = false := by simpa using hk
  have BF := rbld_f0
  have ZF := (zero_of_info rzf_info).1
  unfold fV at BF ZF ⊢
  unfold vV at HM HAv ⊢
  dsimp only at HM HAv ⊢
  have h512 := h1
  have HR0 := hid I0.out.r0
  have hov := hv
  clear hr hF hs hp hz hso hrkF h1 hm hk ho
  rw [ha] at HAv
  obtain ⟨sh, sl, ⟨uk, um, un, uo⟩⟩ := s
  have hvn : 0 ≤ vn ∧ vn < 18446744073709551616 := hov.2.2.1
  by_cases hu : (⟨uk, um, un, uo⟩ : Vl) = v0
  · injection hu with q1 q2 q3 q4
    subst q1 q2 q3 q4
    have HAdr : Hid (∀ W, Calls Try.prog 34 #[.agg #[.int .u8 0, .int .i64 0, .int .u64 0, .int .i64 0]] W fun e w' => e = .returned (.bool false) ∧ Below W.heap.size W w') := hid (fun W => raddr_any v0 W)
    have hst : storeS ⟨sh, sl, ⟨0, 0, 0, 0⟩⟩ i n ⟨vk, vm, vn, vo⟩ = (⟨orB sh i n, putL sl i (layL vn n), v0⟩, 0) := by
      have hbase : baseS ⟨sh, sl, ⟨0, 0, 0, 0⟩⟩ = ⟨sh, sl, ⟨0, 0, 0, 0⟩⟩ := by unfold baseS; rw [if_pos (show (⟨sh, sl, ⟨0, 0, 0, 0⟩⟩ : Sl).v = v0 from rfl)]
      simp [storeS, ha, numS, hbase]
    rw [hst] at hG ⊢
    simp only [ne_eq, not_true_eq_false, if_false]
    have HG := hid hG
    have HBH : Hid (0 ≤ sh ∧ sh < 256) := hid HSO.out.1
    have HBL : Hid (sl.length = 8) := hid HSO.out.2.1
    have HBB : Hid (∀ y ∈ sl, 0 ≤ y ∧ y < 256) := hid HSO.out.2.2.1
    have hin := HZP.out.2
    clear hst ha hG
    go_enter Try.func18, Try.ntmps18
    go_wp2_with (refine wpList_load_mid (op := ⟨_, .load 29 _, _, _, _, _⟩) rfl 29 _ rfl w.heap.size 0 rfl (fC F) _ HR0.out Try.underlying29 rfl HI35.out ?_)
    refine (HRt.out _).mono ?_
    rintro e w1 ⟨rfl, b1⟩
    have I1 := hid (I0.out.next b1)
    obtain ⟨c0, c1, c2, c3⟩ := I1.out.cv
    clear b1 HR0
    go_wp2_with fail
    refine (HM.out _).mono ?_
    rintro e w2 ⟨rfl, b2⟩
    have I2 := hid (I1.out.next b2)
    clear b2 c0 c1 c2 c3
    obtain ⟨c0, c1, c2, c3⟩ := I2.out.cv
    have HT := hid (there_box w2 #[.int .u8 0, .int .u8 0, .int .u8 0, .int .u8 0, .int .u8 0, .int .u8 0, .int .u8 0, .int .u8 0, .int .u8 0, .int .u8 0, .int .i64 0, .int .u64 0, .int .i64 0] 27 13 rfl)
    have J4 := hid (StR.mk3 I2.out HSO.out HT.out)
    have HRk : Hid (w2.rangeAt w.heap.size (K * 13) (sC ⟨sh, sl, ⟨0, 0, 0, 0⟩⟩)) := hid (by have := HRKF.out _ I2.out; rwa [Nat.zero_add] at this)
    go_wp2_with (first | (go_at_call 32; refine (HZ.out _).mono ?_; rintro e w9 ⟨rfl, rfl⟩) | (go_at_call 33; refine (HO.out _).mono ?_; rintro e w9 ⟨rfl, rfl⟩) | ((with_reducible refine at_load 27 ?_); refine wpList_load_mid rfl 27 _ rfl w.heap.size (K * 13) rfl (sC ⟨sh, sl, ⟨0, 0, 0, 0⟩⟩) _ HRk.out Try.underlying27 rfl HS.out ?_) | ((with_reducible refine at_store 27 ?_); refine wpList_store_s _ _ rfl rfl w2.heap.size ⟨sh, sl, ⟨0, 0, 0, 0⟩⟩ HSO.out rfl rfl HT.out ?_; generalize (w2.alloc (.cells #[.int .u8 0, .int .u8 0, .int .u8 0, .int .u8 0, .int .u8 0, .int .u8 0, .int .u8 0, .int .u8 0, .int .u8 0, .int .u8 0, .int .i64 0, .int .u64 0, .int .i64 0] 27)).setCells w2.heap.size 0 (sC ⟨sh, sl, ⟨0, 0, 0, 0⟩⟩) = w4 at J4 ⊢; generalize w2.heap.size = g at J4 ⊢; clear c0 c1 c2 c3; obtain ⟨c0, c1, c2, c3⟩ := J4.out.p.cv))
    refine (HAv.out _).mono ?_
    rintro e w5 ⟨rfl, b5⟩
    have J5 := hid (J4.out.next b5)
    clear b5 c0 c1 c2 c3 J4 I0 I1 I2 HRk HT
    obtain ⟨c0, c1, c2, c3⟩ := J5.out.p.cv
    obtain ⟨d0, d1, d2, d3, d4⟩ := rs_v J5.out.rs HBL.out
    go_wp2_with fail
    refine (HAdr.out _).mono ?_
    rintro e w6 ⟨rfl, b6⟩
    have J6 := hid (J5.out.next b6)
    clear b6 c0 c1 c2 c3 d0 d1 d2 d3 d4 J5
    obtain ⟨c0, c1, c2, c3⟩ := J6.out.p.cv
    go_wp2_with fail
    go_loopw [13, 14] (fun nv jv w' => ∃ k : Nat, k ≤ n ∧ jv = .int .i64 k ∧ nv = .int .u64 (vn / 256 ^ k) ∧ Hid (StR w g F ⟨orB sh i k, putL sl i (layL vn k), v0⟩ ⟨vk, vm, vn, vo⟩ w')) (fun _ jv _ => n - (intOf jv).toNat)
    case atStart => exact ⟨0, Nat.zero_le _, rfl, by simp, by
      have := J6.out
      rw [put_none, or_zero _ _ HBH.out.1 HBH.out.2]
      exact hid this⟩
    case round =>
      obtain ⟨k, hk, rfl, rfl, JI⟩ := hrel
      by_cases hlt : k < n
      · have hlt' : (k : Int) < n := by omega
        have hik : i + k < 8 := by omega
        have HOK := hid (lay_put_ok (h := sh) (x := vn) (i := i) (k := k) HBL.out HBB.out (by omega))
        have HH := hid (fun W => rhas_any ⟨orB sh i k, putL sl i (layL vn k), v0⟩ (i + k) W HOK.out hik)
        have HSk : Hid ((Try.prog.info? 27).map (·.size) = some (sC (⟨orB sh i k, putL sl i (layL vn k), v0⟩ : Sl)).length) := hid (by rw [sC_len HOK.out]; exact info27)
        have HST := hid (or_step sh i k HBH.out.1 HBH.out.2 hik)
        have HPS := hid (put_snoc (b := sl) (i := i) (k := k) (x := vn) HBL.out hik)
        have hob := orB_bd sh i k
        have hob1 := orB_bd sh i (k + 1)
        unfold sV at HH
        dsimp only at HH
        rw [Int.natCast_add] at HH
        have hx0 : 0 ≤ vn / 256 ^ k := Int.ediv_nonneg hvn.1 (Int.le_of_lt (Int.pow_pos (by decide)))
        have hx1 : vn / 256 ^ k < 18446744073709551616 := Int.lt_of_le_of_lt (Int.ediv_le_self _ hvn.1) hvn.2
        have HX : Hid (vn / 256 ^ k / 256 = vn / 256 ^ (k + 1)) := hid (by rw [Int.pow_succ, Int.ediv_ediv_of_nonneg (Int.le_of_lt (Int.pow_pos (by decide)))])
        have hxx : 0 ≤ vn / 256 ^ k / 256 ∧ vn / 256 ^ k / 256 < 18446744073709551616 := by omega
        generalize hX : vn / 256 ^ k = X at hx0 hx1 HX HPS hxx ⊢
        have HXE := hid hX
        clear hX
        cases hhb : hasB (orB sh i k) (i + k)
        · rw [hhb] at HH
          rw [hhb, if_neg (by decide)] at HST
          have hp2 : orB sh i k + 2 ^ (i + k) < 256 := by rw [← HST.out]; exact hob1.2
          have hp0 : (0 : Int) ≤ 2 ^ (i + k) := Int.le_of_lt (Int.pow_pos (by decide))
          generalize hO : orB sh i k = O at *
          generalize hL : putL sl i (layL vn k) = L at *
          have hL8 : L.length = 8 := HOK.out.2.1
          clear hhb hO
          go_wp2_with ((with_reducible refine at_load 27 ?_); refine wpList_load_mid rfl 27 _ rfl g 0 rfl (sC ⟨O, L, v0⟩) _ JI.out.rs Try.underlying27 rfl HSk.out ?_)
          refine (HH.out _).mono ?_
          rintro e w7 ⟨rfl, b7⟩
          have J7 := hid (JI.out.next b7)
          clear b7
          have hcb := rs_b J7.out.rs hL8 (i + k) hik
          obtain ⟨d0, _⟩ := rs_v (k := 0) (m := 0) (n := 0) (o := 0) J7.out.rs hL8
          have hf0 := (J7.out.ts 0 (by decide)).2
          have hfb := (J7.out.ts (1 + (i + k)) (by omega)).2
          rw [Nat.zero_add] at hf0 hfb
          have J8 : Hid (StR w g F ⟨orB sh i (k + 1), putL sl i (layL vn (k + 1)), v0⟩ ⟨vk, vm, vn, vo⟩ ((w7.setCell ⟨g, 0, none⟩ (.int .u8 (O + 2 ^ (i + k)))).setCell ⟨g, 1 + (i + k), none⟩ (.int .u8 (X % 256)))) := hid (by
            have q := StR.slot (o := 1 + (i + k)) (cs := [.int .u8 (X % 256)]) (StR.slot (o := 0) (cs := [.int .u8 (O + 2 ^ (i + k))]) J7.out (set_h J7.out.rs)) (set_b hL8 hik (set_h J7.out.rs))
            rw [HPS.out] at q
            rw [HST.out]
            exact q)
          go_wp2
          go_roundw
          case rel => exact ⟨k + 1, by omega, by go_num, by rw [HX.out], J8⟩
          case measure => simp [intOf]; omega
        · rw [hhb] at HH
          rw [hhb, if_pos rfl] at HST
          generalize hO : orB sh i k = O at *
          generalize hL : putL sl i (layL vn k) = L at *
          have hL8 : L.length = 8 := HOK.out.2.1
          clear hhb hO
          go_wp2_with ((with_reducible refine at_load 27 ?_); refine wpList_load_mid rfl 27 _ rfl g 0 rfl (sC ⟨O, L, v0⟩) _ JI.out.rs Try.underlying27 rfl HSk.out ?_)
          refine (HH.out _).mono ?_
          rintro e w7 ⟨rfl, b7⟩
          have J7 := hid (JI.out.next b7)
          clear b7
          have hcb := rs_b J7.out.rs hL8 (i + k) hik
          have hfb := (J7.out.ts (1 + (i + k)) (by omega)).2
          rw [Nat.zero_add] at hfb
          have J8 : Hid (StR w g F ⟨orB sh i (k + 1), putL sl i (layL vn (k + 1)), v0⟩ ⟨vk, vm, vn, vo⟩ (w7.setCell ⟨g, 1 + (i + k), none⟩ (.int .u8 (X % 256)))) := hid (by
            have q := StR.slot (o := 1 + (i + k)) (cs := [.int .u8 (X % 256)]) J7.out (set_b hL8 hik J7.out.rs)
            rw [HPS.out] at q
            rw [HST.out]
            exact q)
          go_wp2
          go_roundw
          case rel => exact ⟨k + 1, by omega, by go_num, by rw [HX.out], J8⟩
          case measure => simp [intOf]; omega
      · have hkn : k = n := by omega
        subst hkn
        have HSk : Hid ((Try.prog.info? 27).map (·.size) = some (sC (⟨orB sh i k, putL sl i (layL vn k), v0⟩ : Sl)).length) := hid (by rw [sC_len HG.out]; exact info27)
        have TM := hid (there_mid JI.out.p.t0 h2)
        have R8 := hid (frame_put HFOK.out HG.out h2 JI.out.p.r0 JI.out.p.t0)
        have B8 := hid (below_setCells w.heap.size (Nat.le_refl _) (sC (⟨orB sh i k, putL sl i (layL vn k), v0⟩ : Sl)) (K * 13) _ JI.out.p.bel)
        have T8 := hid (World.there_setCells JI.out.p.t2 w.heap.size (K * 13) (sC (⟨orB sh i k, putL sl i (layL vn k), v0⟩ : Sl)))
        have HG2 := hid (setF_ok (K := K) HFOK.out HG.out)
        have HI8 : Hid ((Try.prog.info? 29).map (·.size) = some (fC (setF F K (⟨orB sh i k, putL sl i (layL vn k), v0⟩ : Sl))).length) := hid (by rw [fC_len HG2.out]; exact info29r)
        go_wp2_with (first | ((with_reducible refine at_load 27 ?_); refine wpList_load_mid rfl 27 _ rfl g 0 rfl (sC (⟨orB sh i k, putL sl i (layL vn k), v0⟩ : Sl)) _ JI.out.rs Try.underlying27 rfl HSk.out ?_) | ((with_reducible refine at_store 27 ?_); refine store_mid_s _ _ rfl rfl w.heap.size (K * 13) (⟨orB sh i k, putL sl i (layL vn k), v0⟩ : Sl) HG.out rfl rfl TM.out ?_; generalize wr.setCells w.heap.size (K * 13) (sC (⟨orB sh i k, putL sl i (layL vn k), v0⟩ : Sl)) = w6 at R8 B8 T8 ⊢) | ((with_reducible refine at_load 29 ?_); refine wpList_load_mid rfl 29 _ rfl w.heap.size 0 rfl (fC (setF F K (⟨orB sh i k, putL sl i (layL vn k), v0⟩ : Sl))) _ R8.out Try.underlying29 rfl HI8.out ?_) | ((with_reducible refine at_store 29 ?_); refine wpList_store_rf _ _ rfl rfl (w.heap.size + 1 + 1) (setF F K (⟨orB sh i k, putL sl i (layL vn k), v0⟩ : Sl)) HG2.out rfl rfl T8.out ?_))
        exact bodyPost_ret (res_cell rfl _ _ (w.heap.size + 1 + 1) 0 (fC (setF F K (⟨orB sh i k, putL sl i (layL vn k), v0⟩ : Sl))) _ _ rfl rfl (World.rangeAt_setCells_same w6 (w.heap.size + 1 + 1) 0 (fC (setF F K (⟨orB sh i k, putL sl i (layL vn k), v0⟩ : Sl))) (by rw [fC_len HG2.out]; exact T8.out)) Try.underlying29 rfl HI8.out) rfl ⟨rfl, below_setCells (w.heap.size + 1 + 1) (by omega) (fC (setF F K (⟨orB sh i k, putL sl i (layL vn k), v0⟩ : Sl))) 0 w6 B8.out⟩
  · have hvv : (⟨sh, sl, ⟨uk, um, un, uo⟩⟩ : Sl).v ≠ v0 := hu
    have hra := hsr
    rw [addr_eq hvv, Bool.and_eq_true, Bool.and_eq_true] at hra
    obtain ⟨hm, haa, _⟩ := hra
    have hrad := radr_may hm
    rw [haa] at hrad
    dsimp only at hrad
    have HAdr : Hid (∀ W, Calls Try.prog 34 #[.agg #[.int .u8 uk, .int .i64 um, .int .u64 un, .int .i64 uo]] W fun e w' => e = .returned (.bool true) ∧ Below W.heap.size W w') := hid (fun W => hrad ▸ raddr_any ⟨uk, um, un, uo⟩ W)
    have hst : storeS ⟨sh, sl, ⟨uk, um, un, uo⟩⟩ i n ⟨vk, vm, vn, vo⟩ = (⟨orB 0 i n, putL z8 i (layL vn n), v0⟩, 0) := by
      have hbase : baseS ⟨sh, sl, ⟨uk, um, un, uo⟩⟩ = s0 := by unfold baseS; rw [if_neg hvv]
      simp [storeS, ha, numS, hbase, s0]
    rw [hst] at hG ⊢
    simp only [ne_eq, not_true_eq_false, if_false]
    have HG := hid hG
    have HBH : Hid ((0 : Int) ≤ 0 ∧ (0 : Int) < 256) := hid (by decide)
    have HBL : Hid (z8.length = 8) := hid rfl
    have HBB : Hid (∀ y ∈ z8, 0 ≤ y ∧ y < 256) := hid (fun x hx => by simp [z8] at hx; omega)
    have hin := HZP.out.2
    have HSL := hid HSO.out.2.1
    have BS0 := bld_s0_r
    clear hst ha hG hm haa hrad hsr hu hvv
    go_enter Try.func18, Try.ntmps18
    go_wp2_with (refine wpList_load_mid (op := ⟨_, .load 29 _, _, _, _, _⟩) rfl 29 _ rfl w.heap.size 0 rfl (fC F) _ HR0.out Try.underlying29 rfl HI35.out ?_)
    refine (HRt.out _).mono ?_
    rintro e w1 ⟨rfl, b1⟩
    have I1 := hid (I0.out.next b1)
    obtain ⟨c0, c1, c2, c3⟩ := I1.out.cv
    clear b1 HR0
    go_wp2_with fail
    refine (HM.out _).mono ?_
    rintro e w2 ⟨rfl, b2⟩
    have I2 := hid (I1.out.next b2)
    clear b2 c0 c1 c2 c3
    obtain ⟨c0, c1, c2, c3⟩ := I2.out.cv
    have HT := hid (there_box w2 #[.int .u8 0, .int .u8 0, .int .u8 0, .int .u8 0, .int .u8 0, .int .u8 0, .int .u8 0, .int .u8 0, .int .u8 0, .int .u8 0, .int .i64 0, .int .u64 0, .int .i64 0] 27 13 rfl)
    have J4 := hid (StR.mk3 I2.out HSO.out HT.out)
    have HRk : Hid (w2.rangeAt w.heap.size (K * 13) (sC ⟨sh, sl, ⟨uk, um, un, uo⟩⟩)) := hid (by have := HRKF.out _ I2.out; rwa [Nat.zero_add] at this)
    go_wp2_with (first | (go_at_call 32; refine (HZ.out _).mono ?_; rintro e w9 ⟨rfl, rfl⟩) | (go_at_call 33; refine (HO.out _).mono ?_; rintro e w9 ⟨rfl, rfl⟩) | ((with_reducible refine at_load 27 ?_); refine wpList_load_mid rfl 27 _ rfl w.heap.size (K * 13) rfl (sC ⟨sh, sl, ⟨uk, um, un, uo⟩⟩) _ HRk.out Try.underlying27 rfl HS.out ?_) | ((with_reducible refine at_store 27 ?_); refine wpList_store_s _ _ rfl rfl w2.heap.size ⟨sh, sl, ⟨uk, um, un, uo⟩⟩ HSO.out rfl rfl HT.out ?_; generalize (w2.alloc (.cells #[.int .u8 0, .int .u8 0, .int .u8 0, .int .u8 0, .int .u8 0, .int .u8 0, .int .u8 0, .int .u8 0, .int .u8 0, .int .u8 0, .int .i64 0, .int .u64 0, .int .i64 0] 27)).setCells w2.heap.size 0 (sC ⟨sh, sl, ⟨uk, um, un, uo⟩⟩) = w4 at J4 ⊢; generalize w2.heap.size = g at J4 ⊢; clear c0 c1 c2 c3; obtain ⟨c0, c1, c2, c3⟩ := J4.out.p.cv))
    refine (HAv.out _).mono ?_
    rintro e w5 ⟨rfl, b5⟩
    have J5 := hid (J4.out.next b5)
    clear b5 c0 c1 c2 c3 J4 I0 I1 I2 HRk HT
    obtain ⟨c0, c1, c2, c3⟩ := J5.out.p.cv
    obtain ⟨d0, d1, d2, d3, d4⟩ := rs_v J5.out.rs HSL.out
    go_wp2_with fail
    refine (HAdr.out _).mono ?_
    rintro e w6 ⟨rfl, b6⟩
    have J6 := hid (J5.out.next b6)
    clear b6 c0 c1 c2 c3 d0 d1 d2 d3 d4 J5
    obtain ⟨c0, c1, c2, c3⟩ := J6.out.p.cv
    have TS6 := hid J6.out.ts
    have J7 := hid (StR.slot (s' := s0) (o := 0) (cs := sC s0) J6.out (World.rangeAt_setCells_same w6 g 0 (sC s0) (by rw [sC_len s0_ok]; exact TS6.out)))
    go_wp2_with ((with_reducible refine at_store 27 ?_); refine wpList_store_s _ _ rfl rfl g s0 s0_ok rfl rfl TS6.out ?_; generalize w6.setCells g 0 (sC s0) = w7 at J7 ⊢; clear c0 c1 c2 c3; obtain ⟨c0, c1, c2, c3⟩ := J7.out.p.cv)
    go_loopw [13, 14] (fun nv jv w' => ∃ k : Nat, k ≤ n ∧ jv = .int .i64 k ∧ nv = .int .u64 (vn / 256 ^ k) ∧ Hid (StR w g F ⟨orB 0 i k, putL z8 i (layL vn k), v0⟩ ⟨vk, vm, vn, vo⟩ w')) (fun _ jv _ => n - (intOf jv).toNat)
    case atStart => exact ⟨0, Nat.zero_le _, rfl, by simp, by
      have := J7.out
      rw [put_none, or_zero _ _ HBH.out.1 HBH.out.2]
      exact hid this⟩
    case round =>
      obtain ⟨k, hk, rfl, rfl, JI⟩ := hrel
      by_cases hlt : k < n
      · have hlt' : (k : Int) < n := by omega
        have hik : i + k < 8 := by omega
        have HOK := hid (lay_put_ok (h := (0 : Int)) (x := vn) (i := i) (k := k) HBL.out HBB.out (by omega))
        have HH := hid (fun W => rhas_any ⟨orB 0 i k, putL z8 i (layL vn k), v0⟩ (i + k) W HOK.out hik)
        have HSk : Hid ((Try.prog.info? 27).map (·.size) = some (sC (⟨orB 0 i k, putL z8 i (layL vn k), v0⟩ : Sl)).length) := hid (by rw [sC_len HOK.out]; exact info27)
        have HST := hid (or_step 0 i k HBH.out.1 HBH.out.2 hik)
        have HPS := hid (put_snoc (b := z8) (i := i) (k := k) (x := vn) HBL.out hik)
        have hob := orB_bd 0 i k
        have hob1 := orB_bd 0 i (k + 1)
        unfold sV at HH
        dsimp only at HH
        rw [Int.natCast_add] at HH
        have hx0 : 0 ≤ vn / 256 ^ k := Int.ediv_nonneg hvn.1 (Int.le_of_lt (Int.pow_pos (by decide)))
        have hx1 : vn / 256 ^ k < 18446744073709551616 := Int.lt_of_le_of_lt (Int.ediv_le_self _ hvn.1) hvn.2
        have HX : Hid (vn / 256 ^ k / 256 = vn / 256 ^ (k + 1)) := hid (by rw [Int.pow_succ, Int.ediv_ediv_of_nonneg (Int.le_of_lt (Int.pow_pos (by decide)))])
        have hxx : 0 ≤ vn / 256 ^ k / 256 ∧ vn / 256 ^ k / 256 < 18446744073709551616 := by omega
        generalize hX : vn / 256 ^ k = X at hx0 hx1 HX HPS hxx ⊢
        have HXE := hid hX
        clear hX
        cases hhb : hasB (orB 0 i k) (i + k)
        · rw [hhb] at HH
          rw [hhb, if_neg (by decide)] at HST
          have hp2 : orB 0 i k + 2 ^ (i + k) < 256 := by rw [← HST.out]; exact hob1.2
          have hp0 : (0 : Int) ≤ 2 ^ (i + k) := Int.le_of_lt (Int.pow_pos (by decide))
          generalize hO : orB 0 i k = O at *
          generalize hL : putL z8 i (layL vn k) = L at *
          have hL8 : L.length = 8 := HOK.out.2.1
          clear hhb hO
          go_wp2_with ((with_reducible refine at_load 27 ?_); refine wpList_load_mid rfl 27 _ rfl g 0 rfl (sC ⟨O, L, v0⟩) _ JI.out.rs Try.underlying27 rfl HSk.out ?_)
          refine (HH.out _).mono ?_
          rintro e w7 ⟨rfl, b7⟩
          have J7 := hid (JI.out.next b7)
          clear b7
          have hcb := rs_b J7.out.rs hL8 (i + k) hik
          obtain ⟨d0, _⟩ := rs_v (k := 0) (m := 0) (n := 0) (o := 0) J7.out.rs hL8
          have hf0 := (J7.out.ts 0 (by decide)).2
          have hfb := (J7.out.ts (1 + (i + k)) (by omega)).2
          rw [Nat.zero_add] at hf0 hfb
          have J8 : Hid (StR w g F ⟨orB 0 i (k + 1), putL z8 i (layL vn (k + 1)), v0⟩ ⟨vk, vm, vn, vo⟩ ((w7.setCell ⟨g, 0, none⟩ (.int .u8 (O + 2 ^ (i + k)))).setCell ⟨g, 1 + (i + k), none⟩ (.int .u8 (X % 256)))) := hid (by
            have q := StR.slot (o := 1 + (i + k)) (cs := [.int .u8 (X % 256)]) (StR.slot (o := 0) (cs := [.int .u8 (O + 2 ^ (i + k))]) J7.out (set_h J7.out.rs)) (set_b hL8 hik (set_h J7.out.rs))
            rw [HPS.out] at q
            rw [HST.out]
            exact q)
          go_wp2
          go_roundw
          case rel => exact ⟨k + 1, by omega, by go_num, by rw [HX.out], J8⟩
          case measure => simp [intOf]; omega
        · rw [hhb] at HH
          rw [hhb, if_pos rfl] at HST
          generalize hO : orB 0 i k = O at *
          generalize hL : putL z8 i (layL vn k) = L at *
          have hL8 : L.length = 8 := HOK.out.2.1
          clear hhb hO
          go_wp2_with ((with_reducible refine at_load 27 ?_); refine wpList_load_mid rfl 27 _ rfl g 0 rfl (sC ⟨O, L, v0⟩) _ JI.out.rs Try.underlying27 rfl HSk.out ?_)
          refine (HH.out _).mono ?_
          rintro e w7 ⟨rfl, b7⟩
          have J7 := hid (JI.out.next b7)
          clear b7
          have hcb := rs_b J7.out.rs hL8 (i + k) hik
          have hfb := (J7.out.ts (1 + (i + k)) (by omega)).2
          rw [Nat.zero_add] at hfb
          have J8 : Hid (StR w g F ⟨orB 0 i (k + 1), putL z8 i (layL vn (k + 1)), v0⟩ ⟨vk, vm, vn, vo⟩ (w7.setCell ⟨g, 1 + (i + k), none⟩ (.int .u8 (X % 256)))) := hid (by
            have q := StR.slot (o := 1 + (i + k)) (cs := [.int .u8 (X % 256)]) J7.out (set_b hL8 hik J7.out.rs)
            rw [HPS.out] at q
            rw [HST.out]
            exact q)
          go_wp2
          go_roundw
          case rel => exact ⟨k + 1, by omega, by go_num, by rw [HX.out], J8⟩
          case measure => simp [intOf]; omega
      · have hkn : k = n := by omega
        subst hkn
        have HSk : Hid ((Try.prog.info? 27).map (·.size) = some (sC (⟨orB 0 i k, putL z8 i (layL vn k), v0⟩ : Sl)).length) := hid (by rw [sC_len HG.out]; exact info27)
        have TM := hid (there_mid JI.out.p.t0 h2)
        have R8 := hid (frame_put HFOK.out HG.out h2 JI.out.p.r0 JI.out.p.t0)
        have B8 := hid (below_setCells w.heap.size (Nat.le_refl _) (sC (⟨orB 0 i k, putL z8 i (layL vn k), v0⟩ : Sl)) (K * 13) _ JI.out.p.bel)
        have T8 := hid (World.there_setCells JI.out.p.t2 w.heap.size (K * 13) (sC (⟨orB 0 i k, putL z8 i (layL vn k), v0⟩ : Sl)))
        have HG2 := hid (setF_ok (K := K) HFOK.out HG.out)
        have HI8 : Hid ((Try.prog.info? 29).map (·.size) = some (fC (setF F K (⟨orB 0 i k, putL z8 i (layL vn k), v0⟩ : Sl))).length) := hid (by rw [fC_len HG2.out]; exact info29r)
        go_wp2_with (first | ((with_reducible refine at_load 27 ?_); refine wpList_load_mid rfl 27 _ rfl g 0 rfl (sC (⟨orB 0 i k, putL z8 i (layL vn k), v0⟩ : Sl)) _ JI.out.rs Try.underlying27 rfl HSk.out ?_) | ((with_reducible refine at_store 27 ?_); refine store_mid_s _ _ rfl rfl w.heap.size (K * 13) (⟨orB 0 i k, putL z8 i (layL vn k), v0⟩ : Sl) HG.out rfl rfl TM.out ?_; generalize wr.setCells w.heap.size (K * 13) (sC (⟨orB 0 i k, putL z8 i (layL vn k), v0⟩ : Sl)) = w6 at R8 B8 T8 ⊢) | ((with_reducible refine at_load 29 ?_); refine wpList_load_mid rfl 29 _ rfl w.heap.size 0 rfl (fC (setF F K (⟨orB 0 i k, putL z8 i (layL vn k), v0⟩ : Sl))) _ R8.out Try.underlying29 rfl HI8.out ?_) | ((with_reducible refine at_store 29 ?_); refine wpList_store_rf _ _ rfl rfl (w.heap.size + 1 + 1) (setF F K (⟨orB 0 i k, putL z8 i (layL vn k), v0⟩ : Sl)) HG2.out rfl rfl T8.out ?_))
        exact bodyPost_ret (res_cell rfl _ _ (w.heap.size + 1 + 1) 0 (fC (setF F K (⟨orB 0 i k, putL z8 i (layL vn k), v0⟩ : Sl))) _ _ rfl rfl (World.rangeAt_setCells_same w6 (w.heap.size + 1 + 1) 0 (fC (setF F K (⟨orB 0 i k, putL z8 i (layL vn k), v0⟩ : Sl))) (by rw [fC_len HG2.out]; exact T8.out)) Try.underlying29 rfl HI8.out) rfl ⟨rfl, below_setCells (w.heap.size + 1 + 1) (by omega) (fC (setF F K (⟨orB 0 i k, putL z8 i (layL vn k), v0⟩ : Sl))) 0 w6 B8.out⟩
  

theorem rStore_any (F : Nat → Sl) (off size : Int) (v : Vl) (w : World) (hF : FOk F) (hv : VOk v) (ho : -9223372036854775808 ≤ off ∧ off < 9223372036854775808) :
    Calls Try.prog 18 #[fV F, .int .i64 off, .int .i64 size, vV v] w fun e w' => e = .returned (.tuple #[fV (storeF F off size v).1, .int .i64 (storeF F off size v).2]) ∧ Below w.heap.size w w' := by
  cases hr : rightF F
  · exact rstore_a F off size v w hF hv ho hr
  cases hm : mayB v
  · exact rstore_b F off size v w hF hv ho hr hm
  cases hs : sizeB size
  · exact rstore_c F off size v w hF hv ho hr hm hs
  by_cases hk : v.k = 0
  · exact rstore_d F off size v w hF hv ho hr hm hs hk
  by_cases hp : placeE off size = 0
  · cases ha : adrB v
    · exact rstore_n F off size v w hF hv ho hr hm hs hk hp ha
    · exact rstore_g F off size v w hF hv ho hr hm hs hk hp ha
  · exact rstore_e F off size v w hF hv ho hr hm hs hk hp

end Go.Proofs.Ytjlaenkfjejbkaa
