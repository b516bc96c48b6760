/-
  MemKinds: the walk.
-/
import Derived.Test.YtjlaenkfjejbkaaMbW
import Derived.Test.YtjlaenkfjejbkaaMbQ
import Derived.Test.YtjlaenkfjejbkaaMbI0
import Derived.Test.YtjlaenkfjejbkaaMeD
namespace Go.Proofs.Ytjlaenkfjejbkaa
set_option linter.unusedSimpArgs false
set_option linter.unusedVariables false
open Go.ChangeShapes Go.WideShapes Go.ChangeAt Go.RowKit

set_option maxRecDepth 100000 in
set_option maxHeartbeats 3200000 in
theorem memKinds_walk (pv : Value) (l : List Ac) (xo xs xk xm xn xv : Int) (w : World) (hp : ASl pv l w) (hl : ∀ x ∈ l, AOk x) (hn : (l.length : Int) < 9223372036854775808) (hx : AOk ⟨xo, xs, ⟨xk, xm, xn, xv⟩⟩) :
    Calls Try.prog 9 #[pv, .agg #[.int .i64 xo, .int .i64 xs, .int .u8 xk, .int .i64 xm, .int .u64 xn, .int .i64 xv]] w fun e w' => e = .returned (.bool true) ∧ Below w.heap.size w w' := by
  have ZF0 := (zero_of_info zf_info).1
  have ZF : ∀ w, (zeroValue 35).run Try.prog w = .ok (.agg (fC f0).toArray) w := ZF0
  have HAw := hid awake_any
  have hFF : FOk (frameF l) := frameF_ok hl
  have HFr0 : Hid (∀ W, Below w.heap.size w W → Calls Try.prog 26 #[pv] W fun e w' => e = .returned (.agg (fC (frameF l)).toArray) ∧ Below W.heap.size W w') := hid (fun W hb => frame_any pv l W (hp.below hb) hl hn)
  have hRF := right_frame hl
  generalize frameF l = FF at HFr0 hFF hRF
  have HSt := hid (fun W => Store_any FF xo xs ⟨xk, xm, xn, xv⟩ W hFF hx.2.2 hx.1)
  have hG := storeF_ok (off := xo) (size := xs) (v := ⟨xk, xm, xn, xv⟩) hFF hx.2.2
  have HX := hid hx
  have hkE := store_kinds FF xo xs ⟨xk, xm, xn, xv⟩ hRF
  have hbad := @store_bad FF xo xs ⟨xk, xm, xn, xv⟩
  generalize hRR : storeF FF xo xs ⟨xk, xm, xn, xv⟩ = RR at HSt hG hkE hbad
  obtain ⟨G, E⟩ := RR
  clear hRR
  have HMay := hid (fun W => rmay_any ⟨xk, xm, xn, xv⟩ W)
  unfold fV vV at HSt
  unfold vV at HMay
  dsimp only at HSt hG hkE hbad HMay
  have HG := hid hG
  have HKE := hid hkE
  have HBAD := hid hbad
  clear hx hkE hbad hRF hG
  have HIF : Hid ((Try.prog.info? 35).map (·.size) = some (fC FF).length) := hid (by rw [fC_len hFF]; exact info35)
  have hlF : (fC FF).length = 832 := fC_len hFF
  have hoF := one_fC FF
  clear ZF0 hp hl hn
  go_enter Try.func9, Try.ntmps9
  go_wp2_with fail
  refine (HAw.out _).mono ?_
  rintro e w1 ⟨rfl, b1⟩
  have X1 := hid (C6.first b1)
  have B1 := hid (((Below.refl w.heap.size w).alloc (Nat.le_refl _) _).trans (b1.mono (by simp)))
  have p1 : w.heap.size < w1.heap.size := by have := b1.size; simp at this; omega
  have p1' : w.heap.size + 1 ≤ w1.heap.size := p1
  clear b1
  have HFr : Hid (∀ W, Below (w.heap.size + 1) w1 W → Calls Try.prog 26 #[pv] W fun e w' => e = .returned (.agg (fC FF).toArray) ∧ Below W.heap.size W w') := hid (fun W hb => HFr0.out W (B1.out.trans (hb.mono (Nat.le_succ _))))
  have hBB : Below (w.heap.size + 1) w1 w1 := Below.refl _ _
  have HU : ∀ W : World, (W.alloc (.cells (fC f0).toArray 35)).there W.heap.size 0 832 := fun W => there_box W _ 35 832 f0_size
  go_wp2_with fail
  refine (HFr.out _ hBB).mono ?_
  rintro e wa ⟨rfl, ba⟩
  have HT := hid (HU wa)
  have hR := World.rangeAt_setCells_same (wa.alloc (.cells (fC f0).toArray 35)) wa.heap.size 0 (fC FF) (by rw [hlF]; exact HT.out)
  have hBel : Below (w.heap.size + 1) w1 ((wa.alloc (.cells (fC f0).toArray 35)).setCells wa.heap.size 0 (fC FF)) := below_setCells wa.heap.size (Nat.le_trans p1' ba.size) (fC FF) 0 _ ((ba.mono p1').alloc (Nat.le_trans p1' ba.size) _)
  have pf : w.heap.size < wa.heap.size := Nat.lt_of_lt_of_le p1 ba.size
  have p2 : wa.heap.size < ((wa.alloc (.cells (fC f0).toArray 35)).setCells wa.heap.size 0 (fC FF)).heap.size := Nat.lt_of_lt_of_le (by simp) (below_setCells (n := 0) (a := wa.alloc (.cells (fC f0).toArray 35)) wa.heap.size (Nat.zero_le _) (fC FF) 0 _ (Below.refl _ _)).size
  have X2 := hid (X1.out.near (Nat.lt_succ_self _) hBel)
  have B2 := hid (B1.out.trans (hBel.mono (Nat.le_succ _)))
  have R2 := hid hR
  have HFF2 := hid hFF
  clear hR hBel ba hBB p1 p1' B1 X1 HFr HFr0 HAw hlF hoF hFF
  go_wp2_with (first | ((with_reducible refine at_store 35 ?_); refine wpList_store_f _ _ rfl rfl wa.heap.size FF HFF2.out rfl rfl HT.out ?_; generalize (wa.alloc (.cells (fC f0).toArray 35)).setCells wa.heap.size 0 (fC FF) = w2 at X2 B2 R2 p2 ⊢; generalize wa.heap.size = Bf at R2 p2 pf ⊢; obtain ⟨c0, c1, c2, c3, c4, c5⟩ := X2.out) | ((with_reducible refine at_load 35 ?_); refine wpList_load_mid rfl 35 _ rfl Bf 0 rfl (fC FF) _ R2.out Try.underlying35 rfl HIF.out ?_))
  rename_i k1 hK k0 h0
  have HK := hid hK
  clear hK
  refine (HSt.out _).mono ?_
  rintro e wb ⟨rfl, bb⟩
  have HTb := hid (HU wb)
  have J3 := hid (ApI.mk2 B2.out X2.out R2.out p2 pf bb HG.out HTb.out)
  clear bb c0 c1 c2 c3 c4 c5
  go_wp2_with ((with_reducible refine at_store 35 ?_); refine wpList_store_f _ _ rfl rfl wb.heap.size G HG.out rfl rfl HTb.out ?_; generalize (wb.alloc (.cells (fC f0).toArray 35)).setCells wb.heap.size 0 (fC G) = w3 at J3 ⊢; generalize wb.heap.size = Bg at J3 ⊢)
  refine HK.out _ _ ?_
  clear HK HTb HSt X2 B2 R2 p2 pf HU ZF HT HFF2
  have HIG : Hid ((Try.prog.info? 35).map (·.size) = some (fC G).length) := hid (by rw [fC_len HG.out]; exact info35)
  obtain ⟨c0, c1, c2, c3, c4, c5⟩ := J3.out.c6
  refine wp_seq (Code.wp_mono (Q := CutR (fun a W' => W' = w3 ∧ ∃ x26 x27 x28 x29 x30 x31 x32 x33 x34 x35 x36 x37 x38 x39 x40 x41 x42 x43 : Value, a = { tmps := #[pv, .agg #[.int .i64 xo, .int .i64 xs, .int .u8 xk, .int .i64 xm, .int .u64 xn, .int .i64 xv], undef, .pointer (some ⟨w.heap.size, 0, none⟩), .bool false, .pointer (some ⟨Bf, 0, none⟩), .pointer (some ⟨Bg, 0, none⟩), .int .i64 E, .bool (sizeB xs), undef, undef, .bool true, .bool false, pv, .agg (fC FF).toArray, .tuple #[.agg (fC G).toArray, .int .i64 E], .agg (fC FF).toArray, .pointer (some ⟨w.heap.size, 0, none⟩), .int .i64 xo, .pointer (some ⟨w.heap.size, 1, none⟩), .int .i64 xs, .pointer (some ⟨w.heap.size, 2, none⟩), .agg #[.int .u8 xk, .int .i64 xm, .int .u64 xn, .int .i64 xv], .tuple #[.agg (fC G).toArray, .int .i64 E], .agg (fC G).toArray, .int .i64 E, x26, x27, x28, x29, x30, x31, x32, x33, x34, x35, x36, x37, x38, x39, x40, x41, x42, x43, undef, undef, undef, undef, undef, undef, undef, undef, undef, undef, undef, undef, undef, undef, undef, undef, undef, undef, undef, undef, undef, undef, undef, undef, undef, undef, undef, undef, undef, undef, undef, undef, undef, undef, undef, undef, undef, undef, undef, undef, undef, undef, undef, undef, undef, undef, undef, undef, undef, undef, undef, undef, undef, undef, undef, undef, undef, undef, undef, undef, undef, undef], defers := [] })) (CutR.imp ?_) ?_)
  rotate_left
  · unfold sizeB
    cases h1 : (xs == 1)
    · cases h2 : (xs == 2)
      · cases h3 : (xs == 4)
        · cases h4 : (xs == 8) <;> (go_wp2; exact ⟨rfl, _, _, _, _, _, _, _, _, _, _, _, _, _, _, _, _, _, _, rfl⟩)
        · go_wp2; exact ⟨rfl, _, _, _, _, _, _, _, _, _, _, _, _, _, _, _, _, _, _, rfl⟩
      · go_wp2; exact ⟨rfl, _, _, _, _, _, _, _, _, _, _, _, _, _, _, _, _, _, _, rfl⟩
    · go_wp2; exact ⟨rfl, _, _, _, _, _, _, _, _, _, _, _, _, _, _, _, _, _, _, rfl⟩
  rintro a w4 ⟨rfl, x26, x27, x28, x29, x30, x31, x32, x33, x34, x35, x36, x37, x38, x39, x40, x41, x42, x43, rfl⟩
  go_step
  refine wp_seq (Code.wp_mono (Q := CutR (fun a W' => W' = w4 ∧ ∃ x44 x45 x46 x47 x48 x49 x50 x51 x52 x53 : Value, a = { tmps := #[pv, .agg #[.int .i64 xo, .int .i64 xs, .int .u8 xk, .int .i64 xm, .int .u64 xn, .int .i64 xv], undef, .pointer (some ⟨w.heap.size, 0, none⟩), .bool false, .pointer (some ⟨Bf, 0, none⟩), .pointer (some ⟨Bg, 0, none⟩), .int .i64 E, .bool (sizeB xs), .bool (adrB ⟨xk, xm, xn, xv⟩), undef, .bool true, .bool false, pv, .agg (fC FF).toArray, .tuple #[.agg (fC G).toArray, .int .i64 E], .agg (fC FF).toArray, .pointer (some ⟨w.heap.size, 0, none⟩), .int .i64 xo, .pointer (some ⟨w.heap.size, 1, none⟩), .int .i64 xs, .pointer (some ⟨w.heap.size, 2, none⟩), .agg #[.int .u8 xk, .int .i64 xm, .int .u64 xn, .int .i64 xv], .tuple #[.agg (fC G).toArray, .int .i64 E], .agg (fC G).toArray, .int .i64 E, x26, x27, x28, x29, x30, x31, x32, x33, x34, x35, x36, x37, x38, x39, x40, x41, x42, x43, x44, x45, x46, x47, x48, x49, x50, x51, x52, x53, undef, undef, undef, undef, undef, undef, undef, undef, undef, undef, undef, undef, undef, undef, undef, undef, undef, undef, undef, undef, undef, undef, undef, undef, undef, undef, undef, undef, undef, undef, undef, undef, undef, undef, undef, undef, undef, undef, undef, undef, undef, undef, undef, undef, undef, undef, undef, undef, undef, undef, undef, undef], defers := [] })) (CutR.imp ?_) ?_)
  rotate_left
  · unfold adrB
    dsimp only
    cases h1 : (xk != 0)
    · go_wp2; exact ⟨rfl, _, _, _, _, _, _, _, _, _, _, rfl⟩
    · cases h2 : (xk != 1) <;> (go_wp2; exact ⟨rfl, _, _, _, _, _, _, _, _, _, _, rfl⟩)
  rintro a w5 ⟨rfl, x44, x45, x46, x47, x48, x49, x50, x51, x52, x53, rfl⟩
  go_step
  refine wp_seq (Code.wp_mono (Q := CutR (fun a W' => W' = w5 ∧ a = { tmps := #[pv, .agg #[.int .i64 xo, .int .i64 xs, .int .u8 xk, .int .i64 xm, .int .u64 xn, .int .i64 xv], undef, .pointer (some ⟨w.heap.size, 0, none⟩), .bool false, .pointer (some ⟨Bf, 0, none⟩), .pointer (some ⟨Bg, 0, none⟩), .int .i64 E, .bool (sizeB xs), .bool (adrB ⟨xk, xm, xn, xv⟩), .int .i64 0, .bool true, .bool false, pv, .agg (fC FF).toArray, .tuple #[.agg (fC G).toArray, .int .i64 E], .agg (fC FF).toArray, .pointer (some ⟨w.heap.size, 0, none⟩), .int .i64 xo, .pointer (some ⟨w.heap.size, 1, none⟩), .int .i64 xs, .pointer (some ⟨w.heap.size, 2, none⟩), .agg #[.int .u8 xk, .int .i64 xm, .int .u64 xn, .int .i64 xv], .tuple #[.agg (fC G).toArray, .int .i64 E], .agg (fC G).toArray, .int .i64 E, x26, x27, x28, x29, x30, x31, x32, x33, x34, x35, x36, x37, x38, x39, x40, x41, x42, x43, x44, x45, x46, x47, x48, x49, x50, x51, x52, x53, undef, undef, undef, undef, undef, undef, undef, undef, undef, undef, undef, undef, undef, undef, undef, undef, undef, undef, undef, undef, undef, undef, undef, undef, undef, undef, undef, undef, undef, undef, undef, undef, undef, undef, undef, undef, undef, undef, undef, undef, undef, undef, undef, undef, undef, undef, undef, undef, undef, undef, undef, undef], defers := [] })) (CutR.imp ?_) ?_)
  rotate_left
  · go_wp2
    exact ⟨rfl, rfl⟩
  rintro a w6 ⟨rfl, rfl⟩
  go_step
  refine wp_seq (Code.wp_mono (Q := CutR (fun a W' => Hid (ApI w Bf Bg FF G xo xs xk xm xn xv W') ∧ ∃ x54 x55 x56 x57 x58 x59 x60 x61 x62 x63 x64 x65 x66 x67 x68 x69 x70 x71 x72 x73 x74 x75 x76 x77 x78 x79 x80 x81 x82 x83 x84 x85 x86 x87 x88 x89 x90 x91 x92 x93 : Value, a = { tmps := #[pv, .agg #[.int .i64 xo, .int .i64 xs, .int .u8 xk, .int .i64 xm, .int .u64 xn, .int .i64 xv], undef, .pointer (some ⟨w.heap.size, 0, none⟩), .bool false, .pointer (some ⟨Bf, 0, none⟩), .pointer (some ⟨Bg, 0, none⟩), .int .i64 E, .bool (sizeB xs), .bool (adrB ⟨xk, xm, xn, xv⟩), .int .i64 E, .bool true, .bool false, pv, .agg (fC FF).toArray, .tuple #[.agg (fC G).toArray, .int .i64 E], .agg (fC FF).toArray, .pointer (some ⟨w.heap.size, 0, none⟩), .int .i64 xo, .pointer (some ⟨w.heap.size, 1, none⟩), .int .i64 xs, .pointer (some ⟨w.heap.size, 2, none⟩), .agg #[.int .u8 xk, .int .i64 xm, .int .u64 xn, .int .i64 xv], .tuple #[.agg (fC G).toArray, .int .i64 E], .agg (fC G).toArray, .int .i64 E, x26, x27, x28, x29, x30, x31, x32, x33, x34, x35, x36, x37, x38, x39, x40, x41, x42, x43, x44, x45, x46, x47, x48, x49, x50, x51, x52, x53, x54, x55, x56, x57, x58, x59, x60, x61, x62, x63, x64, x65, x66, x67, x68, x69, x70, x71, x72, x73, x74, x75, x76, x77, x78, x79, x80, x81, x82, x83, x84, x85, x86, x87, x88, x89, x90, x91, x92, x93, undef, undef, undef, undef, undef, undef, undef, undef, undef, undef, undef, undef], defers := [] })) (CutR.imp ?_) ?_)
  · rintro a w8 ⟨J8, x54, x55, x56, x57, x58, x59, x60, x61, x62, x63, x64, x65, x66, x67, x68, x69, x70, x71, x72, x73, x74, x75, x76, x77, x78, x79, x80, x81, x82, x83, x84, x85, x86, x87, x88, x89, x90, x91, x92, x93, rfl⟩
    clear HMay c0 c1 c2 c3 c4 c5 J3 HX HKE
    go_step
    by_cases hE : E = 0
    · subst hE
      go_wp2
      go_ret
      exact ⟨rfl, J8.out.bel⟩
    · have hE' : (E == 0) = false := by simpa using hE
      obtain rfl : G = f0 := HBAD.out hE
      clear HBAD hE
      have BF0 := bld_f0
      have BF : ∀ W, (Instr.build 35 #[]).run Try.prog W = .ok (.agg (fC f0).toArray) W := BF0
      have hff : fB f0 f0 = true := (fB_iff _ _).2 (fun _ _ => rfl)
      have EQ : ∀ W, (binOp .eql 35 (.agg (fC f0).toArray) (.agg (fC f0).toArray)).run Try.prog W = .ok (.bool true) W := fun W => by
        have := eq_f f0 f0 f0_ok f0_ok W
        rw [hff] at this
        exact this
      have EQI : ∀ W, (Op.equalIn 10000 35 (.agg (fC f0).toArray) (.agg (fC f0).toArray)).run Try.prog W = .ok true W := fun W => by
        have := eqIn_f f0 f0 f0_ok f0_ok W
        rw [hff] at this
        exact this
      clear BF0 hff
      have ZF : ∀ w, (zeroValue 35).run Try.prog w = .ok (.agg (fC f0).toArray) w := (zero_of_info zf_info).1
      go_wp2
      refine wp_load_mid 35 _ rfl Bg 0 rfl (fC f0) _ J8.out.rg Try.underlying35 rfl HIG.out ?_
      go_wp2
      go_ret
      exact ⟨rfl, J8.out.bel⟩
  have hxo := HX.out.1
  cases hm : mayB ⟨xk, xm, xn, xv⟩
  · rw [hm] at HMay
    have hE : E = 1 := by rw [HKE.out]; simp [kindsE, hm]
    subst hE
    clear HKE HBAD
    go_wp2_with (go_at_call 21; refine (HMay.out _).mono ?_; rintro e w7 ⟨rfl, b7⟩; have J7 := hid (J3.out.next b7); obtain ⟨d0, d1, d2, d3, d4, d5⟩ := J7.out.c6; clear b7)
    exact ⟨J7, _, _, _, _, _, _, _, _, _, _, _, _, _, _, _, _, _, _, _, _, _, _, _, _, _, _, _, _, _, _, _, _, _, _, _, _, _, _, _, _, rfl⟩
  · rw [hm] at HMay
    cases hs : sizeB xs
    · have hE : E = 1 := by rw [HKE.out]; simp [kindsE, hm, hs]
      subst hE
      clear HKE HBAD
      go_wp2_with (go_at_call 21; refine (HMay.out _).mono ?_; rintro e w7 ⟨rfl, b7⟩; have J7 := hid (J3.out.next b7); obtain ⟨d0, d1, d2, d3, d4, d5⟩ := J7.out.c6; clear b7)
      exact ⟨J7, _, _, _, _, _, _, _, _, _, _, _, _, _, _, _, _, _, _, _, _, _, _, _, _, _, _, _, _, _, _, _, _, _, _, _, _, _, _, _, _, rfl⟩
    · have hxs : 1 ≤ xs ∧ xs ≤ 8 := by rcases size_cases hs with h | h | h | h <;> omega
      obtain ⟨hxs1, hxs8⟩ := hxs
      obtain ⟨hxo1, hxo2⟩ := hxo
      by_cases hk : xk = 0
      · subst hk
        have hE : E = 40 := by rw [HKE.out]; simp [kindsE, hm, hs]
        subst hE
        clear HKE HBAD
        go_wp2_with (go_at_call 21; refine (HMay.out _).mono ?_; rintro e w7 ⟨rfl, b7⟩; have J7 := hid (J3.out.next b7); obtain ⟨d0, d1, d2, d3, d4, d5⟩ := J7.out.c6; clear b7)
        exact ⟨J7, _, _, _, _, _, _, _, _, _, _, _, _, _, _, _, _, _, _, _, _, _, _, _, _, _, _, _, _, _, _, _, _, _, _, _, _, _, _, _, _, rfl⟩
      · have ek : (xk == 0) = false := by simpa using hk
        by_cases ho : xo < 0
        · have do1 : decide (xo < 0) = true := decide_eq_true ho
          have hE : E = 42 := by rw [HKE.out]; simp [kindsE, hm, hs, hk, placeE, withinB, show ¬ (0 ≤ xo) by omega]
          subst hE
          clear HKE HBAD
          go_wp2_with (go_at_call 21; refine (HMay.out _).mono ?_; rintro e w7 ⟨rfl, b7⟩; have J7 := hid (J3.out.next b7); obtain ⟨d0, d1, d2, d3, d4, d5⟩ := J7.out.c6; clear b7)
          exact ⟨J7, _, _, _, _, _, _, _, _, _, _, _, _, _, _, _, _, _, _, _, _, _, _, _, _, _, _, _, _, _, _, _, _, _, _, _, _, _, _, _, _, rfl⟩
        · have do1 : decide (xo < 0) = false := decide_eq_false ho
          have hoP : 0 ≤ xo := by omega
          by_cases h2 : 512 - xs < xo
          · have do2 : decide (512 - xs < xo) = true := decide_eq_true h2
            have hE : E = 42 := by rw [HKE.out]; simp [kindsE, hm, hs, hk, placeE, withinB, hoP, show ¬ (xo ≤ 512 - xs) by omega]
            subst hE
            clear HKE HBAD
            go_wp2_with (go_at_call 21; refine (HMay.out _).mono ?_; rintro e w7 ⟨rfl, b7⟩; have J7 := hid (J3.out.next b7); obtain ⟨d0, d1, d2, d3, d4, d5⟩ := J7.out.c6; clear b7)
            exact ⟨J7, _, _, _, _, _, _, _, _, _, _, _, _, _, _, _, _, _, _, _, _, _, _, _, _, _, _, _, _, _, _, _, _, _, _, _, _, _, _, _, _, rfl⟩
          · have do2 : decide (512 - xs < xo) = false := decide_eq_false h2
            have h2P : xo ≤ 512 - xs := by omega
            by_cases hr : xo % xs = 0
            · have er : (xo % xs != 0) = false := by simpa using hr
              cases ha : adrB ⟨xk, xm, xn, xv⟩
              · have hE : E = 0 := by rw [HKE.out]; simp [kindsE, hm, hs, hk, placeE, withinB, hoP, h2P, hr, ha]
                subst hE
                clear HKE HBAD
                go_wp2_with (go_at_call 21; refine (HMay.out _).mono ?_; rintro e w7 ⟨rfl, b7⟩; have J7 := hid (J3.out.next b7); obtain ⟨d0, d1, d2, d3, d4, d5⟩ := J7.out.c6; clear b7)
                exact ⟨J7, _, _, _, _, _, _, _, _, _, _, _, _, _, _, _, _, _, _, _, _, _, _, _, _, _, _, _, _, _, _, _, _, _, _, _, _, _, _, _, _, rfl⟩
              · by_cases h8 : xs = 8
                · have e8 : (xs != 8) = false := by simpa using h8
                  have hE : E = 0 := by rw [HKE.out]; exact kinds8 hm hs hk (by simp [placeE, withinB, hoP, h2P, hr]) h8
                  subst hE
                  clear HKE HBAD h8
                  go_wp2_with (go_at_call 21; refine (HMay.out _).mono ?_; rintro e w7 ⟨rfl, b7⟩; have J7 := hid (J3.out.next b7); obtain ⟨d0, d1, d2, d3, d4, d5⟩ := J7.out.c6; clear b7)
                  exact ⟨J7, _, _, _, _, _, _, _, _, _, _, _, _, _, _, _, _, _, _, _, _, _, _, _, _, _, _, _, _, _, _, _, _, _, _, _, _, _, _, _, _, rfl⟩
                · have e8 : (xs != 8) = true := by simpa using h8
                  have hE : E = 41 := by rw [HKE.out]; simp [kindsE, hm, hs, hk, placeE, withinB, hoP, h2P, hr, ha, h8]
                  subst hE
                  clear HKE HBAD
                  go_wp2_with (go_at_call 21; refine (HMay.out _).mono ?_; rintro e w7 ⟨rfl, b7⟩; have J7 := hid (J3.out.next b7); obtain ⟨d0, d1, d2, d3, d4, d5⟩ := J7.out.c6; clear b7)
                  exact ⟨J7, _, _, _, _, _, _, _, _, _, _, _, _, _, _, _, _, _, _, _, _, _, _, _, _, _, _, _, _, _, _, _, _, _, _, _, _, _, _, _, _, rfl⟩
            · have er : (xo % xs != 0) = true := by simpa using hr
              have hE : E = 43 := by rw [HKE.out]; simp [kindsE, hm, hs, hk, placeE, withinB, hoP, h2P, hr]
              subst hE
              clear HKE HBAD
              go_wp2_with (go_at_call 21; refine (HMay.out _).mono ?_; rintro e w7 ⟨rfl, b7⟩; have J7 := hid (J3.out.next b7); obtain ⟨d0, d1, d2, d3, d4, d5⟩ := J7.out.c6; clear b7)
              exact ⟨J7, _, _, _, _, _, _, _, _, _, _, _, _, _, _, _, _, _, _, _, _, _, _, _, _, _, _, _, _, _, _, _, _, _, _, _, _, _, _, _, _, rfl⟩

end Go.Proofs.Ytjlaenkfjejbkaa
