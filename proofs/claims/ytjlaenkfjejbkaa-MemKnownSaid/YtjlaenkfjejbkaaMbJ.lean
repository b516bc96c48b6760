/-
  MemApart: the walk.
-/
import Derived.Test.YtjlaenkfjejbkaaMbW
import Derived.Test.YtjlaenkfjejbkaaMbQ
import Derived.Test.YtjlaenkfjejbkaaMbA
import Derived.Test.YtjlaenkfjejbkaaMbI0
namespace Go.Proofs.Ytjlaenkfjejbkaa
set_option linter.unusedSimpArgs false
set_option linter.unusedVariables false
open Go.ChangeShapes Go.WideShapes Go.ChangeAt Go.RowKit

def CV (W : World) (g : Nat) (v : Vl) : Prop := W.cell? ⟨g, 0, none⟩ = some (.int .u8 v.k) ∧ W.cell? ⟨g, 1, none⟩ = some (.int .i64 v.m) ∧ W.cell? ⟨g, 2, none⟩ = some (.int .u64 v.n) ∧ W.cell? ⟨g, 3, none⟩ = some (.int .i64 v.o)
theorem cellsV {W w9 : World} {k m n o : Int} {T : TypeId} (b9 : Below (W.alloc (.cells #[.int .u8 k, .int .i64 m, .int .u64 n, .int .i64 o] T)).heap.size (W.alloc (.cells #[.int .u8 k, .int .i64 m, .int .u64 n, .int .i64 o] T)) w9) : CV w9 W.heap.size ⟨k, m, n, o⟩ := by
  obtain ⟨hc, hf⟩ := bcell b9
  have hl : W.heap.size < (W.alloc (.cells #[.int .u8 k, .int .i64 m, .int .u64 n, .int .i64 o] T)).heap.size := by simp
  exact ⟨by rw [hc _ _ hl]; simp [go_sem], by rw [hc _ _ hl]; simp [go_sem], by rw [hc _ _ hl]; simp [go_sem], by rw [hc _ _ hl]; simp [go_sem]⟩
theorem CV.next {W V : World} {g : Nat} {v : Vl} (h : CV W g v) (b : Below W.heap.size W V) : CV V g v := ⟨cn b h.1, cn b h.2.1, cn b h.2.2.1, cn b h.2.2.2⟩
theorem CV.lt {W : World} {g : Nat} {v : Vl} (h : CV W g v) : g < W.heap.size := World.block_lt_of_cell? W _ h.1
theorem CV.alloc {W : World} {g : Nat} {v : Vl} (h : CV W g v) (o : Obj) : CV (W.alloc o) g v := h.next ((Below.refl _ _).alloc (Nat.le_refl _) _)
theorem eqv_same (k m n o : Int) : ∀ W, (binOp .eql 25 (.agg #[.int .u8 k, .int .i64 m, .int .u64 n, .int .i64 o]) (.agg #[.int .u8 k, .int .i64 m, .int .u64 n, .int .i64 o])).run Try.prog W = .ok (.bool true) W := fun W => by
  have := eq_v ⟨k, m, n, o⟩ ⟨k, m, n, o⟩ W
  rw [(vB_iff _ _).2 rfl] at this
  exact this

set_option maxRecDepth 100000 in
set_option maxHeartbeats 3200000 in
theorem memApart_walk (pv : Value) (l : List Ac) (xo xs xk xm xn xv ot : Int) (w : World) (hp : ASl pv l w) (hl : ∀ x ∈ l, AOk x) (hn : (l.length : Int) < 9223372036854775808) (hx : AOk ⟨xo, xs, ⟨xk, xm, xn, xv⟩⟩) (hot : -9223372036854775808 ≤ ot ∧ ot < 9223372036854775808) :
    Calls Try.prog 7 #[pv, .agg #[.int .i64 xo, .int .i64 xs, .int .u8 xk, .int .i64 xm, .int .u64 xn, .int .i64 xv], .int .i64 ot] w fun e w' => e = .returned (.bool true) ∧ Below w.heap.size w w' := by
  have ZF0 := (zero_of_info zf_info).1
  have ZF : ∀ w, (zeroValue 35).run Try.prog w = .ok (.agg (fC f0).toArray) w := ZF0
  have HAw := hid awake_any
  have hFF : FOk (frameF l) := frameF_ok hl
  have HFr0 : Hid (∀ W, Below w.heap.size w W → Calls Try.prog 26 #[pv] W fun e w' => e = .returned (.agg (fC (frameF l)).toArray) ∧ Below W.heap.size W w') := hid (fun W hb => frame_any pv l W (hp.below hb) hl hn)
  have hRF := right_frame hl
  generalize frameF l = FF at HFr0 hFF hRF
  have HSt := hid (fun W => Store_any FF xo xs ⟨xk, xm, xn, xv⟩ W hFF hx.2.2 hx.1)
  have hG := storeF_ok (off := xo) (size := xs) (v := ⟨xk, xm, xn, xv⟩) hFF hx.2.2
  have HX := hid hx
  have hrs := @right_store FF xo xs ⟨xk, xm, xn, xv⟩ hFF
  have hcs := store_cases FF xo xs ⟨xk, xm, xn, xv⟩
  have hao := apart_other FF
  have hai := apart_in FF
  generalize hRR : storeF FF xo xs ⟨xk, xm, xn, xv⟩ = RR at HSt hG hrs hcs
  obtain ⟨G, E⟩ := RR
  have HRR := hid hRR
  have HF := hid hFF
  clear hRR
  unfold fV vV at HSt
  dsimp only at HSt hG hrs hcs
  have HG := hid hG
  have HRS := hid hrs
  have HCS := hid hcs
  have HRtF : Hid (∀ W, Calls Try.prog 15 #[.agg (fC FF).toArray] W fun e w' => e = .returned (.bool true) ∧ Below W.heap.size W w') := hid (fun W => hRF ▸ Right_any FF W hFF)
  have HOT := hid hot
  clear hx hrs hcs hao hai hRF hG hot
  have HIF : Hid ((Try.prog.info? 35).map (·.size) = some (fC FF).length) := hid (by rw [fC_len hFF]; exact info35)
  have hlF : (fC FF).length = 832 := fC_len hFF
  have hoF := one_fC FF
  clear ZF0 hp hl hn
  go_enter Try.func7, Try.ntmps7
  go_wp2_with fail
  refine (HAw.out _).mono ?_
  rintro e w1 ⟨rfl, b1⟩
  have X1 := hid (C6.first b1)
  have B1 := hid (((Below.refl w.heap.size w).alloc (Nat.le_refl _) _).trans (b1.mono (by simp)))
  have p1 : w.heap.size < w1.heap.size := by have := b1.size; simp at this; omega
  have p1' : w.heap.size + 1 ≤ w1.heap.size := p1
  clear b1
  have HFr : Hid (∀ W, Below (w.heap.size + 1) w1 W → Calls Try.prog 26 #[pv] W fun e w' => e = .returned (.agg (fC FF).toArray) ∧ Below W.heap.size W w') := hid (fun W hb => HFr0.out W (B1.out.trans (hb.mono (Nat.le_succ _))))
  have hBB : Below (w.heap.size + 1) w1 w1 := Below.refl _ _
  have HU : ∀ W : World, (W.alloc (.cells (fC f0).toArray 35)).there W.heap.size 0 832 := fun W => there_box W _ 35 832 f0_size
  go_wp2_with fail
  refine (HFr.out _ hBB).mono ?_
  rintro e wa ⟨rfl, ba⟩
  have HT := hid (HU wa)
  have hR := World.rangeAt_setCells_same (wa.alloc (.cells (fC f0).toArray 35)) wa.heap.size 0 (fC FF) (by rw [hlF]; exact HT.out)
  have hBel : Below (w.heap.size + 1) w1 ((wa.alloc (.cells (fC f0).toArray 35)).setCells wa.heap.size 0 (fC FF)) := below_setCells wa.heap.size (Nat.le_trans p1' ba.size) (fC FF) 0 _ ((ba.mono p1').alloc (Nat.le_trans p1' ba.size) _)
  have pf : w.heap.size < wa.heap.size := Nat.lt_of_lt_of_le p1 ba.size
  have p2 : wa.heap.size < ((wa.alloc (.cells (fC f0).toArray 35)).setCells wa.heap.size 0 (fC FF)).heap.size := Nat.lt_of_lt_of_le (by simp) (below_setCells (n := 0) (a := wa.alloc (.cells (fC f0).toArray 35)) wa.heap.size (Nat.zero_le _) (fC FF) 0 _ (Below.refl _ _)).size
  have X2 := hid (X1.out.near (Nat.lt_succ_self _) hBel)
  have B2 := hid (B1.out.trans (hBel.mono (Nat.le_succ _)))
  have R2 := hid hR
  have HFF2 := hid hFF
  clear hR hBel ba hBB p1 p1' B1 X1 HFr HFr0 HAw hlF hoF hFF
  go_wp2_with (first | ((with_reducible refine at_store 35 ?_); refine wpList_store_f _ _ rfl rfl wa.heap.size FF HFF2.out rfl rfl HT.out ?_; generalize (wa.alloc (.cells (fC f0).toArray 35)).setCells wa.heap.size 0 (fC FF) = wq at X2 B2 R2 p2 ⊢; generalize wa.heap.size = Bf at R2 p2 pf ⊢; obtain ⟨c0, c1, c2, c3, c4, c5⟩ := X2.out) | ((with_reducible refine at_load 35 ?_); refine wpList_load_mid rfl 35 _ rfl Bf 0 rfl (fC FF) _ R2.out Try.underlying35 rfl HIF.out ?_))
  refine (HRtF.out _).mono ?_
  rintro e w2 ⟨rfl, b2⟩
  have X2q := hid (X2.out.next b2)
  have B2q := hid (below_next_w B2.out b2 (Nat.le_of_lt (Nat.lt_trans pf p2)))
  have R2q := hid (range_below R2.out p2 (bcell b2).1)
  have p2q : Bf < w2.heap.size := Nat.lt_of_lt_of_le p2 b2.size
  clear X2 B2 R2 p2 b2 HRtF c0 c1 c2 c3 c4 c5
  obtain ⟨c0, c1, c2, c3, c4, c5⟩ := X2q.out
  go_wp2_with ((with_reducible refine at_load 35 ?_); refine wpList_load_mid rfl 35 _ rfl Bf 0 rfl (fC FF) _ R2q.out Try.underlying35 rfl HIF.out ?_)
  rename_i k1 hK k0 h0
  have HK := hid hK
  clear hK
  refine (HSt.out _).mono ?_
  rintro e wb ⟨rfl, bb⟩
  have HTb := hid (HU wb)
  have J3 := hid (ApI.mk2 B2q.out X2q.out R2q.out p2q pf bb HG.out HTb.out)
  clear bb c0 c1 c2 c3 c4 c5
  go_wp2_with ((with_reducible refine at_store 35 ?_); refine wpList_store_f _ _ rfl rfl wb.heap.size G HG.out rfl rfl HTb.out ?_; generalize (wb.alloc (.cells (fC f0).toArray 35)).setCells wb.heap.size 0 (fC G) = w3 at J3 ⊢; generalize wb.heap.size = Bg at J3 ⊢)
  refine HK.out _ _ ?_
  clear HK HTb HSt X2q B2q R2q p2q pf HU ZF HT HFF2
  have HIG : Hid ((Try.prog.info? 35).map (·.size) = some (fC G).length) := hid (by rw [fC_len HG.out]; exact info35)
  by_cases hE : E = 0
  · subst hE
    by_cases h0 : ot < 0
    · have d0 : decide (ot < 0) = true := decide_eq_true h0
      clear HRS HCS HRR
      go_wp2
      go_ret
      exact ⟨rfl, J3.out.bel⟩
    · have d0 : decide (ot < 0) = false := decide_eq_false h0
      by_cases h5 : 512 ≤ ot
      · have d5 : decide (512 ≤ ot) = true := decide_eq_true h5
        clear HRS HCS HRR
        go_wp2
        go_ret
        exact ⟨rfl, J3.out.bel⟩
      · have d5 : decide (512 ≤ ot) = false := decide_eq_false h5
        have hot0 : 0 ≤ ot := by omega
        have hot5 : ot < 512 := by omega
        clear h0 h5
        have hpl : 0 ≤ xo ∧ xo < 512 ∧ 1 ≤ xs ∧ xs ≤ 8 := by
          rcases HCS.out with ⟨h, _⟩ | ⟨_, _, hs, _, hp, _, _⟩
          · exact absurd rfl h
          · obtain ⟨a, b, _⟩ := place_ok hs hp
            have : 1 ≤ xs ∧ xs ≤ 8 := by rcases size_cases hs with h | h | h | h <;> omega
            exact ⟨a, b, this⟩
        have he : (storeF FF xo xs ⟨xk, xm, xn, xv⟩).2 = 0 := by rw [HRR.out]
        have HRtG : Hid (∀ W, Calls Try.prog 15 #[.agg (fC G).toArray] W fun e w' => e = .returned (.bool true) ∧ Below W.heap.size W w') := hid (fun W => HRS.out rfl ▸ Right_any G W HG.out)
        have HLF := hid (fun W => Load_any FF ot 1 W HF.out HOT.out)
        have HLG := hid (fun W => Load_any G ot 1 W HG.out HOT.out)
        have hother : ot / 8 ≠ xo / 8 → loadF G ot 1 = loadF FF ot 1 ∧ loadF G (ot - ot % 8) 8 = loadF FF (ot - ot % 8) 8 := fun hne => by
          have a1 := apart_other FF ot 1 xo xs ⟨xk, xm, xn, xv⟩ HF.out he hot0 hne
          have a2 := apart_other FF (ot - ot % 8) 8 xo xs ⟨xk, xm, xn, xv⟩ HF.out he (by omega) (by omega)
          rw [HRR.out] at a1 a2
          exact ⟨a1, a2⟩
        have hin : ot / 8 = xo / 8 → (ot < xo ∨ xo + xs ≤ ot) → ((loadF FF ot 1).2 = 41 ∧ (loadF G ot 1).2 = 40) ∨ (loadF G ot 1 = loadF FF ot 1 ∧ (loadF FF ot 1).2 ≠ 41) := fun heq ho => by
          have a1 := apart_in FF ot xo xs ⟨xk, xm, xn, xv⟩ HF.out he hot0 hot5 heq ho
          rw [HRR.out] at a1
          exact a1
        have HLF8 := hid (fun W => Load_any FF (ot - ot % 8) 8 W HF.out ⟨by omega, by omega⟩)
        have HLG8 := hid (fun W => Load_any G (ot - ot % 8) 8 W HG.out ⟨by omega, by omega⟩)
        generalize loadF FF ot 1 = A at HLF hother hin
        generalize loadF G ot 1 = B at HLG hother hin
        generalize loadF FF (ot - ot % 8) 8 = C at HLF8 hother
        generalize loadF G (ot - ot % 8) 8 = D at HLG8 hother
        obtain ⟨⟨ka, ma, na, oa⟩, ha⟩ := A
        obtain ⟨⟨kb, mb, nb, ob⟩, hb⟩ := B
        unfold fV vV at HLF HLG HLF8 HLG8
        dsimp only at HLF HLG
        have HOTHER := hid hother
        have HIN := hid hin
        clear hother hin HRS HCS HRR he HOT
        obtain ⟨hxo0, hxo5, hxs1, hxs8⟩ := hpl
        go_wp2_with ((with_reducible refine at_load 35 ?_); refine wpList_load_mid rfl 35 _ rfl Bg 0 rfl (fC G) _ J3.out.rg Try.underlying35 rfl HIG.out ?_)
        refine (HRtG.out _).mono ?_
        rintro e w4 ⟨rfl, b4⟩
        have J4 := hid (J3.out.next b4)
        clear b4 J3 HRtG
        go_wp2_with ((with_reducible refine at_load 35 ?_); refine wpList_load_mid rfl 35 _ rfl Bf 0 rfl (fC FF) _ J4.out.rf Try.underlying35 rfl HIF.out ?_)
        refine (HLF.out _).mono ?_
        rintro e w5 ⟨rfl, b5⟩
        have J5 := hid (J4.out.next b5)
        clear b5 J4 HLF
        go_wp2_with ((with_reducible refine at_load 35 ?_); refine wpList_load_mid rfl 35 _ rfl Bg 0 rfl (fC G) _ (World.rangeAt_alloc J5.out.rg _) Try.underlying35 rfl HIG.out ?_)
        refine (HLG.out _).mono ?_
        rintro e w6 ⟨rfl, b6⟩
        have J6 := hid ((J5.out.alloc _).next b6)
        have XA := hid (cellsV b6)
        clear b6 J5 HLG
        obtain ⟨c0, c1, c2, c3, c4, c5⟩ := J6.out.c6
        have r6 := J6.out.sz
        by_cases hne : ot / 8 = xo / 8
        · have e1 : (ot / 8 != xo / 8) = false := by simp [hne]
          clear HOTHER HLF8 HLG8
          obtain ⟨ca0, ca1, ca2, ca3⟩ := XA.out
          have qa := XA.out.lt
          by_cases hr : xo ≤ ot ∧ ot < xo + xs
          · obtain ⟨hr1, hr2⟩ := hr
            have d1 : decide (xo ≤ ot) = true := decide_eq_true hr1
            have d2 : decide (ot < xo + xs) = true := decide_eq_true hr2
            clear HIN hne
            go_wp2
            go_ret
            exact ⟨rfl, (J6.out.alloc _).bel⟩
          · have hr' : ot < xo ∨ xo + xs ≤ ot := by omega
            have hi := HIN.out hne hr'
            clear HIN hne hr
            rcases hi with ⟨rfl, rfl⟩ | ⟨hab, hh⟩
            · rcases hr' with hr | hr
              · have d1 : decide (xo ≤ ot) = false := decide_eq_false (by omega)
                go_wp2
                go_ret
                exact ⟨rfl, (J6.out.alloc _).bel⟩
              · have d1 : decide (xo ≤ ot) = true := decide_eq_true (by omega)
                have d2 : decide (ot < xo + xs) = false := decide_eq_false (by omega)
                go_wp2
                go_ret
                exact ⟨rfl, (J6.out.alloc _).bel⟩
            · obtain ⟨⟨rfl, rfl, rfl, rfl⟩, rfl⟩ : (kb = ka ∧ mb = ma ∧ nb = na ∧ ob = oa) ∧ hb = ha := by simpa using hab
              have e41 : (hb == 41) = false := by simpa using hh
              have EQA := eqv_same kb mb nb ob
              clear hh hab
              rcases hr' with hr | hr
              · have d1 : decide (xo ≤ ot) = false := decide_eq_false (by omega)
                go_wp2
                go_ret
                exact ⟨rfl, (J6.out.alloc _).bel⟩
              · have d1 : decide (xo ≤ ot) = true := decide_eq_true (by omega)
                have d2 : decide (ot < xo + xs) = false := decide_eq_false (by omega)
                go_wp2
                go_ret
                exact ⟨rfl, (J6.out.alloc _).bel⟩
        · have e1 : (ot / 8 != xo / 8) = true := by simp [hne]
          obtain ⟨hab, hcd⟩ := HOTHER.out hne
          obtain ⟨⟨rfl, rfl, rfl, rfl⟩, rfl⟩ : (kb = ka ∧ mb = ma ∧ nb = na ∧ ob = oa) ∧ hb = ha := by simpa using hab
          subst hcd
          obtain ⟨⟨kc, mc, nc, oc⟩, hc⟩ := D
          dsimp only at HLF8 HLG8
          have EQA := eqv_same kb mb nb ob
          have EQC := eqv_same kc mc nc oc
          clear HOTHER HIN hne hab
          go_wp2_with ((with_reducible refine at_load 35 ?_); refine wpList_load_mid rfl 35 _ rfl Bf 0 rfl (fC FF) _ (World.rangeAt_alloc J6.out.rf _) Try.underlying35 rfl HIF.out ?_)
          refine (HLF8.out _).mono ?_
          rintro e w7 ⟨rfl, b7⟩
          have J7 := hid ((J6.out.alloc _).next b7)
          have XB := hid (cellsV b7)
          have XA7 := hid ((XA.out.alloc _).next b7)
          clear b7 c0 c1 c2 c3 c4 c5 J6 XA
          go_wp2_with ((with_reducible refine at_load 35 ?_); refine wpList_load_mid rfl 35 _ rfl Bg 0 rfl (fC G) _ (World.rangeAt_alloc J7.out.rg _) Try.underlying35 rfl HIG.out ?_)
          refine (HLG8.out _).mono ?_
          rintro e w8 ⟨rfl, b8⟩
          have J8 := hid ((J7.out.alloc _).next b8)
          have XC := hid (cellsV b8)
          have XB8 := hid ((XB.out.alloc _).next b8)
          have XA8 := hid ((XA7.out.alloc _).next b8)
          clear b8 J7 XB XA7
          generalize w5.heap.size = g5 at *
          generalize w6.heap.size = g6 at *
          generalize w7.heap.size = g7 at *
          obtain ⟨ca0, ca1, ca2, ca3⟩ := XA8.out
          obtain ⟨cb0, cb1, cb2, cb3⟩ := XB8.out
          obtain ⟨cc0, cc1, cc2, cc3⟩ := XC.out
          have qa := XA8.out.lt
          have qb := XB8.out.lt
          have qc := XC.out.lt
          go_wp2
          go_ret
          exact ⟨rfl, (J8.out.alloc _).bel⟩
  · have hE' : (E != 0) = true := by simpa using hE
    clear hE HRS HCS HRR
    go_wp2
    go_ret
    exact ⟨rfl, J3.out.bel⟩
end Go.Proofs.Ytjlaenkfjejbkaa
