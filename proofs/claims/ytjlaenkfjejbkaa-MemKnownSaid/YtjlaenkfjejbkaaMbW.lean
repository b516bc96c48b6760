/-
  MemBack: the walk.
-/
import Derived.Test.YtjlaenkfjejbkaaMeR
import Derived.Test.YtjlaenkfjejbkaaMbP
namespace Go.Proofs.Ytjlaenkfjejbkaa
set_option linter.unusedSimpArgs false
set_option linter.unusedVariables false
open Go.ChangeShapes Go.WideShapes Go.ChangeAt Go.RowKit

def C6 (W : World) (g : Nat) (xo xs xk xm xn xv : Int) : Prop := W.cell? ⟨g, 0, none⟩ = some (.int .i64 xo) ∧ W.cell? ⟨g, 1, none⟩ = some (.int .i64 xs) ∧ W.cell? ⟨g, 2, none⟩ = some (.int .u8 xk) ∧ W.cell? ⟨g, 3, none⟩ = some (.int .i64 xm) ∧ W.cell? ⟨g, 4, none⟩ = some (.int .u64 xn) ∧ W.cell? ⟨g, 5, none⟩ = some (.int .i64 xv)
theorem C6.next {W V : World} {g : Nat} {xo xs xk xm xn xv : Int} (h : C6 W g xo xs xk xm xn xv) (b : Below W.heap.size W V) : C6 V g xo xs xk xm xn xv :=
  ⟨cn b h.1, cn b h.2.1, cn b h.2.2.1, cn b h.2.2.2.1, cn b h.2.2.2.2.1, cn b h.2.2.2.2.2⟩
theorem C6.near {W V : World} {g n : Nat} {xo xs xk xm xn xv : Int} (h : C6 W g xo xs xk xm xn xv) (hg : g < n) (b : Below n W V) : C6 V g xo xs xk xm xn xv :=
  ⟨cnb b hg h.1, cnb b hg h.2.1, cnb b hg h.2.2.1, cnb b hg h.2.2.2.1, cnb b hg h.2.2.2.2.1, cnb b hg h.2.2.2.2.2⟩
theorem C6.first {W w9 : World} {T : TypeId} {xo xs xk xm xn xv : Int} (b9 : Below (W.alloc (.cells #[.int .i64 xo, .int .i64 xs, .int .u8 xk, .int .i64 xm, .int .u64 xn, .int .i64 xv] T)).heap.size (W.alloc (.cells #[.int .i64 xo, .int .i64 xs, .int .u8 xk, .int .i64 xm, .int .u64 xn, .int .i64 xv] T)) w9) : C6 w9 W.heap.size xo xs xk xm xn xv := by
  obtain ⟨hc, hf⟩ := bcell b9
  have hl : W.heap.size < (W.alloc (.cells #[.int .i64 xo, .int .i64 xs, .int .u8 xk, .int .i64 xm, .int .u64 xn, .int .i64 xv] T)).heap.size := by simp
  exact ⟨by rw [hc _ _ hl]; simp [go_sem], by rw [hc _ _ hl]; simp [go_sem], by rw [hc _ _ hl]; simp [go_sem], by rw [hc _ _ hl]; simp [go_sem], by rw [hc _ _ hl]; simp [go_sem], by rw [hc _ _ hl]; simp [go_sem]⟩
theorem keepB {g n : Nat} {w1 W : World} {xo xs xk xm xn xv : Int} (h : C6 w1 g xo xs xk xm xn xv) (hg : g < n) (hb : Below n w1 W) : W.cell? ⟨g, 0, none⟩ = some (.int .i64 xo) ∧ W.cell? ⟨g, 1, none⟩ = some (.int .i64 xs) ∧ W.cell? ⟨g, 2, none⟩ = some (.int .u8 xk) ∧ W.cell? ⟨g, 3, none⟩ = some (.int .i64 xm) ∧ W.cell? ⟨g, 4, none⟩ = some (.int .u64 xn) ∧ W.cell? ⟨g, 5, none⟩ = some (.int .i64 xv) ∧ Below n w1 W := by
  have k := h.near hg hb
  exact ⟨k.1, k.2.1, k.2.2.1, k.2.2.2.1, k.2.2.2.2.1, k.2.2.2.2.2, hb⟩
theorem ASl.below {pv : Value} {l : List Ac} {w W : World} (h : ASl pv l w) (hb : Below w.heap.size w W) : ASl pv l W := by
  rcases h with ⟨g, o, cap, e, hg, hr⟩ | h
  · exact .inl ⟨g, o, cap, e, Nat.lt_of_lt_of_le hg hb.size, fun j hj => range_below (hr j hj) hg (bcell hb).1⟩
  · exact .inr h

set_option maxRecDepth 100000 in
set_option maxHeartbeats 1600000 in
theorem memBack_walk (pv : Value) (l : List Ac) (xo xs xk xm xn xv : Int) (w : World) (hp : ASl pv l w) (hl : ∀ x ∈ l, AOk x) (hn : (l.length : Int) < 9223372036854775808) (hx : AOk ⟨xo, xs, ⟨xk, xm, xn, xv⟩⟩) :
    Calls Try.prog 6 #[pv, .agg #[.int .i64 xo, .int .i64 xs, .int .u8 xk, .int .i64 xm, .int .u64 xn, .int .i64 xv]] w fun e w' => e = .returned (.bool true) ∧ Below w.heap.size w w' := by
  have ZF0 := (zero_of_info zf_info).1
  have ZF : ∀ w, (zeroValue 35).run Try.prog w = .ok (.agg (fC f0).toArray) w := ZF0
  have HAw := hid awake_any
  have hFF : FOk (frameF l) := frameF_ok hl
  have HFr0 : Hid (∀ W, Below w.heap.size w W → Calls Try.prog 26 #[pv] W fun e w' => e = .returned (.agg (fC (frameF l)).toArray) ∧ Below W.heap.size W w') := hid (fun W hb => frame_any pv l W (hp.below hb) hl hn)
  generalize frameF l = FF at HFr0 hFF
  have HSt := hid (fun W => Store_any FF xo xs ⟨xk, xm, xn, xv⟩ W hFF hx.2.2 hx.1)
  have hG := storeF_ok (off := xo) (size := xs) (v := ⟨xk, xm, xn, xv⟩) hFF hx.2.2
  have HX := hid hx
  have hcs := store_cases FF xo xs ⟨xk, xm, xn, xv⟩
  have hbk := back FF xo xs ⟨xk, xm, xn, xv⟩ hFF hx.2.2
  generalize hRR : storeF FF xo xs ⟨xk, xm, xn, xv⟩ = RR at HSt hG hcs hbk
  obtain ⟨G, E⟩ := RR
  have HRR := hid hRR
  clear hRR
  unfold fV vV at HSt
  dsimp only at HSt hG hcs hbk
  have HG := hid hG
  have HCS := hid hcs
  have HBK := hid hbk
  clear ZF0 hG hp hl hx hcs hbk hFF hn
  go_enter Try.func6, Try.ntmps6
  go_wp2_with fail
  refine (HAw.out _).mono ?_
  rintro e w1 ⟨rfl, b1⟩
  have X1 := hid (C6.first b1)
  have B1 := hid (((Below.refl w.heap.size w).alloc (Nat.le_refl _) _).trans (b1.mono (by simp)))
  have p1 : w.heap.size < w1.heap.size := by have := b1.size; simp at this; omega
  have p1' : w.heap.size + 1 ≤ w1.heap.size := p1
  clear b1
  have HFr : Hid (∀ W, Below (w.heap.size + 1) w1 W → Calls Try.prog 26 #[pv] W fun e w' => e = .returned (.agg (fC FF).toArray) ∧ Below W.heap.size W w') := hid (fun W hb => HFr0.out W (B1.out.trans (hb.mono (Nat.le_succ _))))
  have hBB : Below (w.heap.size + 1) w1 w1 := Below.refl _ _
  have HU : ∀ W : World, (W.alloc (.cells (fC f0).toArray 35)).there W.heap.size 0 832 := fun W => there_box W _ 35 832 f0_size
  have hi1 : (Try.prog.info? 35).map (·.size) = some (fC G).length := by rw [fC_len HG.out]; exact info35
  have hl1 : (fC G).length = 832 := fC_len HG.out
  have ho1 := one_fC G
  go_wp2_with fail
  refine Code.wp_mono (Q := CutR (fun a W' => ∃ B : Nat, w.heap.size < B ∧ B < W'.heap.size ∧ W'.rangeAt B 0 (fC G) ∧ Below (w.heap.size + 1) w1 W' ∧ a = { tmps := #[pv, .agg #[.int .i64 xo, .int .i64 xs, .int .u8 xk, .int .i64 xm, .int .u64 xn, .int .i64 xv], undef, .pointer (some ⟨w.heap.size, 0, none⟩), .bool false, .pointer (some ⟨B, 0, none⟩), .int .i64 E, undef, undef, undef, .bool true, .bool false, .tuple #[.agg (fC G).toArray, .int .i64 E], pv, .agg (fC FF).toArray, .pointer (some ⟨w.heap.size, 0, none⟩), .int .i64 xo, .pointer (some ⟨w.heap.size, 1, none⟩), .int .i64 xs, .pointer (some ⟨w.heap.size, 2, none⟩), .agg #[.int .u8 xk, .int .i64 xm, .int .u64 xn, .int .i64 xv], .tuple #[.agg (fC G).toArray, .int .i64 E], .agg (fC G).toArray, .int .i64 E, undef, undef, undef, undef, undef, undef, undef, undef, undef, undef, undef, undef, undef, undef, undef, undef, undef, undef, undef, undef, undef, undef, undef, undef, undef, undef, undef, undef, undef, undef, undef, undef], defers := [] })) (CutR.imp ?_) ?_
  · rintro a W2 ⟨B, hB1, hB2, hR, hBel, rfl⟩
    have X2 := hid (X1.out.near (Nat.lt_succ_self _) hBel)
    have B2 := hid (B1.out.trans (hBel.mono (Nat.le_succ _)))
    have HR2 := hid hR
    have HGI := hid hi1
    have r2 : w.heap.size < W2.heap.size := Nat.lt_trans hB1 hB2
    clear hBel hR hi1 hl1 ho1 HU hBB p1 p1' B1 X1 HFr HFr0 HSt HAw
    by_cases hE : E = 0
    · subst hE
      have hb := HBK.out rfl
      have hsz : sizeB xs = true := by
        rcases HCS.out with ⟨h, _⟩ | ⟨_, _, h, _⟩
        · exact absurd rfl h
        · exact h
      have HLd := hid (fun W => Load_any G xo xs W HG.out HX.out.1)
      rw [hb] at HLd
      unfold wantV at HLd
      have hxn := HX.out.2.2.2.2.1
      have HCt := hid (fun W => cut_any xn xs W hxn.1 hxn.2 hsz)
      unfold fV vV at HLd
      obtain ⟨c0, c1, c2, c3, c4, c5⟩ := X2.out
      clear hb hsz hxn HBK HCS HX HRR ZF
      by_cases hk : xk = 1
      · subst hk
        simp only [if_true] at HLd
        generalize xn % 256 ^ xs.toNat = y at HLd HCt
        have EQ : ∀ W, (binOp .eql 25 (.agg #[.int .u8 1, .int .i64 xm, .int .u64 y, .int .i64 xv]) (.agg #[.int .u8 1, .int .i64 xm, .int .u64 y, .int .i64 xv])).run Try.prog W = .ok (.bool true) W := fun W => by
          have := eq_v ⟨1, xm, y, xv⟩ ⟨1, xm, y, xv⟩ W
          rw [(vB_iff _ _).2 rfl] at this
          exact this
        go_wp2_with ((with_reducible refine at_load 35 ?_); refine wpList_load_mid rfl 35 _ rfl B 0 rfl (fC G) _ HR2.out Try.underlying35 rfl HGI.out ?_)
        refine (HLd.out _).mono ?_
        rintro e w3 ⟨rfl, b3⟩
        have B3 := hid (below_next_w B2.out b3)
        have r3 : w.heap.size < w3.heap.size := Nat.lt_of_lt_of_le r2 b3.size
        have X3 := hid (X2.out.next b3)
        clear c0 c1 c2 c3 c4 c5 b3
        obtain ⟨c0, c1, c2, c3, c4, c5⟩ := X3.out
        go_wp2_with (go_at_call 27; refine (HCt.out _).mono ?_; rintro e w9 ⟨rfl, rfl⟩)
        go_ret
        have hz3 := B3.out.size
        exact ⟨rfl, (B3.out.alloc hz3 _).alloc (by simp; omega) _⟩
      · have hk' : ((xk : Int) == 1) = false := by simpa using hk
        simp only [hk, if_false] at HLd
        have EQ : ∀ W, (binOp .eql 25 (.agg #[.int .u8 xk, .int .i64 xm, .int .u64 xn, .int .i64 xv]) (.agg #[.int .u8 xk, .int .i64 xm, .int .u64 xn, .int .i64 xv])).run Try.prog W = .ok (.bool true) W := fun W => by
          have := eq_v ⟨xk, xm, xn, xv⟩ ⟨xk, xm, xn, xv⟩ W
          rw [(vB_iff _ _).2 rfl] at this
          exact this
        clear hk
        go_wp2_with ((with_reducible refine at_load 35 ?_); refine wpList_load_mid rfl 35 _ rfl B 0 rfl (fC G) _ HR2.out Try.underlying35 rfl HGI.out ?_)
        refine (HLd.out _).mono ?_
        rintro e w3 ⟨rfl, b3⟩
        have B3 := hid (below_next_w B2.out b3)
        have r3 : w.heap.size < w3.heap.size := Nat.lt_of_lt_of_le r2 b3.size
        have X3 := hid (X2.out.next b3)
        clear c0 c1 c2 c3 c4 c5 b3
        obtain ⟨c0, c1, c2, c3, c4, c5⟩ := X3.out
        go_wp2
        go_ret
        have hz3 := B3.out.size
        exact ⟨rfl, (B3.out.alloc hz3 _).alloc (by simp; omega) _⟩
    · have hGf : G = f0 := by
        rcases HCS.out with ⟨_, h⟩ | ⟨_, _, _, _, _, _, h⟩
        · exact h
        · exact absurd (congrArg Prod.snd h) hE
      subst hGf
      have hE' : (E != 0) = true := by simpa using hE
      have BF0 := bld_f0
      have BF : ∀ W, (Instr.build 35 #[]).run Try.prog W = .ok (.agg (fC f0).toArray) W := BF0
      have hff : fB f0 f0 = true := (fB_iff _ _).2 (fun _ _ => rfl)
      have EQ : ∀ W, (binOp .eql 35 (.agg (fC f0).toArray) (.agg (fC f0).toArray)).run Try.prog W = .ok (.bool true) W := fun W => by
        have := eq_f f0 f0 f0_ok f0_ok W
        rw [hff] at this
        exact this
      have EQI : ∀ W, (Op.equalIn 10000 35 (.agg (fC f0).toArray) (.agg (fC f0).toArray)).run Try.prog W = .ok true W := fun W => by
        have := eqIn_f f0 f0 f0_ok f0_ok W
        rw [hff] at this
        exact this
      clear BF0 hff hE HBK HCS HX HRR HG
      go_wp2_with ((with_reducible refine at_load 35 ?_); refine wpList_load_mid rfl 35 _ rfl B 0 rfl (fC f0) _ HR2.out Try.underlying35 rfl HGI.out ?_)
      go_ret
      exact ⟨rfl, B2.out⟩
  · go_region_held3 (fun w' => w'.cell? ⟨w.heap.size, 0, none⟩ = some (.int .i64 xo) ∧ w'.cell? ⟨w.heap.size, 1, none⟩ = some (.int .i64 xs) ∧ w'.cell? ⟨w.heap.size, 2, none⟩ = some (.int .u8 xk) ∧ w'.cell? ⟨w.heap.size, 3, none⟩ = some (.int .i64 xm) ∧ w'.cell? ⟨w.heap.size, 4, none⟩ = some (.int .u64 xn) ∧ w'.cell? ⟨w.heap.size, 5, none⟩ = some (.int .i64 xv) ∧ Below (w.heap.size + 1) w1 w')
      ((refine keepB X1.out (Nat.lt_succ_self _) ?_; go_split_ands; first | (with_reducible assumption) | ((with_reducible refine Below.drew ?_); with_reducible assumption) | ((with_reducible refine belowA ?_ p1); with_reducible assumption) | ((with_reducible refine Below.drew ?_); (with_reducible refine belowA ?_ p1); with_reducible assumption) | ((with_reducible refine below_setCells _ ?_ _ _ _ ?_) <;> (first | (with_reducible exact p1') | (with_reducible exact hz7) | (with_reducible exact hz9) | (with_reducible assumption)))))
      (first
        | (go_at_call 26; go_split_ands; refine (HFr.out _ (by with_reducible assumption)).mono ?_; rintro e w7 ⟨rfl, b7⟩; have hB7 := belowN (n := w.heap.size) (w2 := w1) b7 (by with_reducible assumption) p1; have hz7 : w.heap.size + 1 ≤ w7.heap.size := Nat.le_trans p1 hB7.size; first | (have hT7 := thA f0_size b7) | (have hT7 := thAd f0_size b7) | skip)
        | (go_at_call 17; go_split_ands; refine (HSt.out _).mono ?_; rintro e w9 ⟨rfl, b9⟩; have hB9 := belowN (n := w.heap.size) (w2 := w1) b9 (by with_reducible assumption) p1; have hz9 : w.heap.size + 1 ≤ w9.heap.size := Nat.le_trans p1 hB9.size; first | (have hT9 := thA f0_size b9) | (have hT9 := thAd f0_size b9) | (have hT9 := thN b9 hT7) | skip))
    all_goals
      go_split_ands
      refine ⟨_, ?_, ?_, ?_, ?_, rfl⟩
      · first | exact hz9 | exact hz7 | exact p1
      · exact range_lt (by rw [hl1]; decide) (World.rangeAt_setCells_same _ _ 0 _ (by rw [hl1]; first | (with_reducible exact hT9) | exact HU _))
      · exact World.rangeAt_setCells_same _ _ 0 _ (by rw [hl1]; first | (with_reducible exact hT9) | exact HU _)
      · with_reducible assumption

end Go.Proofs.Ytjlaenkfjejbkaa
