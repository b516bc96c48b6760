import Derived.Test.YtodmikjpmcabiaaGreatZTnMr
import Derived.Deep.RegionHeld3
import Derived.Deep.RegionLaw
namespace Go.Proofs.YtodmikjpmcabiaaGreat
set_option linter.unusedSimpArgs false
set_option linter.unusedVariables false
set_option maxRecDepth 100000
open Go.ChangeShapes Go.WideShapes Go.ChangeAt Go.RowKit

@[go_sem] theorem mM_and1 (z o : Bool) : bits .and .i64 (mM z o) 1 = mM z false := by cases z <;> cases o <;> kernel_rfl
@[go_sem] theorem mM_and2 (z o : Bool) : bits .and .i64 (mM z o) 2 = mM false o := by cases z <;> cases o <;> kernel_rfl
theorem rMk (a : Tn) (i : Nat) (hi : i < 64) (w : World) : Calls Tryz.prog 78 #[tv a, .int .i64 (i : Int)] w fun e w' => e = .returned (.int .i64 (mM (kz a i) (ko a i))) ∧ Below w.heap.size w w' := rMark_any a i hi w
def hb (a : Tn) (n : B64) (i : Nat) : Bool := if bt n i then ko a i else kz a i
structure BxI (w : World) (a : Tn) (wr : World) : Prop where
  ca : TC wr w.heap.size a
  bel : Below w.heap.size w wr
theorem BxI.next {w : World} {a : Tn} {wr w' : World} (h : BxI w a wr) (hb : Below wr.heap.size wr w') : BxI w a w' := ⟨h.ca.below hb, h.bel.trans (hb.mono h.bel.size)⟩
end Go.Proofs.YtodmikjpmcabiaaGreat

namespace Go.Proofs.YtodmikjpmcabiaaGreat
set_option linter.unusedSimpArgs false
set_option linter.unusedVariables false
set_option maxRecDepth 100000
open Go.ChangeShapes Go.WideShapes Go.ChangeAt Go.RowKit

structure J2 (w : World) (a b : Tn) (g : Nat) (z o : Nat → Bool) (k : Nat) (wr : World) : Prop where
  ca : TC wr w.heap.size a
  cb : TC wr (w.heap.size + 1) b
  res : TB wr (w.heap.size + 1 + 1) t0
  arr : AR wr g (pref z k) (pref o k)
  bel : Below w.heap.size w wr
  big : w.heap.size + 1 + 1 < g
theorem J2.next {w : World} {a b : Tn} {g : Nat} {z o : Nat → Bool} {k : Nat} {wr w' : World} (h : J2 w a b g z o k wr) (hb : Below wr.heap.size wr w') : J2 w a b g z o k w' :=
  ⟨h.ca.below hb, h.cb.below hb, h.res.below hb, h.arr.below hb, h.bel.trans (hb.mono h.bel.size), h.big⟩
theorem TC.other {w : World} {b c : Nat} {t : Tn} (h : TC w b t) (hbc : b ≠ c) (j : Nat) (u : Value) : TC (w.setCell ⟨c, j, none⟩ u) b t := by
  obtain ⟨h0, h1, h2⟩ := h
  have e : (w.setCell ⟨c, j, none⟩ u).heap[b]? = w.heap[b]? := Below.heap_setCell _ _ _ _ hbc
  exact ⟨by simp; exact h0, (World.cell?_of_block (w := w) (a := ⟨b, 0, none⟩) e).trans h1, (World.cell?_of_block (w := w) (a := ⟨b, 1, none⟩) e).trans h2⟩
theorem J2.put {w : World} {a b : Tn} {g : Nat} {z o : Nat → Bool} {k : Nat} {wr : World} (h : J2 w a b g z o k wr) (hk : k < 64) (m : Int) (hm : m = mM (z k) (o k)) : J2 w a b g z o (k + 1) (wr.setCell ⟨g, k, none⟩ (.int .i64 m)) := by
  subst hm
  have hbig := h.big
  refine ⟨h.ca.other (by omega) _ _, h.cb.other (by omega) _ _, h.res.other1 (by omega) _ _, ?_, h.bel.setCell (by simp; omega) _, h.big⟩
  have := h.arr.put k hk (z k) (o k)
  rwa [pref_up z k _ rfl, pref_up o k _ rfl] at this
end Go.Proofs.YtodmikjpmcabiaaGreat

namespace Go.Proofs.YtodmikjpmcabiaaGreat
set_option linter.unusedSimpArgs false
set_option linter.unusedVariables false
set_option maxRecDepth 100000
open Go.ChangeShapes Go.WideShapes Go.ChangeAt Go.RowKit

theorem meet_zo {a b : Tn} (ha : tmay a = true) (hb : tmay b = true) : meetB a b = true ↔ ∀ i, i < 64 → ((kz a i && kz b i) || (ko a i && ko b i)) = true := by
  rw [meetB_iff ha hb]
  constructor <;> intro h i hi <;> (
    have e := h i hi
    have m1 := may_bit ha i
    have m2 := may_bit hb i
    unfold kz ko at *
    revert e m1 m2
    cases bt a.1 i <;> cases bt a.2 i <;> cases bt b.1 i <;> cases bt b.2 i <;> simp)
theorem meet_made {a b : Tn} (ha : tmay a = true) (hb : tmay b = true) (h : meetB a b = true) : madeT (fun i => kz a i && kz b i) (fun i => ko a i && ko b i) = meetT a b := by
  rw [meetB_iff ha hb] at h
  apply t_ext
  · intro i hi
    rw [madeV_bit _ _ _ hi]
    have e := h i hi
    have m1 := may_bit ha i
    have m2 := may_bit hb i
    unfold meetT kz ko
    simp only [bt_and, bt_or]
    revert e m1 m2
    cases bt a.1 i <;> cases bt a.2 i <;> cases bt b.1 i <;> cases bt b.2 i <;> simp
  · intro i hi
    rw [madeM_bit _ _ _ hi]
    have e := h i hi
    have m1 := may_bit ha i
    have m2 := may_bit hb i
    unfold meetT kz ko
    simp only [bt_and, bt_or]
    revert e m1 m2
    cases bt a.1 i <;> cases bt a.2 i <;> cases bt b.1 i <;> cases bt b.2 i <;> simp
set_option maxRecDepth 100000 in
set_option maxHeartbeats 4000000 in
theorem rMeet_any (a b : Tn) (w : World) : Calls Tryz.prog 40 #[tv a, tv b] w fun e w' => e = .returned (.tuple #[tv (if meetB a b then meetT a b else t0), .bool (meetB a b)]) ∧ Below w.heap.size w w' := by
  have HA := fun W => rMay_any a W
  have HB := fun W => rMay_any b W
  have HM := hid fun (t : Tn) i hi W => rMk t i hi W
  obtain ⟨E, hE⟩ : ∃ E, E = meetB a b := ⟨_, rfl⟩
  rw [← hE]
  obtain ⟨R, hR⟩ : ∃ R, R = (if E then meetT a b else t0) := ⟨_, rfl⟩
  rw [← hR]
  unfold tv at HA HB HM ⊢
  cases ha : tmay a
  · rw [ha] at HA
    obtain rfl : E = false := by rw [hE]; unfold meetB; rw [ha]; rfl
    obtain rfl : R = t0 := by rw [hR]; rfl
    have HA' := hid HA
    clear HA HB ha hR hE
    go_enter Tryz.func40, Tryz.ntmps40
    go_wp2_with fail
    refine (HA'.out _).mono ?_
    rintro e w1 ⟨rfl, b1⟩
    have hb : Below w.heap.size w w1 := (((((Below.refl _ _).alloc (Nat.le_refl _) _).alloc (by simp) _).alloc (by simp; omega) _).trans (b1.mono (by simp; omega)))
    obtain ⟨hc, hf⟩ := bcell b1
    have hz : w.heap.size + 1 + 1 < w1.heap.size := by have := b1.size; simp at this; omega
    have hy : w.heap.size + 1 < w1.heap.size := by omega
    have hx : w.heap.size < w1.heap.size := by omega
    have HW := hid hb
    clear b1 hb
    go_wp2
    refine bodyPost_ret (v := .tuple #[.agg #[.int .u64 0, .int .u64 0], .bool false]) (by simp [results, Tryz.results40, go_sem, hc, hz]; try rfl) rfl ⟨rfl, ?_⟩
    exact (HW.out.setCell (by simp; omega) _).setCell (by simp; omega) _
  rw [ha] at HA
  have HA' := hid HA
  cases hb : tmay b
  · rw [hb] at HB
    obtain rfl : E = false := by rw [hE]; unfold meetB; rw [ha, hb]; rfl
    obtain rfl : R = t0 := by rw [hR]; rfl
    have HB' := hid HB
    clear HA HB ha hb hR hE
    go_enter Tryz.func40, Tryz.ntmps40
    go_wp2_with fail
    refine (HA'.out _).mono ?_
    rintro e w1 ⟨rfl, b1⟩
    have hb : Below w.heap.size w w1 := (((((Below.refl _ _).alloc (Nat.le_refl _) _).alloc (by simp) _).alloc (by simp; omega) _).trans (b1.mono (by simp; omega)))
    obtain ⟨hc, hf⟩ := bcell b1
    have hz : w.heap.size + 1 + 1 < w1.heap.size := by have := b1.size; simp at this; omega
    have hy : w.heap.size + 1 < w1.heap.size := by omega
    have hx : w.heap.size < w1.heap.size := by omega
    have HW := hid hb
    clear b1 hb
    go_wp2_with fail
    refine (HB'.out _).mono ?_
    rintro e w2 ⟨rfl, b2⟩
    have hb : Below w.heap.size w w2 := HW.out.trans (b2.mono (by omega))
    obtain ⟨hc2, hf2⟩ := bcell b2
    have hz2 : w.heap.size + 1 + 1 < w2.heap.size := by have := b2.size; omega
    have HW := hid hb
    clear b2 hb
    go_wp2
    refine bodyPost_ret (v := .tuple #[.agg #[.int .u64 0, .int .u64 0], .bool false]) (by simp [results, Tryz.results40, go_sem, hc, hz, hc2, hz2]; try rfl) rfl ⟨rfl, ?_⟩
    exact (HW.out.setCell (by simp; omega) _).setCell (by simp; omega) _
  rw [hb] at HB
  have HB' := hid HB
  obtain ⟨z, hz⟩ : ∃ z, z = (fun i => kz a i && kz b i) := ⟨_, rfl⟩
  obtain ⟨o, ho⟩ : ∃ o, o = (fun i => ko a i && ko b i) := ⟨_, rfl⟩
  have hEE : E = true ↔ ∀ i, i < 64 → (z i || o i) = true := by rw [hE, hz, ho]; exact meet_zo ha hb
  have hRR : E = true → R = madeT z o := fun h => by rw [hR, h, hz, ho]; exact (meet_made ha hb (by rw [← hE]; exact h)).symm
  have hR0 : E = false → R = t0 := fun h => by rw [hR, h]; rfl
  have HZ := hid hz
  have HO := hid ho
  have HR := hid hRR
  have HR0 := hid hR0
  have HE := hid hEE
  clear HA HB ha hb hR hE hz ho hEE hRR hR0
  have hZ := hid (show Z64 = Z64 from rfl)
  go_enter Tryz.func40, Tryz.ntmps40
  go_wp2_with fail
  refine (HA'.out _).mono ?_
  rintro e w1 ⟨rfl, b1⟩
  have T0 : TC w1 w.heap.size a := (((TC.new rfl).alloc _).alloc _).below b1
  have T1 : TC w1 (w.heap.size + 1) b := ((TC.new (by simp)).alloc _).below b1
  have T2 : TB w1 (w.heap.size + 1 + 1) t0 := (TB.new (a := t0) (by simp)).below b1
  have B : Below w.heap.size w w1 := (((((Below.refl _ _).alloc (Nat.le_refl _) _).alloc (by simp) _).alloc (by simp; omega) _).trans (b1.mono (by simp; omega)))
  have p0 := T1.1
  have q0 := T1.2.1
  have r0 := T1.2.2
  clear b1
  go_wp2_with fail
  refine (HB'.out _).mono ?_
  rintro e w2 ⟨rfl, b2⟩
  clear p0 q0 r0
  replace T0 := T0.below b2
  replace T1 := T1.below b2
  replace T2 := T2.below b2
  replace B := B.trans (b2.mono B.size)
  clear b2
  have X0 : J2 w a b w2.heap.size z o 0 (w2.alloc (.cells Z64 104)) := by
    have ba := (Below.refl w2.heap.size w2).alloc (Nat.le_refl _) (.cells Z64 104)
    refine ⟨T0.below ba, T1.below ba, T2.below ba, ?_, B.alloc B.size _, T2.1.1⟩
    rw [pref_zero, pref_zero]
    exact AR.zero Z64_get rfl
  have I00 := hid X0
  clear X0 T0 T1 T2 B
  unfold Z64 at I00
  go_wp2_with fail
  go_loopw [7] (fun i wr => ∃ k : Nat, k ≤ 64 ∧ i = .int .i64 k ∧ Hid (∀ j, j < k → (z j || o j) = true) ∧ Hid (J2 w a b w2.heap.size z o k wr)) (fun i _ => 64 - (intOf i).toNat)
  case atStart => exact ⟨0, by omega, rfl, hid (fun j hj => by omega), I00⟩
  case round =>
    clear I00
    obtain ⟨k, hk, rfl, HP, I0⟩ := hrel
    obtain ⟨wo, rfl⟩ : ∃ wo : World, wo = wr := ⟨_, rfl⟩
    by_cases hlt : k < 64
    · have hlt' : (k : Int) < 64 := by omega
      have q0 := I0.out.ca.2.1
      have r0 := I0.out.ca.2.2
      have q1 := I0.out.cb.2.1
      have r1 := I0.out.cb.2.2
      obtain ⟨ma, hma⟩ : ∃ ma, ma = mM (kz a k) (ko a k) := ⟨_, rfl⟩
      obtain ⟨mb, hmb⟩ : ∃ mb, mb = mM (kz b k) (ko b k) := ⟨_, rfl⟩
      obtain ⟨mo, hmo⟩ : ∃ mo, mo = mM (z k) (o k) := ⟨_, rfl⟩
      have hand : bits .and .i64 ma mb = mo := by rw [hma, hmb, hmo, mM_and, HZ.out, HO.out]
      have HKa0 := HM.out a k hlt
      have HKb0 := HM.out b k hlt
      rw [← hma] at HKa0
      rw [← hmb] at HKb0
      have HKa := hid HKa0
      have HKb := hid HKb0
      have hq0 : (mo == 0) = !(z k || o k) := by rw [hmo, mM_eqz]; cases z k <;> cases o k <;> rfl
      have HG := hid (show (z k || o k) = true → ∀ j, j < k + 1 → (z j || o j) = true from fun h j hj => (Nat.lt_succ_iff_lt_or_eq.1 hj).elim (fun q => HP.out j q) (fun q => q ▸ h))
      have HF := hid (show (z k || o k) = false → E = false from fun h => Bool.eq_false_iff.2 fun hv => by have := HE.out.1 hv k hlt; rw [h] at this; cases this)
      have hmm := hid hmo
      generalize (z k || o k) = q at hq0 HG HF
      clear HP hma hmb hmo HKa0 HKb0
      have d1 := I0.out.res.1.2.1
      go_wp2_with fail
      go_region_law (first | (go_simp; go_at_call 78; (with_reducible refine (HKa.out _).mono ?_); rintro e wq ⟨rfl, bq⟩; (first | (have Jq := Jq.next bq) | (have Jq := (I0.out.next (below_dr _)).next bq)); have q0 := Jq.ca.2.1; have r0 := Jq.ca.2.2; have q1 := Jq.cb.2.1; have r1 := Jq.cb.2.2; have y1 := (Jq.arr.2 k hlt).1; have y2 := (Jq.arr.2 k hlt).2) | (go_simp; go_at_call 78; (with_reducible refine (HKb.out _).mono ?_); rintro e wq ⟨rfl, bq⟩; (first | (have Jq := Jq.next bq) | (have Jq := (I0.out.next (below_dr _)).next bq)); have q0 := Jq.ca.2.1; have r0 := Jq.ca.2.2; have q1 := Jq.cb.2.1; have r1 := Jq.cb.2.2; have y1 := (Jq.arr.2 k hlt).1; have y2 := (Jq.arr.2 k hlt).2))
      all_goals
        have RR := hid (Jq.put hlt _ hmm.out)
        clear Jq q0 r0 q1 r1 HKa HKb hmm I0 hand d1
        cases q
        · obtain rfl := HF.out rfl
          obtain rfl := HR0.out rfl
          have e1 := RR.out.res.1.2.1
          have e2 := RR.out.res.1.2.2
          have e3 := RR.out.res.2.1
          have e4 := RR.out.res.2.2
          have e5 := RR.out.res.1.1
          have hbg := RR.out.big
          have hne1 : w2.heap.size ≠ w.heap.size + 1 + 1 := by omega
          have HW := hid RR.out.bel
          clear RR HG HF
          go_wp2
          refine bodyPost_ret (v := .tuple #[.agg #[.int .u64 0, .int .u64 0], .bool false]) (by simp [results, Tryz.results40, go_sem, e1, e2, e5]; try rfl) rfl ⟨rfl, ?_⟩
          exact (HW.out.setCell (by simp; omega) _).setCell (by simp; omega) _
        · have HG' := hid (HG.out rfl)
          clear HG HF
          go_wp2
          go_roundw
          case rel => first | exact ⟨k + 1, by omega, by go_num, HG', RR⟩ | ((repeat apply Exists.intro); exact ⟨⟨k + 1, by omega, by go_num, HG', RR⟩, rfl⟩)
          case measure => simp [intOf]; omega
    · have hk64 : k = 64 := by omega
      subst hk64
      have d1 := I0.out.res.1.2.1
      have d2 := I0.out.res.1.2.2
      have d3 := I0.out.res.2.1
      have d4 := I0.out.res.2.2
      have HS := hid (show wo.rangeAt w2.heap.size 0 (mL (pref z 64) (pref o 64)) from I0.out.arr.range)
      have HMd := hid (fun W => rMade_any (pref z 64) (pref o 64) _ rfl W)
      obtain rfl : E = true := HE.out.2 HP.out
      have he : madeT (pref z 64) (pref o 64) = R := by rw [HR.out rfl]; exact madeT_congr _ _ _ _ (fun i hi => pref_all z i hi) (fun i hi => pref_all o i hi)
      rw [he] at HMd
      clear he
      obtain ⟨L, hL⟩ : ∃ L, L = mL (pref z 64) (pref o 64) := ⟨_, rfl⟩
      rw [← hL] at HS HMd
      have hLl : L.length = 64 := by rw [hL]; exact mL_len _ _
      have HLL := hid hLl
      clear hL hLl
      unfold tv at HMd
      go_wp2_with ((with_reducible refine at_load 104 ?_); refine wpList_load_mid rfl 104 _ rfl w2.heap.size 0 rfl L _ HS.out Tryz.underlying104 rfl (by rw [HLL.out]; exact infoA) ?_)
      refine (HMd.out _).mono ?_
      rintro e w3 ⟨rfl, b3⟩
      have R1 := I0.out.res.below b3
      have e1 := R1.1.2.1
      have e2 := R1.1.2.2
      have e3 := R1.2.1
      have e4 := R1.2.2
      have e5 := R1.1.1
      have HW := hid (I0.out.next b3).bel
      clear R1 b3 d1 d2 d3 d4 I0
      go_wp2
      refine bodyPost_ret (v := .tuple #[.agg #[.int .u64 (ub R.1), .int .u64 (ub R.2)], .bool true]) (by simp [results, Tryz.results40, go_sem, e1, e2, e5]; try rfl) rfl ⟨rfl, ?_⟩
      exact (HW.out.setCell (by simp; omega) _).setCell (by simp; omega) _
end Go.Proofs.YtodmikjpmcabiaaGreat

namespace Go.Proofs.YtodmikjpmcabiaaGreat
set_option linter.unusedSimpArgs false
set_option linter.unusedVariables false
set_option maxRecDepth 100000
open Go.ChangeShapes Go.WideShapes Go.ChangeAt Go.RowKit

def unl (lo hi : B64) (k : Nat) : Bool := (List.range 64).any fun j => decide (k ≤ j) && (bt lo j ^^ bt hi j)
theorem unl_iff (lo hi : B64) (k : Nat) : unl lo hi k = true ↔ ∃ j, j < 64 ∧ k ≤ j ∧ (bt lo j ^^ bt hi j) = true := by
  unfold unl
  rw [List.any_eq_true]
  constructor
  · rintro ⟨j, hj, h⟩
    rw [Bool.and_eq_true, decide_eq_true_eq] at h
    exact ⟨j, List.mem_range.1 hj, h.1, h.2⟩
  · rintro ⟨j, hj, h1, h2⟩
    exact ⟨j, List.mem_range.2 hj, by rw [Bool.and_eq_true, decide_eq_true_eq]; exact ⟨h1, h2⟩⟩
theorem unl_top (lo hi : B64) : unl lo hi 64 = false := by
  rw [← Bool.not_eq_true, unl_iff]; rintro ⟨j, h1, h2, _⟩; omega
theorem unl_step (lo hi : B64) (k : Nat) (hk : k < 64) : unl lo hi k = (unl lo hi (k + 1) || (bt lo k ^^ bt hi k)) := by
  rw [Bool.eq_iff_iff, Bool.or_eq_true, unl_iff, unl_iff]
  constructor
  · rintro ⟨j, h1, h2, h3⟩
    by_cases h : j = k
    · subst h; exact .inr h3
    · exact .inl ⟨j, h1, by omega, h3⟩
  · rintro (⟨j, h1, h2, h3⟩ | h)
    · exact ⟨j, h1, by omega, h3⟩
    · exact ⟨k, hk, Nat.le_refl _, h⟩
def rgZ (lo hi : B64) (i : Nat) : Bool := unl lo hi i || !bt lo i
def rgO (lo hi : B64) (i : Nat) : Bool := unl lo hi i || bt lo i
theorem bitLen_bit (x : B64) (i : Nat) (hi : i < 64) : decide (i < Lib.bitLen x.toNat) = (List.range 64).any fun j => decide (i ≤ j) && bt x j := by
  rw [Bool.eq_iff_iff, decide_eq_true_eq, List.any_eq_true]
  constructor
  · intro h
    false_or_by_contra
    rename_i hn
    have hx : x.toNat < 2 ^ i := by
      apply Nat.lt_pow_two_of_testBit
      intro j hj
      by_cases h6 : j < 64
      · false_or_by_contra
        rename_i h7
        exact hn ⟨j, List.mem_range.2 h6, by rw [Bool.and_eq_true, decide_eq_true_eq]; exact ⟨hj, by unfold bt; rw [BitVec.getLsbD]; simpa using h7⟩⟩
      · exact BitVec.getLsbD_of_ge x j (by omega)
    have := Lib.bitLen_le x.toNat i (by omega) hx
    omega
  · rintro ⟨j, hj, h⟩
    rw [Bool.and_eq_true, decide_eq_true_eq] at h
    have h1 : 2 ^ j ≤ x.toNat := Nat.ge_two_pow_of_testBit (by have := h.2; unfold bt at this; rwa [BitVec.getLsbD] at this)
    have h2 := Lib.bitLen_shift j x.toNat h1 x.isLt
    have h3 : 0 < Lib.bitLen (x.toNat / 2 ^ j) := by
      have hp : 0 < x.toNat / 2 ^ j := Nat.div_pos h1 (Nat.two_pow_pos j)
      have hq : x.toNat / 2 ^ j < 2 ^ 64 := Nat.lt_of_le_of_lt (Nat.div_le_self _ _) x.isLt
      have := Lib.bitLen_half (x.toNat / 2 ^ j) (by omega) hq
      omega
    omega
theorem range_is (lo hi : B64) : madeT (rgZ lo hi) (rgO lo hi) = butT lo (1#64 <<< Lib.bitLen (lo ^^^ hi).toNat - 1#64) := by
  have hl : ∀ i, i < 64 → bt (1#64 <<< Lib.bitLen (lo ^^^ hi).toNat - 1#64) i = unl lo hi i := by
    intro i hi'
    have h := low_bit (Lib.bitLen (lo ^^^ hi).toNat) i (bitLen_le _) hi'
    unfold lowB at h
    rw [h, bitLen_bit _ i hi']
    unfold unl
    simp only [bt_xor]
  apply t_ext
  · intro i hi'
    unfold butT
    rw [madeV_bit _ _ _ hi', bt_and, bt_not _ _ hi', hl i hi']
    unfold rgZ rgO
    cases unl lo hi i <;> cases bt lo i <;> rfl
  · intro i hi'
    unfold butT
    rw [madeM_bit _ _ _ hi', hl i hi']
    unfold rgZ rgO
    cases unl lo hi i <;> cases bt lo i <;> rfl
def suf (f : Nat → Bool) (k : Nat) : Nat → Bool := fun j => decide (k ≤ j) && f j
theorem suf_up (f : Nat → Bool) (k : Nat) (v : Bool) (hv : v = f k) : upd (suf f (k + 1)) k v = suf f k := by
  funext j
  unfold upd suf
  by_cases h : j = k
  · subst h hv; simp
  · have : (k + 1 ≤ j) ↔ (k ≤ j) := by omega
    simp [h, this]
structure RgI (w : World) (z o : Nat → Bool) (k : Nat) (wr : World) : Prop where
  res : TB wr w.heap.size t0
  arr : AR wr (w.heap.size + 1) (suf z k) (suf o k)
  bel : Below w.heap.size w wr
theorem rg_put {w : World} {z o zz oo : Nat → Bool} {W : World} (T2 : TB W w.heap.size t0) (T3 : AR W (w.heap.size + 1) zz oo) (T4 : Below w.heap.size w W) (k : Nat) (hk : k < 64) (zv ov : Bool) :
    TB (W.setCell ⟨w.heap.size + 1, k, none⟩ (.int .i64 (mM zv ov))) w.heap.size t0 ∧ AR (W.setCell ⟨w.heap.size + 1, k, none⟩ (.int .i64 (mM zv ov))) (w.heap.size + 1) (upd zz k zv) (upd oo k ov) ∧ Below w.heap.size w (W.setCell ⟨w.heap.size + 1, k, none⟩ (.int .i64 (mM zv ov))) :=
  ⟨T2.other1 (by omega) _ _, T3.put k hk zv ov, T4.setCell (by simp) _⟩
theorem rg1 {w : World} {z o : Nat → Bool} {k : Nat} {wr : World} (h : RgI w z o (k + 1) wr) (hk : k < 64) (zv ov : Bool) (hz : zv = z k) (ho : ov = o k) : RgI w z o k (wr.setCell ⟨w.heap.size + 1, k, none⟩ (.int .i64 (mM zv ov))) := by
  obtain ⟨a, b, c⟩ := rg_put h.res h.arr h.bel k hk zv ov (z := z) (o := o)
  rw [suf_up z k zv hz, suf_up o k ov ho] at b
  exact ⟨a, b, c⟩
theorem rg2 {w : World} {z o : Nat → Bool} {k : Nat} {wr : World} (h : RgI w z o (k + 1) wr) (hk : k < 64) (z1 o1 zv ov : Bool) (hz : zv = z k) (ho : ov = o k) : RgI w z o k ((wr.setCell ⟨w.heap.size + 1, k, none⟩ (.int .i64 (mM z1 o1))).setCell ⟨w.heap.size + 1, k, none⟩ (.int .i64 (mM zv ov))) := by
  obtain ⟨a, b, c⟩ := rg_put h.res h.arr h.bel k hk z1 o1 (z := z) (o := o)
  obtain ⟨a, b, c⟩ := rg_put a b c k hk zv ov (z := z) (o := o)
  rw [upd_upd, upd_upd, suf_up z k zv hz, suf_up o k ov ho] at b
  exact ⟨a, b, c⟩
theorem rg3 {w : World} {z o : Nat → Bool} {k : Nat} {wr : World} (h : RgI w z o (k + 1) wr) (hk : k < 64) (z1 o1 z2 o2 zv ov : Bool) (hz : zv = z k) (ho : ov = o k) : RgI w z o k (((wr.setCell ⟨w.heap.size + 1, k, none⟩ (.int .i64 (mM z1 o1))).setCell ⟨w.heap.size + 1, k, none⟩ (.int .i64 (mM z2 o2))).setCell ⟨w.heap.size + 1, k, none⟩ (.int .i64 (mM zv ov))) := by
  obtain ⟨a, b, c⟩ := rg_put h.res h.arr h.bel k hk z1 o1 (z := z) (o := o)
  obtain ⟨a, b, c⟩ := rg_put a b c k hk z2 o2 (z := z) (o := o)
  obtain ⟨a, b, c⟩ := rg_put a b c k hk zv ov (z := z) (o := o)
  rw [upd_upd, upd_upd, upd_upd, upd_upd, suf_up z k zv hz, suf_up o k ov ho] at b
  exact ⟨a, b, c⟩
theorem bitv (x : B64) (i : Nat) : (ub (x >>> i)).tmod 2 = if bt x i then 1 else 0 := by
  have h := ub_bitm x i
  have h0 : (ub (x >>> i)).tmod 2 = ub (x >>> i) % 2 := Int.tmod_eq_emod_of_nonneg (ub_ge _)
  rw [h0] at h ⊢
  cases hb : bt x i
  · rw [hb, beq_eq_false_iff_ne] at h
    simp only [Bool.false_eq_true, if_false]
    omega
  · rw [hb, beq_iff_eq] at h
    simpa using h
set_option maxRecDepth 100000 in
set_option maxHeartbeats 4000000 in
theorem rRange_any (lo hi : B64) (w : World) : Calls Tryz.prog 39 #[.int .u64 (ub lo), .int .u64 (ub hi)] w fun e w' => e = .returned (.tuple #[tv (rangeT lo hi), .int .i64 (rangeE lo hi)]) ∧ Below w.heap.size w w' := by
  obtain ⟨R, HR⟩ : ∃ R, R = rangeT lo hi := ⟨_, rfl⟩
  rw [← HR]
  unfold rangeT at HR
  unfold rangeE
  by_cases hh : ub hi < ub lo
  · rw [if_pos hh] at HR ⊢
    subst HR
    go_enter Tryz.func39, Tryz.ntmps39
    go_wp2
    exact bodyPost_ret (v := .tuple #[tv t0, .int .i64 1]) (by simp [results, Tryz.results39, go_sem]; try rfl) rfl ⟨rfl, (Below.refl _ _).alloc (Nat.le_refl _) _⟩
  rw [if_neg hh] at HR ⊢
  rw [← range_is] at HR
  have HRR := hid HR
  clear HR
  have hh' : ub lo ≤ ub hi := by omega
  have X0 : RgI w (rgZ lo hi) (rgO lo hi) 64 ((w.alloc (.cells #[.int .u64 0, .int .u64 0] 24)).alloc (.cells Z64 104)) := by
    refine ⟨(TB.new (a := t0) rfl).below ((Below.refl _ _).alloc (Nat.le_refl _) _), ?_, ((Below.refl _ _).alloc (Nat.le_refl _) _).alloc (by simp) _⟩
    have e : ∀ f : Nat → Bool, AR ((w.alloc (.cells #[.int .u64 0, .int .u64 0] 24)).alloc (.cells Z64 104)) (w.heap.size + 1) (fun _ => false) (fun _ => false) := fun _ => AR.zero Z64_get (by simp)
    have g := e (fun _ => false)
    exact ⟨g.1, fun i hi' => by
      have hx := g.2 i hi'
      have d : decide (64 ≤ i) = false := decide_eq_false (by omega)
      unfold suf
      rw [d]
      exact hx⟩
  have HX := hid X0
  clear X0 hh
  unfold Z64 at HX
  go_enter Tryz.func39, Tryz.ntmps39
  go_wp2_with fail
  go_loopw [7, 8] (fun u i wr => ∃ k : Nat, k ≤ 64 ∧ i = .int .i64 ((k : Int) - 1) ∧ u = .bool (unl lo hi k) ∧ Hid (RgI w (rgZ lo hi) (rgO lo hi) k wr)) (fun _ i _ => (intOf i + 1).toNat)
  case atStart => exact ⟨64, by omega, rfl, by rw [unl_top], HX⟩
  case round =>
    clear HX
    obtain ⟨kk, hk, rfl, rfl, HI⟩ := hrel
    obtain ⟨wo, rfl⟩ : ∃ wo : World, wo = wr := ⟨_, rfl⟩
    by_cases hlt : 0 < kk
    · obtain ⟨k, rfl⟩ : ∃ k, kk = k + 1 := ⟨kk - 1, by omega⟩
      have hk64 : k < 64 := by omega
      have ek : ((k + 1 : Nat) : Int) - 1 = (k : Int) := by omega
      rw [ek]
      have hk0 : (0 : Int) ≤ (k : Int) := by omega
      have hk1 : (k : Int) < 64 := by omega
      have v1 := bitv lo k
      have v2 := bitv hi k
      have us := unl_step lo hi k hk64
      have y1 := (HI.out.arr.2 k hk64).1
      have y2 := (HI.out.arr.2 k hk64).2
      clear ek hk
      cases hu : unl lo hi (k + 1) <;> cases hl : bt lo k <;> cases hx : bt hi k
      · have us' : unl lo hi k = false := by rw [us, hu, hl, hx]; rfl
        have R := hid (rg1 HI.out hk64 true false (by unfold rgZ; rw [us', hl]; rfl) (by unfold rgO; rw [us', hl]; rfl))
        rw [hl] at v1
        rw [hx] at v2
        simp only [if_true, if_false, Bool.false_eq_true] at v1 v2
        clear us HI hu hl hx
        have US := hid us'
        clear us'
        go_wp2
        go_roundw
        case rel => exact ⟨k, by omega, by go_num, by rw [US.out], R⟩
        case measure => simp [intOf]
      · have us' : unl lo hi k = true := by rw [us, hu, hl, hx]; rfl
        have R := hid (rg2 HI.out hk64 true false true true (by unfold rgZ; rw [us', hl]; rfl) (by unfold rgO; rw [us', hl]; rfl))
        rw [hl] at v1
        rw [hx] at v2
        simp only [if_true, if_false, Bool.false_eq_true] at v1 v2
        clear us HI hu hl hx
        have US := hid us'
        clear us'
        go_wp2
        go_roundw
        case rel => exact ⟨k, by omega, by go_num, by rw [US.out], R⟩
        case measure => simp [intOf]
      · have us' : unl lo hi k = true := by rw [us, hu, hl, hx]; rfl
        have R := hid (rg3 HI.out hk64 true false false true true true (by unfold rgZ; rw [us', hl]; rfl) (by unfold rgO; rw [us', hl]; rfl))
        rw [hl] at v1
        rw [hx] at v2
        simp only [if_true, if_false, Bool.false_eq_true] at v1 v2
        clear us HI hu hl hx
        have US := hid us'
        clear us'
        go_wp2
        go_roundw
        case rel => exact ⟨k, by omega, by go_num, by rw [US.out], R⟩
        case measure => simp [intOf]
      · have us' : unl lo hi k = false := by rw [us, hu, hl, hx]; rfl
        have R := hid (rg2 HI.out hk64 true false false true (by unfold rgZ; rw [us', hl]; rfl) (by unfold rgO; rw [us', hl]; rfl))
        rw [hl] at v1
        rw [hx] at v2
        simp only [if_true, if_false, Bool.false_eq_true] at v1 v2
        clear us HI hu hl hx
        have US := hid us'
        clear us'
        go_wp2
        go_roundw
        case rel => exact ⟨k, by omega, by go_num, by rw [US.out], R⟩
        case measure => simp [intOf]
      · have us' : unl lo hi k = true := by rw [us, hu, hl, hx]; rfl
        have R := hid (rg2 HI.out hk64 true false true true (by unfold rgZ; rw [us', hl]; rfl) (by unfold rgO; rw [us', hl]; rfl))
        rw [hl] at v1
        rw [hx] at v2
        simp only [if_true, if_false, Bool.false_eq_true] at v1 v2
        clear us HI hu hl hx
        have US := hid us'
        clear us'
        go_wp2
        go_roundw
        case rel => exact ⟨k, by omega, by go_num, by rw [US.out], R⟩
        case measure => simp [intOf]
      · have us' : unl lo hi k = true := by rw [us, hu, hl, hx]; rfl
        have R := hid (rg2 HI.out hk64 true false true true (by unfold rgZ; rw [us', hl]; rfl) (by unfold rgO; rw [us', hl]; rfl))
        rw [hl] at v1
        rw [hx] at v2
        simp only [if_true, if_false, Bool.false_eq_true] at v1 v2
        clear us HI hu hl hx
        have US := hid us'
        clear us'
        go_wp2
        go_roundw
        case rel => exact ⟨k, by omega, by go_num, by rw [US.out], R⟩
        case measure => simp [intOf]
      · have us' : unl lo hi k = true := by rw [us, hu, hl, hx]; rfl
        have R := hid (rg3 HI.out hk64 true false false true true true (by unfold rgZ; rw [us', hl]; rfl) (by unfold rgO; rw [us', hl]; rfl))
        rw [hl] at v1
        rw [hx] at v2
        simp only [if_true, if_false, Bool.false_eq_true] at v1 v2
        clear us HI hu hl hx
        have US := hid us'
        clear us'
        go_wp2
        go_roundw
        case rel => exact ⟨k, by omega, by go_num, by rw [US.out], R⟩
        case measure => simp [intOf]
      · have us' : unl lo hi k = true := by rw [us, hu, hl, hx]; rfl
        have R := hid (rg3 HI.out hk64 true false false true true true (by unfold rgZ; rw [us', hl]; rfl) (by unfold rgO; rw [us', hl]; rfl))
        rw [hl] at v1
        rw [hx] at v2
        simp only [if_true, if_false, Bool.false_eq_true] at v1 v2
        clear us HI hu hl hx
        have US := hid us'
        clear us'
        go_wp2
        go_roundw
        case rel => exact ⟨k, by omega, by go_num, by rw [US.out], R⟩
        case measure => simp [intOf]
    · have hk0 : kk = 0 := by omega
      subst hk0
      have d1 := HI.out.res.1.2.1
      have d2 := HI.out.res.1.2.2
      have d3 := HI.out.res.2.1
      have d4 := HI.out.res.2.2
      have HS := hid (show (World.there wo (w.heap.size + 1) 0 64) ∧ wo.rangeAt (w.heap.size + 1) 0 (mL (suf (rgZ lo hi) 0) (suf (rgO lo hi) 0)) from ⟨fun i hi' => by rw [Nat.zero_add]; exact ⟨by rw [(HI.out.arr.2 i hi').1]; rfl, (HI.out.arr.2 i hi').2⟩, HI.out.arr.range⟩)
      have HMd := hid (fun W => rMade_any (suf (rgZ lo hi) 0) (suf (rgO lo hi) 0) _ rfl W)
      have he : madeT (suf (rgZ lo hi) 0) (suf (rgO lo hi) 0) = R := by rw [HRR.out]; exact madeT_congr _ _ _ _ (fun i hi' => by simp [suf]) (fun i hi' => by simp [suf])
      rw [he] at HMd
      have HII := HI
      clear HI he
      obtain ⟨L, hL⟩ : ∃ L, L = mL (suf (rgZ lo hi) 0) (suf (rgO lo hi) 0) := ⟨_, rfl⟩
      rw [← hL] at HS HMd
      have hLl : L.length = 64 := by rw [hL]; exact mL_len _ _
      have HLL := hid hLl
      clear hL hLl
      unfold tv at HMd
      go_wp2_with ((with_reducible refine at_load 104 ?_); refine wpList_load_mid rfl 104 _ rfl (w.heap.size + 1) 0 rfl L _ HS.out.2 Tryz.underlying104 rfl (by rw [HLL.out]; exact infoA) ?_)
      refine (HMd.out _).mono ?_
      rintro e w1 ⟨rfl, b1⟩
      have R1 := HII.out.res.below b1
      have e1 := R1.1.2.1
      have e2 := R1.1.2.2
      have e3 := R1.2.1
      have e4 := R1.2.2
      have e5 := R1.1.1
      have HB := hid (HII.out.bel.trans (b1.mono HII.out.bel.size))
      clear R1 b1 d1 d2 d3 d4 HII
      go_wp2
      refine bodyPost_ret (v := .tuple #[.agg #[.int .u64 (ub R.1), .int .u64 (ub R.2)], .int .i64 0]) (by simp [results, Tryz.results39, go_sem, e1, e2, e5]; try rfl) rfl ⟨rfl, ?_⟩
      exact (HB.out.setCell (by simp) _).setCell (by simp) _
end Go.Proofs.YtodmikjpmcabiaaGreat

namespace Go.Proofs.YtodmikjpmcabiaaGreat
set_option linter.unusedSimpArgs false
set_option linter.unusedVariables false
set_option maxRecDepth 100000
open Go.ChangeShapes Go.WideShapes Go.ChangeAt Go.RowKit

structure I2 (w : World) (a b : Tn) (wr : World) : Prop where
  ca : TC wr w.heap.size a
  cb : TC wr (w.heap.size + 1) b
  bel : Below w.heap.size w wr
theorem I2.next {w : World} {a b : Tn} {wr w' : World} (h : I2 w a b wr) (hb : Below wr.heap.size wr w') : I2 w a b w' := ⟨h.ca.below hb, h.cb.below hb, h.bel.trans (hb.mono h.bel.size)⟩
end Go.Proofs.YtodmikjpmcabiaaGreat
