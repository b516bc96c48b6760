/-
  Contract of the document's Range.
-/
import Derived.Test.YtbinbjfpjielkaaTnX
namespace Go.Proofs.Ytbinbjfpjielkaa
set_option linter.unusedSimpArgs false
set_option linter.unusedVariables false
open Go.ChangeShapes Go.WideShapes Go.ChangeAt Go.RowKit

/-- Whether lo and hi are unlike at a bit from k on. -/
def unl (lo hi : B64) (k : Nat) : Bool := (List.range 64).any fun j => decide (k ≤ j) && (bt lo j ^^ bt hi j)
theorem unl_iff (lo hi : B64) (k : Nat) : unl lo hi k = true ↔ ∃ j, j < 64 ∧ k ≤ j ∧ (bt lo j ^^ bt hi j) = true := by
  unfold unl
  rw [List.any_eq_true]
  constructor
  · rintro ⟨j, hj, h⟩
    rw [Bool.and_eq_true, decide_eq_true_eq] at h
    exact ⟨j, List.mem_range.1 hj, h.1, h.2⟩
  · rintro ⟨j, hj, h1, h2⟩
    exact ⟨j, List.mem_range.2 hj, by rw [Bool.and_eq_true, decide_eq_true_eq]; exact ⟨h1, h2⟩⟩
theorem unl_top (lo hi : B64) : unl lo hi 64 = false := by
  rw [← Bool.not_eq_true, unl_iff]; rintro ⟨j, h1, h2, _⟩; omega
theorem unl_step (lo hi : B64) (k : Nat) (hk : k < 64) : unl lo hi k = (unl lo hi (k + 1) || (bt lo k ^^ bt hi k)) := by
  rw [Bool.eq_iff_iff, Bool.or_eq_true, unl_iff, unl_iff]
  constructor
  · rintro ⟨j, h1, h2, h3⟩
    by_cases h : j = k
    · subst h; exact .inr h3
    · exact .inl ⟨j, h1, by omega, h3⟩
  · rintro (⟨j, h1, h2, h3⟩ | h)
    · exact ⟨j, h1, by omega, h3⟩
    · exact ⟨k, hk, Nat.le_refl _, h⟩
/-- The numbers from lo to hi, bit by bit. -/
def rgZ (lo hi : B64) (i : Nat) : Bool := unl lo hi i || !bt lo i
def rgO (lo hi : B64) (i : Nat) : Bool := unl lo hi i || bt lo i
theorem bitLen_bit (x : B64) (i : Nat) (hi : i < 64) : decide (i < Lib.bitLen x.toNat) = (List.range 64).any fun j => decide (i ≤ j) && bt x j := by
  rw [Bool.eq_iff_iff, decide_eq_true_eq, List.any_eq_true]
  constructor
  · intro h
    false_or_by_contra
    rename_i hn
    have hx : x.toNat < 2 ^ i := by
      apply Nat.lt_pow_two_of_testBit
      intro j hj
      by_cases h6 : j < 64
      · false_or_by_contra
        rename_i h7
        exact hn ⟨j, List.mem_range.2 h6, by rw [Bool.and_eq_true, decide_eq_true_eq]; exact ⟨hj, by unfold bt; rw [BitVec.getLsbD]; simpa using h7⟩⟩
      · exact BitVec.getLsbD_of_ge x j (by omega)
    have := Lib.bitLen_le x.toNat i (by omega) hx
    omega
  · rintro ⟨j, hj, h⟩
    rw [Bool.and_eq_true, decide_eq_true_eq] at h
    have h1 : 2 ^ j ≤ x.toNat := Nat.ge_two_pow_of_testBit (by have := h.2; unfold bt at this; rwa [BitVec.getLsbD] at this)
    have h2 := Lib.bitLen_shift j x.toNat h1 x.isLt
    have h3 : 0 < Lib.bitLen (x.toNat / 2 ^ j) := by
      have hp : 0 < x.toNat / 2 ^ j := Nat.div_pos h1 (Nat.two_pow_pos j)
      have hq : x.toNat / 2 ^ j < 2 ^ 64 := Nat.lt_of_le_of_lt (Nat.div_le_self _ _) x.isLt
      have := Lib.bitLen_half (x.toNat / 2 ^ j) (by omega) hq
      omega
    omega
theorem range_is (lo hi : B64) : madeT (rgZ lo hi) (rgO lo hi) = butT lo (1#64 <<< Lib.bitLen (lo ^^^ hi).toNat - 1#64) := by
  have hl : ∀ i, i < 64 → bt (1#64 <<< Lib.bitLen (lo ^^^ hi).toNat - 1#64) i = unl lo hi i := by
    intro i hi'
    have h := low_bit (Lib.bitLen (lo ^^^ hi).toNat) i (bitLen_le _) hi'
    unfold lowB at h
    rw [h, bitLen_bit _ i hi']
    unfold unl
    simp only [bt_xor]
  apply t_ext
  · intro i hi'
    unfold butT
    rw [madeV_bit _ _ _ hi', bt_and, bt_not _ _ hi', hl i hi']
    unfold rgZ rgO
    cases unl lo hi i <;> cases bt lo i <;> rfl
  · intro i hi'
    unfold butT
    rw [madeM_bit _ _ _ hi', hl i hi']
    unfold rgZ rgO
    cases unl lo hi i <;> cases bt lo i <;> rfl
/-- The last ones, from k on. -/
def suf (f : Nat → Bool) (k : Nat) : Nat → Bool := fun j => decide (k ≤ j) && f j
theorem suf_up (f : Nat → Bool) (k : Nat) (v : Bool) (hv : v = f k) : upd (suf f (k + 1)) k v = suf f k := by
  funext j
  unfold upd suf
  by_cases h : j = k
  · subst h hv; simp
  · have : (k + 1 ≤ j) ↔ (k ≤ j) := by omega
    simp [h, this]
structure RgI (w : World) (z o : Nat → Bool) (k : Nat) (wr : World) : Prop where
  res : TB wr w.heap.size t0
  arr : AR wr (w.heap.size + 1) (suf z k) (suf o k)
  bel : Below w.heap.size w wr
theorem rg_put {w : World} {z o zz oo : Nat → Bool} {W : World} (T2 : TB W w.heap.size t0) (T3 : AR W (w.heap.size + 1) zz oo) (T4 : Below w.heap.size w W) (k : Nat) (hk : k < 64) (zv ov : Bool) :
    TB (W.setCell ⟨w.heap.size + 1, k, none⟩ (.int .i64 (mM zv ov))) w.heap.size t0 ∧ AR (W.setCell ⟨w.heap.size + 1, k, none⟩ (.int .i64 (mM zv ov))) (w.heap.size + 1) (upd zz k zv) (upd oo k ov) ∧ Below w.heap.size w (W.setCell ⟨w.heap.size + 1, k, none⟩ (.int .i64 (mM zv ov))) :=
  ⟨T2.other1 (by omega) _ _, T3.put k hk zv ov, T4.setCell (by simp) _⟩
theorem rg1 {w : World} {z o : Nat → Bool} {k : Nat} {wr : World} (h : RgI w z o (k + 1) wr) (hk : k < 64) (zv ov : Bool) (hz : zv = z k) (ho : ov = o k) : RgI w z o k (wr.setCell ⟨w.heap.size + 1, k, none⟩ (.int .i64 (mM zv ov))) := by
  obtain ⟨a, b, c⟩ := rg_put h.res h.arr h.bel k hk zv ov (z := z) (o := o)
  rw [suf_up z k zv hz, suf_up o k ov ho] at b
  exact ⟨a, b, c⟩
theorem rg2 {w : World} {z o : Nat → Bool} {k : Nat} {wr : World} (h : RgI w z o (k + 1) wr) (hk : k < 64) (z1 o1 zv ov : Bool) (hz : zv = z k) (ho : ov = o k) : RgI w z o k ((wr.setCell ⟨w.heap.size + 1, k, none⟩ (.int .i64 (mM z1 o1))).setCell ⟨w.heap.size + 1, k, none⟩ (.int .i64 (mM zv ov))) := by
  obtain ⟨a, b, c⟩ := rg_put h.res h.arr h.bel k hk z1 o1 (z := z) (o := o)
  obtain ⟨a, b, c⟩ := rg_put a b c k hk zv ov (z := z) (o := o)
  rw [upd_upd, upd_upd, suf_up z k zv hz, suf_up o k ov ho] at b
  exact ⟨a, b, c⟩
theorem rg3 {w : World} {z o : Nat → Bool} {k : Nat} {wr : World} (h : RgI w z o (k + 1) wr) (hk : k < 64) (z1 o1 z2 o2 zv ov : Bool) (hz : zv = z k) (ho : ov = o k) : RgI w z o k (((wr.setCell ⟨w.heap.size + 1, k, none⟩ (.int .i64 (mM z1 o1))).setCell ⟨w.heap.size + 1, k, none⟩ (.int .i64 (mM z2 o2))).setCell ⟨w.heap.size + 1, k, none⟩ (.int .i64 (mM zv ov))) := by
  obtain ⟨a, b, c⟩ := rg_put h.res h.arr h.bel k hk z1 o1 (z := z) (o := o)
  obtain ⟨a, b, c⟩ := rg_put a b c k hk z2 o2 (z := z) (o := o)
  obtain ⟨a, b, c⟩ := rg_put a b c k hk zv ov (z := z) (o := o)
  rw [upd_upd, upd_upd, upd_upd, upd_upd, suf_up z k zv hz, suf_up o k ov ho] at b
  exact ⟨a, b, c⟩
/-- A bit as the program works it out. -/
theorem bitv (x : B64) (i : Nat) : (ub (x >>> i)).tmod 2 = if bt x i then 1 else 0 := by
  have h := ub_bitm x i
  have h0 : (ub (x >>> i)).tmod 2 = ub (x >>> i) % 2 := Int.tmod_eq_emod_of_nonneg (ub_ge _)
  rw [h0] at h ⊢
  cases hb : bt x i
  · rw [hb, beq_eq_false_iff_ne] at h
    simp only [Bool.false_eq_true, if_false]
    omega
  · rw [hb, beq_iff_eq] at h
    simpa using h
set_option maxRecDepth 100000 in
set_option maxHeartbeats 4000000 in
theorem rRange_any (lo hi : B64) (w : World) : Calls Try.prog 31 #[.int .u64 (ub lo), .int .u64 (ub hi)] w fun e w' => e = .returned (.tuple #[tv (rangeT lo hi), .int .i64 (rangeE lo hi)]) ∧ Below w.heap.size w w' := by
  obtain ⟨R, HR⟩ : ∃ R, R = rangeT lo hi := ⟨_, rfl⟩
  rw [← HR]
  unfold rangeT at HR
  unfold rangeE
  by_cases hh : ub hi < ub lo
  · rw [if_pos hh] at HR ⊢
    subst HR
    go_enter Try.func31, Try.ntmps31
    go_wp2
    exact bodyPost_ret (v := .tuple #[tv t0, .int .i64 1]) (by simp [results, Try.results31, go_sem]; try rfl) rfl ⟨rfl, (Below.refl _ _).alloc (Nat.le_refl _) _⟩
  rw [if_neg hh] at HR ⊢
  rw [← range_is] at HR
  have HRR := hid HR
  clear HR
  have hh' : ub lo ≤ ub hi := by omega
  have X0 : RgI w (rgZ lo hi) (rgO lo hi) 64 ((w.alloc (.cells #[.int .u64 0, .int .u64 0] 24)).alloc (.cells Z64 69)) := by
    refine ⟨(TB.new (a := t0) rfl).below ((Below.refl _ _).alloc (Nat.le_refl _) _), ?_, ((Below.refl _ _).alloc (Nat.le_refl _) _).alloc (by simp) _⟩
    have e : ∀ f : Nat → Bool, AR ((w.alloc (.cells #[.int .u64 0, .int .u64 0] 24)).alloc (.cells Z64 69)) (w.heap.size + 1) (fun _ => false) (fun _ => false) := fun _ => AR.zero Z64_get (by simp)
    have g := e (fun _ => false)
    exact ⟨g.1, fun i hi' => by
      have hx := g.2 i hi'
      have d : decide (64 ≤ i) = false := decide_eq_false (by omega)
      unfold suf
      rw [d]
      exact hx⟩
  have HX := hid X0
  clear X0 hh
  unfold Z64 at HX
  go_enter Try.func31, Try.ntmps31
  go_wp2_with fail
  go_loopw [7, 8] (fun u i wr => ∃ k : Nat, k ≤ 64 ∧ i = .int .i64 ((k : Int) - 1) ∧ u = .bool (unl lo hi k) ∧ Hid (RgI w (rgZ lo hi) (rgO lo hi) k wr)) (fun _ i _ => (intOf i + 1).toNat)
  case atStart => exact ⟨64, by omega, rfl, by rw [unl_top], HX⟩
  case round =>
    clear HX
    obtain ⟨kk, hk, rfl, rfl, HI⟩ := hrel
    obtain ⟨wo, rfl⟩ : ∃ wo : World, wo = wr := ⟨_, rfl⟩
    by_cases hlt : 0 < kk
    · obtain ⟨k, rfl⟩ : ∃ k, kk = k + 1 := ⟨kk - 1, by omega⟩
      have hk64 : k < 64 := by omega
      have ek : ((k + 1 : Nat) : Int) - 1 = (k : Int) := by omega
      rw [ek]
      have hk0 : (0 : Int) ≤ (k : Int) := by omega
      have hk1 : (k : Int) < 64 := by omega
      have v1 := bitv lo k
      have v2 := bitv hi k
      have us := unl_step lo hi k hk64
      have y1 := (HI.out.arr.2 k hk64).1
      have y2 := (HI.out.arr.2 k hk64).2
      clear ek hk
      cases hu : unl lo hi (k + 1) <;> cases hl : bt lo k <;> cases hx : bt hi k
      · have us' : unl lo hi k = false := by rw [us, hu, hl, hx]; rfl
        have R := hid (rg1 HI.out hk64 true false (by unfold rgZ; rw [us', hl]; rfl) (by unfold rgO; rw [us', hl]; rfl))
        rw [hl] at v1
        rw [hx] at v2
        simp only [if_true, if_false, Bool.false_eq_true] at v1 v2
        clear us HI hu hl hx
        have US := hid us'
        clear us'
        go_wp2
        go_roundw
        case rel => exact ⟨k, by omega, by go_num, by rw [US.out], R⟩
        case measure => simp [intOf]
      · have us' : unl lo hi k = true := by rw [us, hu, hl, hx]; rfl
        have R := hid (rg2 HI.out hk64 true false true true (by unfold rgZ; rw [us', hl]; rfl) (by unfold rgO; rw [us', hl]; rfl))
        rw [hl] at v1
        rw [hx] at v2
        simp only [if_true, if_false, Bool.false_eq_true] at v1 v2
        clear us HI hu hl hx
        have US := hid us'
        clear us'
        go_wp2
        go_roundw
        case rel => exact ⟨k, by omega, by go_num, by rw [US.out], R⟩
        case measure => simp [intOf]
      · have us' : unl lo hi k = true := by rw [us, hu, hl, hx]; rfl
        have R := hid (rg3 HI.out hk64 true false false true true true (by unfold rgZ; rw [us', hl]; rfl) (by unfold rgO; rw [us', hl]; rfl))
        rw [hl] at v1
        rw [hx] at v2
        simp only [if_true, if_false, Bool.false_eq_true] at v1 v2
        clear us HI hu hl hx
        have US := hid us'
        clear us'
        go_wp2
        go_roundw
        case rel => exact ⟨k, by omega, by go_num, by rw [US.out], R⟩
        case measure => simp [intOf]
      · have us' : unl lo hi k = false := by rw [us, hu, hl, hx]; rfl
        have R := hid (rg2 HI.out hk64 true false false true (by unfold rgZ; rw [us', hl]; rfl) (by unfold rgO; rw [us', hl]; rfl))
        rw [hl] at v1
        rw [hx] at v2
        simp only [if_true, if_false, Bool.false_eq_true] at v1 v2
        clear us HI hu hl hx
        have US := hid us'
        clear us'
        go_wp2
        go_roundw
        case rel => exact ⟨k, by omega, by go_num, by rw [US.out], R⟩
        case measure => simp [intOf]
      · have us' : unl lo hi k = true := by rw [us, hu, hl, hx]; rfl
        have R := hid (rg2 HI.out hk64 true false true true (by unfold rgZ; rw [us', hl]; rfl) (by unfold rgO; rw [us', hl]; rfl))
        rw [hl] at v1
        rw [hx] at v2
        simp only [if_true, if_false, Bool.false_eq_true] at v1 v2
        clear us HI hu hl hx
        have US := hid us'
        clear us'
        go_wp2
        go_roundw
        case rel => exact ⟨k, by omega, by go_num, by rw [US.out], R⟩
        case measure => simp [intOf]
      · have us' : unl lo hi k = true := by rw [us, hu, hl, hx]; rfl
        have R := hid (rg2 HI.out hk64 true false true true (by unfold rgZ; rw [us', hl]; rfl) (by unfold rgO; rw [us', hl]; rfl))
        rw [hl] at v1
        rw [hx] at v2
        simp only [if_true, if_false, Bool.false_eq_true] at v1 v2
        clear us HI hu hl hx
        have US := hid us'
        clear us'
        go_wp2
        go_roundw
        case rel => exact ⟨k, by omega, by go_num, by rw [US.out], R⟩
        case measure => simp [intOf]
      · have us' : unl lo hi k = true := by rw [us, hu, hl, hx]; rfl
        have R := hid (rg3 HI.out hk64 true false false true true true (by unfold rgZ; rw [us', hl]; rfl) (by unfold rgO; rw [us', hl]; rfl))
        rw [hl] at v1
        rw [hx] at v2
        simp only [if_true, if_false, Bool.false_eq_true] at v1 v2
        clear us HI hu hl hx
        have US := hid us'
        clear us'
        go_wp2
        go_roundw
        case rel => exact ⟨k, by omega, by go_num, by rw [US.out], R⟩
        case measure => simp [intOf]
      · have us' : unl lo hi k = true := by rw [us, hu, hl, hx]; rfl
        have R := hid (rg3 HI.out hk64 true false false true true true (by unfold rgZ; rw [us', hl]; rfl) (by unfold rgO; rw [us', hl]; rfl))
        rw [hl] at v1
        rw [hx] at v2
        simp only [if_true, if_false, Bool.false_eq_true] at v1 v2
        clear us HI hu hl hx
        have US := hid us'
        clear us'
        go_wp2
        go_roundw
        case rel => exact ⟨k, by omega, by go_num, by rw [US.out], R⟩
        case measure => simp [intOf]
    · have hk0 : kk = 0 := by omega
      subst hk0
      have d1 := HI.out.res.1.2.1
      have d2 := HI.out.res.1.2.2
      have d3 := HI.out.res.2.1
      have d4 := HI.out.res.2.2
      have HS := hid (show (World.there wo (w.heap.size + 1) 0 64) ∧ wo.rangeAt (w.heap.size + 1) 0 (mL (suf (rgZ lo hi) 0) (suf (rgO lo hi) 0)) from ⟨fun i hi' => by rw [Nat.zero_add]; exact ⟨by rw [(HI.out.arr.2 i hi').1]; rfl, (HI.out.arr.2 i hi').2⟩, HI.out.arr.range⟩)
      have HMd := hid (fun W => rMade_any (suf (rgZ lo hi) 0) (suf (rgO lo hi) 0) _ rfl W)
      have he : madeT (suf (rgZ lo hi) 0) (suf (rgO lo hi) 0) = R := by rw [HRR.out]; exact madeT_congr _ _ _ _ (fun i hi' => by simp [suf]) (fun i hi' => by simp [suf])
      rw [he] at HMd
      have HII := HI
      clear HI he
      obtain ⟨L, hL⟩ : ∃ L, L = mL (suf (rgZ lo hi) 0) (suf (rgO lo hi) 0) := ⟨_, rfl⟩
      rw [← hL] at HS HMd
      have hLl : L.length = 64 := by rw [hL]; exact mL_len _ _
      have HLL := hid hLl
      clear hL hLl
      unfold tv at HMd
      go_wp2_with ((with_reducible refine at_load 69 ?_); refine wpList_load_mid rfl 69 _ rfl (w.heap.size + 1) 0 rfl L _ HS.out.2 Try.underlying69 rfl (by rw [HLL.out]; exact infoA) ?_)
      refine (HMd.out _).mono ?_
      rintro e w1 ⟨rfl, b1⟩
      have R1 := HII.out.res.below b1
      have e1 := R1.1.2.1
      have e2 := R1.1.2.2
      have e3 := R1.2.1
      have e4 := R1.2.2
      have e5 := R1.1.1
      have HB := hid (HII.out.bel.trans (b1.mono HII.out.bel.size))
      clear R1 b1 d1 d2 d3 d4 HII
      go_wp2
      refine bodyPost_ret (v := .tuple #[.agg #[.int .u64 (ub R.1), .int .u64 (ub R.2)], .int .i64 0]) (by simp [results, Try.results31, go_sem, e1, e2, e5]; try rfl) rfl ⟨rfl, ?_⟩
      exact (HB.out.setCell (by simp) _).setCell (by simp) _
end Go.Proofs.Ytbinbjfpjielkaa
