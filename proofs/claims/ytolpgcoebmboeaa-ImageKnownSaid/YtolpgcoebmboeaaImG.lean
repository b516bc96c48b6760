/-
  Same, the code's and the document's; Copy; the laws' large and same.
-/
import Derived.Test.YtolpgcoebmboeaaImF
namespace Go.Proofs.Ytolpgcoebmboeaa
set_option linter.unusedSimpArgs false
set_option linter.unusedVariables false
open Go.ChangeShapes Go.WideShapes Go.ChangeAt Go.RowKit

theorem set_oth {W : World} {p q : Addr} {v : Value} (h : p ≠ q) : (W.setCell p v).cell? q = W.cell? q := by
  first | exact World.cell?_setCell_other h | exact World.cell?_setCell_other _ h | exact World.cell?_setCell_other _ _ h | exact World.cell?_setCell_other _ _ _ h | exact World.cell?_setCell_other _ _ _ _ h
/-- An image in memory below n₀: its lists. -/
structure ImS (n₀ : Nat) (w : World) (pm : Option Addr) (l : List M4) (pc : Option Addr) (c : List I5) : Prop where
  m : MpSl n₀ w pm l.length l
  c : CdSl n₀ w pc c.length c
theorem ImS.kept {n₀ m : Nat} {w w' : World} {pm pc : Option Addr} {l : List M4} {c : List I5} (h : ImS n₀ w pm l pc c) (hb : Below m w w') (hm : n₀ ≤ m) : ImS n₀ w' pm l pc c := ⟨h.m.kept hb hm, h.c.kept hb hm⟩
theorem ImS.wide {n₀ m : Nat} {w : World} {pm pc : Option Addr} {l : List M4} {c : List I5} (h : ImS n₀ w pm l pc c) (hm : n₀ ≤ m) : ImS m w pm l pc c := ⟨h.m.wide hm, h.c.wide hm⟩
set_option maxHeartbeats 3200000 in
theorem cSame_any (pm pc pm' pc' : Option Addr) (cm cc cm' cc' n₀ : Nat) (l l' : List M4) (c c' : List I5) (w : World) (hn : n₀ ≤ w.heap.size) (h1 : ImS n₀ w pm l pc c) (h2 : ImS n₀ w pm' l' pc' c') :
    Calls Try.prog 18 #[.agg #[.slice pm l.length cm, .slice pc c.length cc], .agg #[.slice pm' l'.length cm', .slice pc' c'.length cc']] w fun e w' => e = .returned (.bool (decide (l = l') && decide (c = c'))) ∧ Below w.heap.size w w' := by
  have hB : Below w.heap.size w ((w.alloc (.cells #[.slice pm l.length cm, .slice pc c.length cc] 25)).alloc (.cells #[.slice pm' l'.length cm', .slice pc' c'.length cc'] 25)) := ((Below.refl w.heap.size w).alloc (Nat.le_refl _) _).alloc (by simp) _
  have k0 : ((w.alloc (.cells #[.slice pm l.length cm, .slice pc c.length cc] 25)).alloc (.cells #[.slice pm' l'.length cm', .slice pc' c'.length cc'] 25)).cell? ⟨w.heap.size, 0, none⟩ = some (.slice pm l.length cm) := by simp
  have k1 : ((w.alloc (.cells #[.slice pm l.length cm, .slice pc c.length cc] 25)).alloc (.cells #[.slice pm' l'.length cm', .slice pc' c'.length cc'] 25)).cell? ⟨w.heap.size, 1, none⟩ = some (.slice pc c.length cc) := by simp
  have k2 : ((w.alloc (.cells #[.slice pm l.length cm, .slice pc c.length cc] 25)).alloc (.cells #[.slice pm' l'.length cm', .slice pc' c'.length cc'] 25)).cell? ⟨w.heap.size + 1, 0, none⟩ = some (.slice pm' l'.length cm') := by simp
  have k3 : ((w.alloc (.cells #[.slice pm l.length cm, .slice pc c.length cc] 25)).alloc (.cells #[.slice pm' l'.length cm', .slice pc' c'.length cc'] 25)).cell? ⟨w.heap.size + 1, 1, none⟩ = some (.slice pc' c'.length cc') := by simp
  have g1 := h1.kept hB hn
  have g2 := h2.kept hB hn
  have hq : n₀ ≤ ((w.alloc (.cells #[.slice pm l.length cm, .slice pc c.length cc] 25)).alloc (.cells #[.slice pm' l'.length cm', .slice pc' c'.length cc'] 25)).heap.size := by simp; omega
  have HM := hid (eqMaps pm pm' cm cm' n₀ l l' ((w.alloc (.cells #[.slice pm l.length cm, .slice pc c.length cc] 25)).alloc (.cells #[.slice pm' l'.length cm', .slice pc' c'.length cc'] 25)) hq g1.m g2.m)
  have HC := hid (fun (W : World) (hb : Below ((w.alloc (.cells #[.slice pm l.length cm, .slice pc c.length cc] 25)).alloc (.cells #[.slice pm' l'.length cm', .slice pc' c'.length cc'] 25)).heap.size ((w.alloc (.cells #[.slice pm l.length cm, .slice pc c.length cc] 25)).alloc (.cells #[.slice pm' l'.length cm', .slice pc' c'.length cc'] 25)) W) => eqCode pc pc' cc cc' n₀ c c' W (Nat.le_trans hq hb.size) (g1.c.kept hb hq) (g2.c.kept hb hq))
  have HB := hid hB
  clear h1 h2 g1 g2 hB
  generalize decide (l = l') = r at *
  generalize decide (c = c') = s at *
  go_enter Try.func18, Try.ntmps18
  go_wp2_with fail
  refine HM.out.mono ?_
  rintro e w1 ⟨rfl, b1⟩
  have hB1 := hid (HB.out.trans (b1.mono HB.out.size))
  have c1 := cn b1 k1
  have c3 := cn b1 k3
  have HC1 := hid (HC.out w1 b1)
  clear b1 HM HC k0 k1 k2 k3
  cases r
  · go_wp2
    go_ret
    exact ⟨rfl, hB1.out⟩
  · go_wp2_with fail
    refine HC1.out.mono ?_
    rintro e w2 ⟨rfl, b2⟩
    go_wp2
    go_ret
    exact ⟨rfl, hB1.out.trans (b2.mono hB1.out.size)⟩
set_option maxHeartbeats 6400000 in
theorem rSame_any (pm pc pm' pc' : Option Addr) (cm cc cm' cc' n₀ : Nat) (l l' : List M4) (c c' : List I5) (w : World) (hn : n₀ ≤ w.heap.size) (h1 : ImS n₀ w pm l pc c) (h2 : ImS n₀ w pm' l' pc' c') :
    Calls Try.prog 15 #[.agg #[.slice pm l.length cm, .slice pc c.length cc], .agg #[.slice pm' l'.length cm', .slice pc' c'.length cc']] w fun e w' => e = .returned (.bool (decide (l = l') && decide (c = c'))) ∧ Below w.heap.size w w' := by
  have hb0 : Below w.heap.size w ((w.alloc (.cells #[.slice pm l.length cm, .slice pc c.length cc] 25)).alloc (.cells #[.slice pm' l'.length cm', .slice pc' c'.length cc'] 25)) := ((Below.refl w.heap.size w).alloc (Nat.le_refl _) _).alloc (by simp) _
  have g1 := h1.kept hb0 hn
  have g2 := h2.kept hb0 hn
  have hB := hid hb0
  have k0 : ((w.alloc (.cells #[.slice pm l.length cm, .slice pc c.length cc] 25)).alloc (.cells #[.slice pm' l'.length cm', .slice pc' c'.length cc'] 25)).cell? ⟨w.heap.size, 0, none⟩ = some (.slice pm l.length cm) := by simp
  have k1 : ((w.alloc (.cells #[.slice pm l.length cm, .slice pc c.length cc] 25)).alloc (.cells #[.slice pm' l'.length cm', .slice pc' c'.length cc'] 25)).cell? ⟨w.heap.size, 1, none⟩ = some (.slice pc c.length cc) := by simp
  have k2 : ((w.alloc (.cells #[.slice pm l.length cm, .slice pc c.length cc] 25)).alloc (.cells #[.slice pm' l'.length cm', .slice pc' c'.length cc'] 25)).cell? ⟨w.heap.size + 1, 0, none⟩ = some (.slice pm' l'.length cm') := by simp
  have k3 : ((w.alloc (.cells #[.slice pm l.length cm, .slice pc c.length cc] 25)).alloc (.cells #[.slice pm' l'.length cm', .slice pc' c'.length cc'] 25)).cell? ⟨w.heap.size + 1, 1, none⟩ = some (.slice pc' c'.length cc') := by simp
  have hln : l.length < 4611686018427387904 := by have := h1.m.2.1; omega
  have hlc : c.length < 4611686018427387904 := by have := h1.c.2.2.1; omega
  clear h1 h2
  by_cases hm : l.length = l'.length
  rotate_left
  · have d0 : ((l.length : Int) != (l'.length : Int)) = true := by simp; omega
    have d1 : (l.length != l'.length) = true := by simpa using hm
    have hr : (decide (l = l') && decide (c = c')) = false := by rw [decide_eq_false (fun (e : l = l') => hm (by rw [e]))]; rfl
    rw [hr]
    clear hm g1 g2 hr hb0
    go_enter Try.func15, Try.ntmps15
    go_wp2
    go_ret
    exact ⟨rfl, hB.out⟩
  by_cases hc : c.length = c'.length
  rotate_left
  · have d0 : ((l.length : Int) != (l'.length : Int)) = false := by simp; omega
    have d1 : (l.length != l'.length) = false := by simpa using hm
    have d2 : ((c.length : Int) != (c'.length : Int)) = true := by simp; omega
    have d3 : (c.length != c'.length) = true := by simpa using hc
    have hr : (decide (l = l') && decide (c = c')) = false := by rw [decide_eq_false (fun (e : c = c') => hc (by rw [e])), Bool.and_false]
    rw [hr]
    clear hm hc g1 g2 hr hb0
    go_enter Try.func15, Try.ntmps15
    go_wp2
    go_ret
    exact ⟨rfl, hB.out⟩
  have hc1 : ∀ k, k < l.length → ∃ b off, pm = some ⟨b, off, none⟩ ∧ b < w.heap.size + 2 ∧ MapAt ((w.alloc (.cells #[.slice pm l.length cm, .slice pc c.length cc] 25)).alloc (.cells #[.slice pm' l'.length cm', .slice pc' c'.length cc'] 25)) b (off + k * 4) (mpA l k) := by
    intro k hk
    obtain ⟨b, off, e, hb, hc⟩ := g1.m.2.2.resolve_left (by omega)
    exact ⟨b, off, e, by omega, hc k hk⟩
  have hc2 : ∀ k, k < l.length → ∃ b off, pm' = some ⟨b, off, none⟩ ∧ b < w.heap.size + 2 ∧ MapAt ((w.alloc (.cells #[.slice pm l.length cm, .slice pc c.length cc] 25)).alloc (.cells #[.slice pm' l'.length cm', .slice pc' c'.length cc'] 25)) b (off + k * 4) (mpA l' k) := by
    intro k hk
    obtain ⟨b, off, e, hb, hc⟩ := g2.m.2.2.resolve_left (by omega)
    exact ⟨b, off, e, by omega, hc k (by omega)⟩
  have hd1 : ∀ k, k < c.length → ∃ b off, pc = some ⟨b, off, none⟩ ∧ b < w.heap.size + 2 ∧ InsAt ((w.alloc (.cells #[.slice pm l.length cm, .slice pc c.length cc] 25)).alloc (.cells #[.slice pm' l'.length cm', .slice pc' c'.length cc'] 25)) b (off + k * 5) (at5 c k) := by
    intro k hk
    obtain ⟨b, off, e, hb, hc⟩ := g1.c.2.2.2.resolve_left (by omega)
    exact ⟨b, off, e, by omega, hc k hk⟩
  have hd2 : ∀ k, k < c.length → ∃ b off, pc' = some ⟨b, off, none⟩ ∧ b < w.heap.size + 2 ∧ InsAt ((w.alloc (.cells #[.slice pm l.length cm, .slice pc c.length cc] 25)).alloc (.cells #[.slice pm' l'.length cm', .slice pc' c'.length cc'] 25)) b (off + k * 5) (at5 c' k) := by
    intro k hk
    obtain ⟨b, off, e, hb, hc⟩ := g2.c.2.2.2.resolve_left (by omega)
    exact ⟨b, off, e, by omega, hc k (by omega)⟩
  have H1 := hid hc1
  have H2 := hid hc2
  have D1 := hid hd1
  have D2 := hid hd2
  have HXM := hid (fun (h : ∀ j, j < l.length → mpA l j = mpA l' j) => decide_eq_true (ext_mp hm h))
  have HXC := hid (fun (h : ∀ j, j < c.length → at5 c j = at5 c' j) => decide_eq_true (ext_cd hc h))
  have HNM := hid (fun (k : Nat) (h : mpA l k ≠ mpA l' k) => (show (decide (l = l') && decide (c = c')) = false by rw [decide_eq_false (fun (e : l = l') => h (by rw [e]))]; rfl))
  have HNC := hid (fun (k : Nat) (h : at5 c k ≠ at5 c' k) => (show (decide (l = l') && decide (c = c')) = false by rw [decide_eq_false (fun (e : c = c') => h (by rw [e])), Bool.and_false]))
  generalize decide (l = l') = r at *
  generalize decide (c = c') = s at *
  rw [← hm, ← hc]
  rw [← hm, ← hc] at k0 k1 k2 k3 hB H1 H2 D1 D2
  clear hc1 hc2 hd1 hd2 g1 g2 hb0 hm hc
  have d0 : ((l.length : Int) != (l.length : Int)) = false := by simp
  have d1 : (l.length != l.length) = false := by simp
  have d2 : ((c.length : Int) != (c.length : Int)) = false := by simp
  have d3 : (c.length != c.length) = false := by simp
  go_enter Try.func15, Try.ntmps15
  go_wp2
  generalize (w.alloc (.cells #[.slice pm l.length cm, .slice pc c.length cc] 25)).alloc (.cells #[.slice pm' l.length cm', .slice pc' c.length cc'] 25) = W0 at *
  go_loopw [5] (fun i wr => ∃ k : Nat, k ≤ l.length ∧ i = .int .i64 k ∧ Hid (Below (w.heap.size + 2) W0 wr) ∧ Hid (∀ j, j < k → mpA l j = mpA l' j)) (fun i _ => l.length - (intOf i).toNat)
  case atStart => exact ⟨0, Nat.zero_le _, rfl, hid (Below.refl _ _), hid (fun j hj => absurd hj (Nat.not_lt_zero _))⟩
  case round =>
    obtain ⟨k, hk, rfl, HB, HE⟩ := hrel
    have c0 := (HB.out.cell (p := ⟨w.heap.size, 0, none⟩) (by simp)).trans k0
    have c1 := (HB.out.cell (p := ⟨w.heap.size, 1, none⟩) (by simp)).trans k1
    have c2 := (HB.out.cell (p := ⟨w.heap.size + 1, 0, none⟩) (by simp)).trans k2
    have c3 := (HB.out.cell (p := ⟨w.heap.size + 1, 1, none⟩) (by simp)).trans k3
    by_cases hlt : k < l.length
    · have hli : (k : Int) < (l.length : Int) := by omega
      have hl0 : 0 ≤ (k : Int) := by omega
      obtain ⟨b1, off1, rfl, hb1, rm0, rm1, rm2, rm3⟩ := H1.out k hlt
      obtain ⟨b2, off2, rfl, hb2, sm0, sm1, sm2, sm3⟩ := H2.out k hlt
      · skip
        have r0 := (HB.out.cell (p := ⟨b1, off1 + k * 4, none⟩) hb1).trans rm0
        have r1 := (HB.out.cell (p := ⟨b1, off1 + k * 4 + 1, none⟩) hb1).trans rm1
        have r2 := (HB.out.cell (p := ⟨b1, off1 + k * 4 + 2, none⟩) hb1).trans rm2
        have r3 := (HB.out.cell (p := ⟨b1, off1 + k * 4 + 3, none⟩) hb1).trans rm3
        have s0 := (HB.out.cell (p := ⟨b2, off2 + k * 4, none⟩) hb2).trans sm0
        have s1 := (HB.out.cell (p := ⟨b2, off2 + k * 4 + 1, none⟩) hb2).trans sm1
        have s2 := (HB.out.cell (p := ⟨b2, off2 + k * 4 + 2, none⟩) hb2).trans sm2
        have s3 := (HB.out.cell (p := ⟨b2, off2 + k * 4 + 3, none⟩) hb2).trans sm3
        clear rm0 rm1 rm2 rm3 sm0 sm1 sm2 sm3
        have EQ := hid (fun W => neq_map (mpA l k) (mpA l' k) W)
        have HN1 := hid (HNM.out k)
        have HI := hid (mEq_iff (mpA l k) (mpA l' k))
        have HE2 := hid (fun (h : mpA l k = mpA l' k) (j : Nat) (hj : j < k + 1) => (if e : j = k then by rw [e]; exact h else HE.out j (by omega) : mpA l j = mpA l' j))
        generalize mpA l k = x at *
        generalize mpA l' k = y at *
        cases hxy : mEq x y
        · have hr : (r && s) = false := HN1.out (fun e => by rw [(HI.out).2 e] at hxy; exact absurd hxy (by decide))
          have EQ' : ∀ W, (binOp .neq 48 x.V y.V).run Try.prog W = .ok (.bool true) W := fun W => by rw [EQ.out W, hxy]; rfl
          have HR := hid hr
          clear EQ HN1 HI HE2 HE hxy hr
          unfold M4.V at EQ'
          obtain ⟨x0, x1, x2, x3⟩ := x
          obtain ⟨y0, y1, y2, y3⟩ := y
          dsimp only at EQ' r0 r1 r2 r3 s0 s1 s2 s3
          go_wp2
          go_quiet (fail)
          go_wp2
          go_ret
          exact ⟨ret_val (by rw [HR.out]; rfl), hB.out.trans ((below_dn HB.out _).mono (by omega))⟩
        · have hE := hid (HE2.out (HI.out.1 hxy))
          have EQ' : ∀ W, (binOp .neq 48 x.V y.V).run Try.prog W = .ok (.bool false) W := fun W => by rw [EQ.out W, hxy]; rfl
          clear EQ HN1 HI HE2 HE hxy
          unfold M4.V at EQ'
          obtain ⟨x0, x1, x2, x3⟩ := x
          obtain ⟨y0, y1, y2, y3⟩ := y
          dsimp only at EQ' r0 r1 r2 r3 s0 s1 s2 s3
          go_wp2
          go_quiet (fail)
          go_wp2
          exact ⟨⟨k + 1, by omega, by go_num, hid (below_dn HB.out _), hE⟩, by simp [intOf]; omega⟩
    · obtain rfl : k = l.length := by omega
      clear hlt
      have HRT := hid (HXM.out HE.out)
      clear HE
      go_wp2
      clear c0 c1 c2 c3
      go_loopw [6] (fun i wr => ∃ k : Nat, k ≤ c.length ∧ i = .int .i64 k ∧ Hid (Below (w.heap.size + 2) W0 wr) ∧ Hid (∀ j, j < k → at5 c j = at5 c' j)) (fun i _ => c.length - (intOf i).toNat)
      case atStart => exact ⟨0, Nat.zero_le _, rfl, HB, hid (fun j hj => absurd hj (Nat.not_lt_zero _))⟩
      case round =>
        obtain ⟨k, hk, rfl, HB, HE⟩ := hrel
        have c0 := (HB.out.cell (p := ⟨w.heap.size, 0, none⟩) (by simp)).trans k0
        have c1 := (HB.out.cell (p := ⟨w.heap.size, 1, none⟩) (by simp)).trans k1
        have c2 := (HB.out.cell (p := ⟨w.heap.size + 1, 0, none⟩) (by simp)).trans k2
        have c3 := (HB.out.cell (p := ⟨w.heap.size + 1, 1, none⟩) (by simp)).trans k3
        by_cases hlt : k < c.length
        · have hli : (k : Int) < (c.length : Int) := by omega
          have hl0 : 0 ≤ (k : Int) := by omega
          obtain ⟨b1, off1, rfl, hb1, rm0, rm1, rm2, rm3, rm4⟩ := D1.out k hlt
          obtain ⟨b2, off2, rfl, hb2, sm0, sm1, sm2, sm3, sm4⟩ := D2.out k hlt
          · skip
            have r0 := (HB.out.cell (p := ⟨b1, off1 + k * 5, none⟩) hb1).trans rm0
            have r1 := (HB.out.cell (p := ⟨b1, off1 + k * 5 + 1, none⟩) hb1).trans rm1
            have r2 := (HB.out.cell (p := ⟨b1, off1 + k * 5 + 2, none⟩) hb1).trans rm2
            have r3 := (HB.out.cell (p := ⟨b1, off1 + k * 5 + 3, none⟩) hb1).trans rm3
            have r4 := (HB.out.cell (p := ⟨b1, off1 + k * 5 + 4, none⟩) hb1).trans rm4
            have s0 := (HB.out.cell (p := ⟨b2, off2 + k * 5, none⟩) hb2).trans sm0
            have s1 := (HB.out.cell (p := ⟨b2, off2 + k * 5 + 1, none⟩) hb2).trans sm1
            have s2 := (HB.out.cell (p := ⟨b2, off2 + k * 5 + 2, none⟩) hb2).trans sm2
            have s3 := (HB.out.cell (p := ⟨b2, off2 + k * 5 + 3, none⟩) hb2).trans sm3
            have s4 := (HB.out.cell (p := ⟨b2, off2 + k * 5 + 4, none⟩) hb2).trans sm4
            clear rm0 rm1 rm2 rm3 rm4 sm0 sm1 sm2 sm3 sm4
            have EQ := hid (fun W => neq_insn (at5 c k) (at5 c' k) W)
            have HN1 := hid (HNC.out k)
            have HI := hid (iEq_iff (at5 c k) (at5 c' k))
            have HE2 := hid (fun (h : at5 c k = at5 c' k) (j : Nat) (hj : j < k + 1) => (if e : j = k then by rw [e]; exact h else HE.out j (by omega) : at5 c j = at5 c' j))
            generalize at5 c k = x at *
            generalize at5 c' k = y at *
            cases hxy : iEq x y
            · have hr : (r && s) = false := HN1.out (fun e => by rw [(HI.out).2 e] at hxy; exact absurd hxy (by decide))
              have EQ' : ∀ W, (binOp .neq 51 x.V y.V).run Try.prog W = .ok (.bool true) W := fun W => by rw [EQ.out W, hxy]; rfl
              have HR := hid hr
              clear EQ HN1 HI HE2 HE hxy hr
              unfold I5.V at EQ'
              obtain ⟨x0, x1, x2, x3, x4⟩ := x
              obtain ⟨y0, y1, y2, y3, y4⟩ := y
              dsimp only at EQ' r0 r1 r2 r3 r4 s0 s1 s2 s3 s4
              go_wp2
              go_quiet (fail)
              go_wp2
              go_ret
              exact ⟨ret_val (by rw [HR.out]; rfl), hB.out.trans ((below_dn HB.out _).mono (by omega))⟩
            · have hE := hid (HE2.out (HI.out.1 hxy))
              have EQ' : ∀ W, (binOp .neq 51 x.V y.V).run Try.prog W = .ok (.bool false) W := fun W => by rw [EQ.out W, hxy]; rfl
              clear EQ HN1 HI HE2 HE hxy
              unfold I5.V at EQ'
              obtain ⟨x0, x1, x2, x3, x4⟩ := x
              obtain ⟨y0, y1, y2, y3, y4⟩ := y
              dsimp only at EQ' r0 r1 r2 r3 r4 s0 s1 s2 s3 s4
              go_wp2
              go_quiet (fail)
              go_wp2
              exact ⟨⟨k + 1, by omega, by go_num, hid (below_dn HB.out _), hE⟩, by simp [intOf]; omega⟩
        · obtain rfl : k = c.length := by omega
          clear hlt
          have hs : s = true := HXC.out HE.out
          go_wp2
          go_ret
          exact ⟨ret_val (by rw [HRT.out, hs]; rfl), hB.out.trans (HB.out.mono (by omega))⟩
end Go.Proofs.Ytolpgcoebmboeaa
