/-
  Copy; the laws' large and same.
-/
import Derived.Test.YtolpgcoebmboeaaImG
namespace Go.Proofs.Ytolpgcoebmboeaa
set_option linter.unusedSimpArgs false
set_option linter.unusedVariables false
open Go.ChangeShapes Go.WideShapes Go.ChangeAt Go.RowKit

/-- Here the walk stands still. -/
@[irreducible] def Stop (p : Prop) : Prop := p
theorem stop_app {P : Program} {ops : Array Oper} {Q : Exit → Act → World → Prop} {d : Option Nat} {s x : Operand} {t u ty : TypeId} {ps : String} {af : Array _} {gd : _} {rest : List Oper} {a : Act} {w : World}
    (h : Stop (wpList P ops Q (⟨d, .call { callee := .builtin .append, args := #[s, x], argTypes := #[t, u] }, ty, ps, af, gd⟩ :: rest) a w)) : wpList P ops Q (⟨d, .call { callee := .builtin .append, args := #[s, x], argTypes := #[t, u] }, ty, ps, af, gd⟩ :: rest) a w := by unfold Stop at h; exact h
set_option maxHeartbeats 3200000 in
theorem same_any (p q : Option Addr) (c d n₀ : Nat) (xs ys : List Int) (w : World) (hn : n₀ ≤ w.heap.size) (hl : xs.length < 4611686018427387904) (h1 : ByL n₀ w p xs.length xs) (h2 : ByL n₀ w q ys.length ys) :
    Calls Try.prog 14 #[.slice p xs.length c, .slice q ys.length d] w fun e w' => e = .returned (.bool (decide (xs = ys))) ∧ Below w.heap.size w w' := by
  by_cases hne : xs.length = ys.length
  rotate_left
  · have d0 : ((xs.length : Int) != (ys.length : Int)) = true := by simp; omega
    have d1 : (xs.length != ys.length) = true := by simpa using hne
    have hr : decide (xs = ys) = false := decide_eq_false (fun e => hne (by rw [e]))
    rw [hr]
    clear hne h1 h2 hr
    go_enter Try.func14, Try.ntmps14
    go_wp2
    go_ret
    exact ⟨rfl, Below.refl _ _⟩
  have hc1 : ∀ k, k < xs.length → ∃ b off, p = some ⟨b, off, none⟩ ∧ b < w.heap.size ∧ w.cell? ⟨b, off + k, none⟩ = some (.int .u8 (xs.getD k 0)) := by
    intro k hk
    obtain ⟨b, off, e, hb, hc⟩ := h1.2.2.resolve_left (by omega)
    exact ⟨b, off, e, by omega, hc k hk⟩
  have hc2 : ∀ k, k < xs.length → ∃ b off, q = some ⟨b, off, none⟩ ∧ b < w.heap.size ∧ w.cell? ⟨b, off + k, none⟩ = some (.int .u8 (ys.getD k 0)) := by
    intro k hk
    obtain ⟨b, off, e, hb, hc⟩ := h2.2.2.resolve_left (by omega)
    exact ⟨b, off, e, by omega, hc k (by omega)⟩
  have H1 := hid hc1
  have H2 := hid hc2
  have HEX := hid (fun (h : ∀ j, j < xs.length → xs.getD j 0 = ys.getD j 0) => decide_eq_true (ext_by hne h))
  have HNE := hid (fun (k : Nat) (h : xs.getD k 0 ≠ ys.getD k 0) => (decide_eq_false (fun (e : xs = ys) => h (by rw [e]))))
  generalize decide (xs = ys) = r at *
  rw [← hne]
  clear hc1 hc2 h1 h2 hne
  have d0 : ((xs.length : Int) != (xs.length : Int)) = false := by simp
  have d1 : (xs.length != xs.length) = false := by simp
  go_enter Try.func14, Try.ntmps14
  go_wp2
  go_loopw [5] (fun i wr => ∃ k : Nat, k ≤ xs.length ∧ i = .int .i64 k ∧ Hid (Below w.heap.size w wr) ∧ Hid (∀ j, j < k → xs.getD j 0 = ys.getD j 0)) (fun i _ => xs.length - (intOf i).toNat)
  case atStart => exact ⟨0, Nat.zero_le _, rfl, hid (Below.refl _ _), hid (fun j hj => absurd hj (Nat.not_lt_zero _))⟩
  case round =>
    obtain ⟨k, hk, rfl, HB, HE⟩ := hrel
    by_cases hlt : k < xs.length
    · have hli : (k : Int) < (xs.length : Int) := by omega
      have hl0 : 0 ≤ (k : Int) := by omega
      obtain ⟨b1, off1, rfl, hb1, m1⟩ := H1.out k hlt
      obtain ⟨b2, off2, rfl, hb2, m2⟩ := H2.out k hlt
      have r1 := (HB.out.cell (p := ⟨b1, off1 + k, none⟩) hb1).trans m1
      have r2 := (HB.out.cell (p := ⟨b2, off2 + k, none⟩) hb2).trans m2
      clear m1 m2
      have HN1 := hid (HNE.out k)
      have HE2 := hid (fun (h : xs.getD k 0 = ys.getD k 0) (j : Nat) (hj : j < k + 1) => (if e : j = k then by rw [e]; exact h else HE.out j (by omega) : xs.getD j 0 = ys.getD j 0))
      generalize xs.getD k 0 = x at *
      generalize ys.getD k 0 = y at *
      by_cases hxy : x = y
      · have hE := hid (HE2.out hxy)
        subst hxy
        clear HN1 HE2 HEX HNE HE
        go_wp2
        go_quiet (fail)
        go_wp2
        exact ⟨⟨k + 1, by omega, by go_num, hid (below_dn HB.out _), hE⟩, by simp [intOf]; omega⟩
      · have hr : r = false := HN1.out hxy
        have d3 : (x != y) = true := by simpa using hxy
        subst hr
        clear HN1 HE2 HEX HNE HE hxy
        go_wp2
        go_quiet (fail)
        go_wp2
        go_ret
        exact ⟨rfl, below_dn HB.out _⟩
    · obtain rfl : k = xs.length := by omega
      have hr : r = true := HEX.out HE.out
      subst hr
      clear hlt HEX HNE HE
      go_wp2
      go_ret
      exact ⟨rfl, HB.out⟩

theorem large_any (pm pc : Option Addr) (cm cc n m : Nat) (w : World) :
    Calls Try.prog 9 #[.agg #[.slice pm n cm, .slice pc m cc]] w fun e w' => e = .returned (.bool (decide (100 < n) || decide (2000 < m))) ∧ Below w.heap.size w w' := by
  by_cases h1 : 100 < n
  · have d1 : decide (100 < n) = true := decide_eq_true h1
    have d2 : decide (100 < (n : Int)) = true := decide_eq_true (by omega)
    rw [d1]
    clear h1
    go_enter Try.func9, Try.ntmps9
    go_wp2
    go_ret
    exact ⟨rfl, (Below.refl _ _).alloc (Nat.le_refl _) _⟩
  · have d1 : decide (100 < n) = false := decide_eq_false h1
    have d2 : decide (100 < (n : Int)) = false := decide_eq_false (by omega)
    rw [d1, Bool.false_or]
    clear h1
    by_cases h1 : 2000 < m
    · have d3 : decide (2000 < m) = true := decide_eq_true h1
      have d4 : decide (2000 < (m : Int)) = true := decide_eq_true (by omega)
      rw [d3]
      clear h1
      go_enter Try.func9, Try.ntmps9
      go_wp2
      go_ret
      exact ⟨rfl, (Below.refl _ _).alloc (Nat.le_refl _) _⟩
    · have d3 : decide (2000 < m) = false := decide_eq_false h1
      have d4 : decide (2000 < (m : Int)) = false := decide_eq_false (by omega)
      rw [d3]
      clear h1
      go_enter Try.func9, Try.ntmps9
      go_wp2
      go_ret
      exact ⟨rfl, (Below.refl _ _).alloc (Nat.le_refl _) _⟩

set_option maxHeartbeats 3200000 in
theorem rCopy_any (pm pc : Option Addr) (cm cc n₀ : Nat) (l : List M4) (c : List I5) (w : World) (hn : n₀ ≤ w.heap.size) (h : ImS n₀ w pm l pc c) (hl : l.length ≤ 1000) (hc : c.length ≤ 100000) :
    Calls Try.prog 11 #[.agg #[.slice pm l.length cm, .slice pc c.length cc]] w fun e w' => ∃ pm' cm' pc' cc', e = .returned (.agg #[.slice pm' l.length cm', .slice pc' c.length cc']) ∧ ImS w'.heap.size w' pm' l pc' c ∧ Below w.heap.size w w' := by
  have hW : Below w.heap.size w (((w.alloc (.cells #[.slice pm l.length cm, .slice pc c.length cc] 25)).alloc (.cells #[.slice none 0 0, .slice none 0 0] 25)).alloc (.cells #[.slice none 0 0, .slice none 0 0] 25)) := (((Below.refl w.heap.size w).alloc (Nat.le_refl _) _).alloc (by simp) _).alloc (by simp; omega) _
  have hq : (((w.alloc (.cells #[.slice pm l.length cm, .slice pc c.length cc] 25)).alloc (.cells #[.slice none 0 0, .slice none 0 0] 25)).alloc (.cells #[.slice none 0 0, .slice none 0 0] 25)).heap.size = w.heap.size + 3 := by simp
  have g := h.kept hW hn
  have HG := hid g
  have HW := hid hW
  have k0 : (((w.alloc (.cells #[.slice pm l.length cm, .slice pc c.length cc] 25)).alloc (.cells #[.slice none 0 0, .slice none 0 0] 25)).alloc (.cells #[.slice none 0 0, .slice none 0 0] 25)).cell? ⟨w.heap.size, 0, none⟩ = some (.slice pm l.length cm) := by rw [World.cell?_alloc_past _ _ _ (by simp; omega), World.cell?_alloc_past _ _ _ (by simp)]; simp
  have k1 : (((w.alloc (.cells #[.slice pm l.length cm, .slice pc c.length cc] 25)).alloc (.cells #[.slice none 0 0, .slice none 0 0] 25)).alloc (.cells #[.slice none 0 0, .slice none 0 0] 25)).cell? ⟨w.heap.size, 1, none⟩ = some (.slice pc c.length cc) := by rw [World.cell?_alloc_past _ _ _ (by simp; omega), World.cell?_alloc_past _ _ _ (by simp)]; simp
  have z0 : (((w.alloc (.cells #[.slice pm l.length cm, .slice pc c.length cc] 25)).alloc (.cells #[.slice none 0 0, .slice none 0 0] 25)).alloc (.cells #[.slice none 0 0, .slice none 0 0] 25)).cell? ⟨w.heap.size + 1, 0, none⟩ = some (.slice none 0 0) := by rw [World.cell?_alloc_past _ _ _ (by simp)]; exact World.cell?_alloc_at _ _ _ _ (by simp)
  have z1 : (((w.alloc (.cells #[.slice pm l.length cm, .slice pc c.length cc] 25)).alloc (.cells #[.slice none 0 0, .slice none 0 0] 25)).alloc (.cells #[.slice none 0 0, .slice none 0 0] 25)).cell? ⟨w.heap.size + 1, 1, none⟩ = some (.slice none 0 0) := by rw [World.cell?_alloc_past _ _ _ (by simp)]; exact World.cell?_alloc_at _ _ _ _ (by simp)
  have y0 : (((w.alloc (.cells #[.slice pm l.length cm, .slice pc c.length cc] 25)).alloc (.cells #[.slice none 0 0, .slice none 0 0] 25)).alloc (.cells #[.slice none 0 0, .slice none 0 0] 25)).cell? ⟨w.heap.size + 2, 0, none⟩ = some (.slice none 0 0) := World.cell?_alloc_at _ _ _ _ (by simp)
  have y1 : (((w.alloc (.cells #[.slice pm l.length cm, .slice pc c.length cc] 25)).alloc (.cells #[.slice none 0 0, .slice none 0 0] 25)).alloc (.cells #[.slice none 0 0, .slice none 0 0] 25)).cell? ⟨w.heap.size + 2, 1, none⟩ = some (.slice none 0 0) := World.cell?_alloc_at _ _ _ _ (by simp)
  have f0 : (((w.alloc (.cells #[.slice pm l.length cm, .slice pc c.length cc] 25)).alloc (.cells #[.slice none 0 0, .slice none 0 0] 25)).alloc (.cells #[.slice none 0 0, .slice none 0 0] 25)).frozen? ⟨w.heap.size + 1, 0, none⟩ = false := by rw [World.frozen?_alloc_past _ _ _ (by simp)]; exact World.frozen?_alloc_at _ _ _ _ (by simp)
  have f1 : (((w.alloc (.cells #[.slice pm l.length cm, .slice pc c.length cc] 25)).alloc (.cells #[.slice none 0 0, .slice none 0 0] 25)).alloc (.cells #[.slice none 0 0, .slice none 0 0] 25)).frozen? ⟨w.heap.size + 1, 1, none⟩ = false := by rw [World.frozen?_alloc_past _ _ _ (by simp)]; exact World.frozen?_alloc_at _ _ _ _ (by simp)
  have e0 : (((w.alloc (.cells #[.slice pm l.length cm, .slice pc c.length cc] 25)).alloc (.cells #[.slice none 0 0, .slice none 0 0] 25)).alloc (.cells #[.slice none 0 0, .slice none 0 0] 25)).frozen? ⟨w.heap.size + 2, 0, none⟩ = false := World.frozen?_alloc_at _ _ _ _ (by simp)
  have e1 : (((w.alloc (.cells #[.slice pm l.length cm, .slice pc c.length cc] 25)).alloc (.cells #[.slice none 0 0, .slice none 0 0] 25)).alloc (.cells #[.slice none 0 0, .slice none 0 0] 25)).frozen? ⟨w.heap.size + 2, 1, none⟩ = false := World.frozen?_alloc_at _ _ _ _ (by simp)
  clear h hW g
  go_enter Try.func11, Try.ntmps11
  generalize hW0 : (((w.alloc (.cells #[.slice pm l.length cm, .slice pc c.length cc] 25)).alloc (.cells #[.slice none 0 0, .slice none 0 0] 25)).alloc (.cells #[.slice none 0 0, .slice none 0 0] 25)) = W0 at *
  have hW0' := hid hW0
  clear hW0
  go_wp2_with (at_builtin; first
    | (rw [hW0'.out]; refine app_own 22 48 4 32 _ Try.underlying22 mapInfo rfl (by decide) rfl (.tmp 5) (.tmp 7) rfl (w.heap.size + 3) W0 W0 _ 0 [] (by exact rfl) (World.ownsRow_nil _ _ _ _) (Below.refl _ _) (by omega) n₀ _ l.length cm (l.flatMap cellsM) (by exact rfl) (flat4_len l) (src_maps HG.out.m) (flat4_one l) (by simp only [maxLen]; omega) (by omega) ?_; intro v1 w1 o1 b1 _ _; rw [Nat.zero_add, List.nil_append] at o1
       have O1 := hid o1
       obtain ⟨p1, c1, rfl, hc1, hp1⟩ := own_slice o1
       have B1 := hid b1
       have q1 : w.heap.size + 1 + 1 < w1.heap.size := by have := b1.size; omega
       have a0 := (b1.cell (p := ⟨w.heap.size, 0, none⟩) (by simp)).trans k0
       have a1 := (b1.cell (p := ⟨w.heap.size, 1, none⟩) (by simp)).trans k1
       have x0 := (b1.cell (p := ⟨w.heap.size + 1, 0, none⟩) (by simp)).trans z0
       have x1 := (b1.cell (p := ⟨w.heap.size + 1, 1, none⟩) (by simp)).trans z1
       have u0 := (b1.cell (p := ⟨w.heap.size + 1 + 1, 0, none⟩) (by simp)).trans y0
       have u1 := (b1.cell (p := ⟨w.heap.size + 1 + 1, 1, none⟩) (by simp)).trans y1
       have g0 := (b1.frozen (p := ⟨w.heap.size + 1, 0, none⟩) (by simp)).trans f0
       have g1 := (b1.frozen (p := ⟨w.heap.size + 1, 1, none⟩) (by simp)).trans f1
       have h0 := (b1.frozen (p := ⟨w.heap.size + 1 + 1, 0, none⟩) (by simp)).trans e0
       have h1 := (b1.frozen (p := ⟨w.heap.size + 1 + 1, 1, none⟩) (by simp)).trans e1
       clear hp1 hc1 b1 o1 k0 k1 z0 z1 y0 y1 f0 f1 e0 e1)
    | (refine stop_app ?_))
  unfold Stop
  have W1E : Below w.heap.size w (w1.setCell ⟨w.heap.size + 1 + 1, 0, none⟩ (.slice p1 l.length c1)) := (HW.out.trans (B1.out.mono (by omega))).setCell (p := ⟨w.heap.size + 1 + 1, 0, none⟩) (by simp; omega) _
  have hsc := src_code (HG.out.c.kept (((B1.out.mono (show w.heap.size ≤ w.heap.size + 3 by omega)).setCell (p := ⟨w.heap.size + 1 + 1, 0, none⟩) (by simp; omega) (.slice p1 l.length c1))) hn)
  have O1' := ownsRow_setCell_below O1.out (a := ⟨w.heap.size + 1 + 1, 0, none⟩) (by simp) (.slice p1 l.length c1)
  have q1' : w.heap.size + 1 + 1 < (w1.setCell ⟨w.heap.size + 1 + 1, 0, none⟩ (.slice p1 l.length c1)).heap.size := by simp; omega
  have a2 : (w1.setCell ⟨w.heap.size + 1 + 1, 0, none⟩ (.slice p1 l.length c1)).cell? ⟨w.heap.size, 0, none⟩ = _ := (set_oth (by simp)).trans a0
  have x2 : (w1.setCell ⟨w.heap.size + 1 + 1, 0, none⟩ (.slice p1 l.length c1)).cell? ⟨w.heap.size + 1, 0, none⟩ = _ := (set_oth (by simp)).trans x0
  have x3 : (w1.setCell ⟨w.heap.size + 1 + 1, 0, none⟩ (.slice p1 l.length c1)).cell? ⟨w.heap.size + 1, 1, none⟩ = _ := (set_oth (by simp)).trans x1
  have u2 : (w1.setCell ⟨w.heap.size + 1 + 1, 0, none⟩ (.slice p1 l.length c1)).cell? ⟨w.heap.size + 1 + 1, 0, none⟩ = some (.slice p1 l.length c1) := World.cell?_setCell_same _ _ _ u0
  have u3 : (w1.setCell ⟨w.heap.size + 1 + 1, 0, none⟩ (.slice p1 l.length c1)).cell? ⟨w.heap.size + 1 + 1, 1, none⟩ = _ := (set_oth (by simp)).trans u1
  have g2 : (w1.setCell ⟨w.heap.size + 1 + 1, 0, none⟩ (.slice p1 l.length c1)).frozen? ⟨w.heap.size + 1, 0, none⟩ = false := by simp [g0]
  have g3 : (w1.setCell ⟨w.heap.size + 1 + 1, 0, none⟩ (.slice p1 l.length c1)).frozen? ⟨w.heap.size + 1, 1, none⟩ = false := by simp [g1]
  have h2 : (w1.setCell ⟨w.heap.size + 1 + 1, 0, none⟩ (.slice p1 l.length c1)).frozen? ⟨w.heap.size + 1 + 1, 0, none⟩ = false := by simp [h0]
  have h3 : (w1.setCell ⟨w.heap.size + 1 + 1, 0, none⟩ (.slice p1 l.length c1)).frozen? ⟨w.heap.size + 1 + 1, 1, none⟩ = false := by simp [h1]
  clear a0 a1 x0 x1 u0 u1 g0 g1 h0 h1
  generalize w1.setCell ⟨w.heap.size + 1 + 1, 0, none⟩ (.slice p1 l.length c1) = W1 at *
  refine app_own 23 51 5 12 _ Try.underlying23 insInfo rfl (by decide) rfl (.tmp 11) (.tmp 13) rfl W1.heap.size W1 W1 _ 0 [] (by exact rfl) (World.ownsRow_nil _ _ _ _) (Below.refl _ _) (Nat.le_refl _) n₀ _ c.length cc (c.flatMap cellsI) (by exact rfl) (flat5_len c) hsc (flat5_one c) (by simp only [maxLen]; omega) (by omega) ?_
  intro v2 w2 o2 b2 _ _; rw [Nat.zero_add, List.nil_append] at o2
  have O2 := hid o2
  obtain ⟨p2, c2, rfl, hc2, hp2⟩ := own_slice o2
  have q2 : w.heap.size + 1 + 1 < w2.heap.size := by have := b2.size; omega
  replace a2 := cn b2 a2
  replace x2 := cn b2 x2
  replace x3 := cn b2 x3
  replace u2 := cn b2 u2
  replace u3 := cn b2 u3
  replace g2 := (b2.frozen (p := ⟨w.heap.size + 1, 0, none⟩) (by simp; omega)).trans g2
  replace g3 := (b2.frozen (p := ⟨w.heap.size + 1, 1, none⟩) (by simp; omega)).trans g3
  replace h2 := (b2.frozen (p := ⟨w.heap.size + 1 + 1, 0, none⟩) (by simp; omega)).trans h2
  replace h3 := (b2.frozen (p := ⟨w.heap.size + 1 + 1, 1, none⟩) (by simp; omega)).trans h3
  have O1'' := hid (O1'.kept (row := none) ⟨b2.os, b2.tape, b2.output, b2.size, fun k hk _ => b2.block k hk⟩ (by
    rcases O1'.2 with ⟨e, _⟩ | ⟨g, cap, cur, e, _⟩
    · exact .inl (by rw [e]; rfl)
    · exact .inr (by rw [e]; simp [Value.ownBlock])))
  have W2E := hid (W1E.trans (b2.mono W1E.size))
  have hq2 : w.heap.size + 3 ≤ W1.heap.size := by omega
  clear b2 hp2 hc2 o2 O1' O1 B1 hsc W1E
  go_wp2
  have OM := ownsRow_setCell_below (ownsRow_setCell_below (ownsRow_setCell_below O1''.out (a := ⟨w.heap.size + 1 + 1, 1, none⟩) (by simp) (.slice p2 c.length c2)) (a := ⟨w.heap.size + 1, 0, none⟩) (by simp) (.slice p1 l.length c1)) (a := ⟨w.heap.size + 1, 1, none⟩) (by simp) (.slice p2 c.length c2)
  have OC := ownsRow_setCell_below (ownsRow_setCell_below (ownsRow_setCell_below O2.out (a := ⟨w.heap.size + 1 + 1, 1, none⟩) (by simp; omega) (.slice p2 c.length c2)) (a := ⟨w.heap.size + 1, 0, none⟩) (by simp; omega) (.slice p1 l.length c1)) (a := ⟨w.heap.size + 1, 1, none⟩) (by simp; omega) (.slice p2 c.length c2)
  obtain ⟨p3, c3, e3, _, hm3⟩ := own_mp OM (by omega)
  obtain ⟨p4, c4, e4, _, hm4⟩ := own_cd OC HG.out.c.2.1 (by omega)
  injection e3 with e31 e32 e33
  injection e4 with e41 e42 e43
  subst e31 e41
  exact bodyPost_ret (v := .agg #[.slice p1 l.length c1, .slice p2 c.length c2]) (by simp [results, Try.results11, go_sem, x2, x3, q2]) rfl
    ⟨_, _, _, _, rfl, ⟨hm3, hm4⟩, ((W2E.out.setCell (p := ⟨w.heap.size + 1 + 1, 1, none⟩) (by simp; omega) _).setCell (p := ⟨w.heap.size + 1, 0, none⟩) (by simp) _).setCell (p := ⟨w.heap.size + 1, 1, none⟩) (by simp) _⟩
end Go.Proofs.Ytolpgcoebmboeaa
