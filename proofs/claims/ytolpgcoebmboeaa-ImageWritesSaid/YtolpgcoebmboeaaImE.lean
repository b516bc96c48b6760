/-
  The document's Encode.
-/
import Derived.Test.YtolpgcoebmboeaaImD
namespace Go.Proofs.Ytolpgcoebmboeaa
set_option linter.unusedSimpArgs false
set_option linter.unusedVariables false
open Go.ChangeShapes Go.WideShapes Go.ChangeAt Go.RowKit

/-- Four numbers in a block. -/
structure L4 (w : World) (g : Nat) (x0 x1 x2 x3 : Int) : Prop where
  c0 : w.cell? ⟨g, 0, none⟩ = some (.int .i64 x0)
  c1 : w.cell? ⟨g, 1, none⟩ = some (.int .i64 x1)
  c2 : w.cell? ⟨g, 2, none⟩ = some (.int .i64 x2)
  c3 : w.cell? ⟨g, 3, none⟩ = some (.int .i64 x3)
theorem L4.lt {w : World} {g : Nat} {x0 x1 x2 x3 : Int} (h : L4 w g x0 x1 x2 x3) : g < w.heap.size := World.block_lt_of_cell? w _ h.c0
theorem L4.grown {w w' : World} {g : Nat} {x0 x1 x2 x3 : Int} {row : Option Nat} (h : L4 w g x0 x1 x2 x3) (hg : w.grownBy w' row) (hn : row ≠ some g) : L4 w' g x0 x1 x2 x3 :=
  ⟨hg.cell h.c0 hn.symm, hg.cell h.c1 hn.symm, hg.cell h.c2 hn.symm, hg.cell h.c3 hn.symm⟩
theorem L4.alloc {w : World} {g : Nat} {x0 x1 x2 x3 : Int} (h : L4 w g x0 x1 x2 x3) (o : Obj) : L4 (w.alloc o) g x0 x1 x2 x3 := ⟨cna o h.c0, cna o h.c1, cna o h.c2, cna o h.c3⟩
/-- append(b, byte) beside four numbers that stay. -/
theorem app_b4 {ops : Array Oper} {rest : List Oper} {o : Oper} {a : Act} {Q : Exit → Act → World → Prop} (hgd : o.guard = none) (s x : Operand)
    (ho : o.op = .call { callee := .builtin .append, args := #[s, x], argTypes := #[29, 29] })
    (n₀ : Nat) (w0 w : World) (v : Value) (n : Nat) (zs : List Int) (z : Int) (hs : a.eval s = v) (hown : ByO n₀ w0 w v n zs) (N : Nat) (hx : a.eval x = .slice (some ⟨N, 0, none⟩) 1 1) (hN : w.heap.size = N) (hn : n + 1 < 140737488355328)
    (g : Nat) (x0 x1 x2 x3 : Int) (hL : L4 w g x0 x1 x2 x3) (hg : v.ownBlock ≠ some g)
    (h : ∀ v' w', ByO n₀ w0 w' v' (n + 1) (zs ++ [z]) → L4 w' g x0 x1 x2 x3 → v'.ownBlock ≠ some g → wpList Try.prog ops Q rest (a.put o.dst v') w') : wpList Try.prog ops Q (o :: rest) a (w.alloc (.cells #[.int .u8 z] 5)) := by
  refine app_own 29 5 1 1 (.int .u8 0) Try.underlying29 byteInfo rfl (by decide) hgd s x ho n₀ w0 _ v n (bC zs) hs (hown.own.alloc _) (hown.bel.alloc hown.base _) (by have := hown.base; simp; omega)
    _ _ 1 1 (bC [z]) (hN ▸ hx) rfl (src_arr w (bC [z]) _) (bC_one [z]) (by simp only [maxLen]; omega) (by omega) ?_
  intro v' w' h1 h2 h3 h4
  refine h v' w' ⟨by rw [bC_app]; exact h1, h2, by have := hown.base; have := h3.size; simp at this; omega⟩ ((hL.alloc _).grown h3 hg) ?_
  rcases h4 with h4 | h4
  · rw [h4]; exact hg
  · rw [h4]
    intro e
    injection e with e
    have := hL.lt
    simp at e
    omega
theorem ByO.block {n₀ : Nat} {w0 w : World} {v : Value} {n : Nat} {zs : List Int} (h : ByO n₀ w0 w v n zs) : v.ownBlock ≠ some w.heap.size := by
  intro e
  have := (h.own.lt _ e).2
  omega
theorem ByO.lit {w0 w : World} {n₀ : Nat} (zs : List Int) (n : Nat) (hn : zs.length = n) (h9 : n ≤ maxLen) (hb : Below n₀ w0 w) (hl : n₀ ≤ w.heap.size) : ByO n₀ w0 (w.alloc (.cells (bC zs).toArray 5)) (.slice (some ⟨w.heap.size, 0, none⟩) n n) n zs :=
  ⟨World.ownsRow_lit w (bC zs).toArray n hl h9 (by simp [bC_len, hn]), hb.alloc hl _, by simp; omega⟩
set_option maxHeartbeats 6400000 in
theorem rEncode_l4 (pm pc : Option Addr) (cm cc : Nat) (l : List M4) (c : List I5) (w : World) (hm : MpSl w.heap.size w pm l.length l) (hc : CdSl w.heap.size w pc c.length c) (h4 : 4 < l.length) :
    Calls Try.prog 13 #[.agg #[.slice pm l.length cm, .slice pc c.length cc]] w fun e w' => e = .returned (.tuple #[.slice none 0 0, .int .i64 3]) ∧ Below w.heap.size w w' := by
  have hB := (Below.refl w.heap.size w).alloc (Nat.le_refl _) (.cells #[.slice pm l.length cm, .slice pc c.length cc] 25)
  have hn1 : w.heap.size ≤ (w.alloc (.cells #[.slice pm l.length cm, .slice pc c.length cc] 25)).heap.size := by simp
  have d1 : decide (4 < l.length) = true := decide_eq_true h4
  have d2 : decide (4 < (l.length : Int)) = true := decide_eq_true (by omega)
  clear h4 hm hc
  go_enter Try.func13, Try.ntmps13
  go_wp2
  go_ret2
  exact ⟨rfl, hB⟩
set_option maxHeartbeats 6400000 in
theorem rEncode_l5 (pm pc : Option Addr) (cm cc : Nat) (l : List M4) (c : List I5) (w : World) (hm : MpSl w.heap.size w pm l.length l) (hc : CdSl w.heap.size w pc c.length c) (h4 : l.length ≤ 4) (h5 : 512 < c.length) :
    Calls Try.prog 13 #[.agg #[.slice pm l.length cm, .slice pc c.length cc]] w fun e w' => e = .returned (.tuple #[.slice none 0 0, .int .i64 3]) ∧ Below w.heap.size w w' := by
  have hB := (Below.refl w.heap.size w).alloc (Nat.le_refl _) (.cells #[.slice pm l.length cm, .slice pc c.length cc] 25)
  have hn1 : w.heap.size ≤ (w.alloc (.cells #[.slice pm l.length cm, .slice pc c.length cc] 25)).heap.size := by simp
  have d1 : decide (4 < l.length) = false := decide_eq_false (by omega)
  have d2 : decide (4 < (l.length : Int)) = false := decide_eq_false (by omega)
  have d3 : decide (512 < c.length) = true := decide_eq_true h5
  have d4 : decide (512 < (c.length : Int)) = true := decide_eq_true (by omega)
  clear h4 h5 hm hc
  go_enter Try.func13, Try.ntmps13
  go_wp2
  go_ret2
  exact ⟨rfl, hB⟩
set_option maxHeartbeats 6400000 in
theorem rEncode_no (pm pc : Option Addr) (cm cc : Nat) (l : List M4) (c : List I5) (w : World) (hm : MpSl w.heap.size w pm l.length l) (hc : CdSl w.heap.size w pc c.length c) (h4 : l.length ≤ 4) (h5 : c.length ≤ 512) (hall : l.all mOk = false) :
    Calls Try.prog 13 #[.agg #[.slice pm l.length cm, .slice pc c.length cc]] w fun e w' => e = .returned (.tuple #[.slice none 0 0, .int .i64 26]) ∧ Below w.heap.size w w' := by
  have hB := (Below.refl w.heap.size w).alloc (Nat.le_refl _) (.cells #[.slice pm l.length cm, .slice pc c.length cc] 25)
  have hn1 : w.heap.size ≤ (w.alloc (.cells #[.slice pm l.length cm, .slice pc c.length cc] 25)).heap.size := by simp
  have d1 : decide (4 < l.length) = false := decide_eq_false (by omega)
  have d2 : decide (4 < (l.length : Int)) = false := decide_eq_false (by omega)
  have d3 : decide (512 < c.length) = false := decide_eq_false (by omega)
  have d4 : decide (512 < (c.length : Int)) = false := decide_eq_false (by omega)
  have hq : (w.alloc (.cells #[.slice pm l.length cm, .slice pc c.length cc] 25)).heap.size = w.heap.size + 1 := by simp
  have k0 : (w.alloc (.cells #[.slice pm l.length cm, .slice pc c.length cc] 25)).cell? ⟨w.heap.size, 0, none⟩ = some (.slice pm l.length cm) := by simp
  have k1 : (w.alloc (.cells #[.slice pm l.length cm, .slice pc c.length cc] 25)).cell? ⟨w.heap.size, 1, none⟩ = some (.slice pc c.length cc) := by simp
  have hcell : ∀ k, k < l.length → ∃ b off, pm = some ⟨b, off, none⟩ ∧ b < w.heap.size ∧ MapAt (w.alloc (.cells #[.slice pm l.length cm, .slice pc c.length cc] 25)) b (off + k * 4) (mpA l k) := by
    intro k hk
    have hm1 := hm.kept hB (Nat.le_refl _)
    obtain ⟨b, off, e, hb, hc⟩ := hm1.2.2.resolve_left (by omega)
    exact ⟨b, off, e, hb, hc k hk⟩
  have HC := hid hcell
  have hcell5 : ∀ k, k < c.length → ∃ b off, pc = some ⟨b, off, none⟩ ∧ b < w.heap.size ∧ InsAt (w.alloc (.cells #[.slice pm l.length cm, .slice pc c.length cc] 25)) b (off + k * 5) (at5 c k) := by
    intro k hk
    have hm1 := hc.kept hB (Nat.le_refl _)
    obtain ⟨b, off, e, hb, hc⟩ := hm1.2.2.2.resolve_left (by omega)
    exact ⟨b, off, e, hb, hc k hk⟩
  have HC5 := hid hcell5
  have HOK := hid (fun k => at5_ok hc.2.1 k)
  have HALL := hid hall
  have e1 : IntKind.u8.wrap (l.length : Int) = l.length := u8_same (by omega) (by omega)
  have e2 : (l.length : Int) % 256 = l.length := by omega
  have O1 : ByO (w.heap.size + 1) (w.alloc (.cells #[.slice pm l.length cm, .slice pc c.length cc] 25)) ((w.alloc (.cells #[.slice pm l.length cm, .slice pc c.length cc] 25)).alloc (.cells #[.int .u8 l.length] 5)) (.slice (some ⟨w.heap.size + 1, 0, none⟩) 1 1) (1 + 4 * 0) (mapsTo l 0) := by
    have := ByO.lit (n₀ := w.heap.size + 1) [(l.length : Int)] 1 rfl (by decide) (Below.refl _ (w.alloc (.cells #[.slice pm l.length cm, .slice pc c.length cc] 25))) (by simp)
    rw [hq] at this
    exact this
  clear hm hc hcell hcell5 hall
  go_enter Try.func13, Try.ntmps13
  go_wp2
  generalize w.alloc (.cells #[.slice pm l.length cm, .slice pc c.length cc] 25) = W0 at *
  go_loopw [4, 5] (fun bv i wr => ∃ k : Nat, k ≤ l.length ∧ i = .int .i64 k ∧ ByO (w.heap.size + 1) W0 wr bv (1 + 4 * k) (mapsTo l k) ∧ Hid ((l.take k).all mOk = true)) (fun _ i _ => l.length - (intOf i).toNat)
  case atStart => exact ⟨0, Nat.zero_le _, rfl, O1, hid rfl⟩
  case round =>
    obtain ⟨k, hk, rfl, OK, HT⟩ := hrel
    have h0 := (OK.bel.cell (p := ⟨w.heap.size, 0, none⟩) (by simp)).trans k0
    have h1 := (OK.bel.cell (p := ⟨w.heap.size, 1, none⟩) (by simp)).trans k1
    have hqr : w.heap.size < wr.heap.size := by have := OK.base; omega
    by_cases hlt : k < l.length
    · have hs := mapsTo_succ hlt
      have ht := fun hm => all_take_succ hlt HT.out hm
      have hli : (k : Int) < (l.length : Int) := by omega
      obtain ⟨b, off, rfl, hb, hm0, hm1, hm2, hm3⟩ := HC.out k hlt
      have r0 := (OK.bel.cell (p := ⟨b, off + k * 4, none⟩) (by show b < w.heap.size + 1; omega)).trans hm0
      have r1 := (OK.bel.cell (p := ⟨b, off + k * 4 + 1, none⟩) (by show b < w.heap.size + 1; omega)).trans hm1
      have r2 := (OK.bel.cell (p := ⟨b, off + k * 4 + 2, none⟩) (by show b < w.heap.size + 1; omega)).trans hm2
      have r3 := (OK.bel.cell (p := ⟨b, off + k * 4 + 3, none⟩) (by show b < w.heap.size + 1; omega)).trans hm3
      have hq := fun (h : l.all mOk = true) => all_at hlt h
      clear hm0 hm1 hm2 hm3 e1 e2 O1
      have HS := hid hs
      have HTT := hid ht
      have HQ := hid hq
      clear hs ht hq
      generalize mpA l k = m at *
      obtain ⟨x0, x1, x2, x3⟩ := m
      dsimp only at r0 r1 r2 r3 HS
      cases hmk : mOk ⟨x0, x1, x2, x3⟩
      · simp only [mOk, mB, b8, List.all_cons, List.all_nil, Bool.and_true] at hmk
        clear HTT HQ HS
        by_cases h0_ : 0 ≤ x0 ∧ x0 ≤ 255
        rotate_left
        · by_cases b0 : x0 < 0
          · skip
            have g0 : decide (x0 < 0) = true := decide_eq_true (by omega)
            have OA := (OK.alloc (.cells #[.int .i64 x0, .int .i64 x1, .int .i64 x2, .int .i64 x3] 48)).alloc (.cells #[.int .i64 x0, .int .i64 x1, .int .i64 x2, .int .i64 x3] 3)
            have LA : L4 ((wr.alloc (.cells #[.int .i64 x0, .int .i64 x1, .int .i64 x2, .int .i64 x3] 48)).alloc (.cells #[.int .i64 x0, .int .i64 x1, .int .i64 x2, .int .i64 x3] 3)) (wr.heap.size + 1) x0 x1 x2 x3 := ⟨by simp, by simp, by simp, by simp⟩
            have hgA : u4.ownBlock ≠ some (wr.heap.size + 1) := by intro e; have := (OK.own.lt _ e).2; omega
            go_wp2
            refine wp_loop_rounds 1 ?_
            rw [rounds_succ]
            go_wp2_with (at_builtin; refine app_b4 rfl (.tmp 64) (.tmp 70) rfl _ _ _ _ _ _ _ (by exact rfl) (by assumption) _ (by exact rfl) (by simp) (by omega) _ _ _ _ _ (by assumption) (by assumption) ?_; intro v1 w1 O1 LA hg1; obtain ⟨y0, y1, y2, y3⟩ := id LA)
            go_ret2
            exact ⟨rfl, hB.trans ((by assumption : ByO _ _ _ _ _ _).bel.mono (by omega))⟩
          · have c0 : 255 < x0 := by omega
            have g0 : decide (x0 < 0) = false := decide_eq_false (by omega)
            have f0 : decide (255 < x0) = true := decide_eq_true (by omega)
            have OA := (OK.alloc (.cells #[.int .i64 x0, .int .i64 x1, .int .i64 x2, .int .i64 x3] 48)).alloc (.cells #[.int .i64 x0, .int .i64 x1, .int .i64 x2, .int .i64 x3] 3)
            have LA : L4 ((wr.alloc (.cells #[.int .i64 x0, .int .i64 x1, .int .i64 x2, .int .i64 x3] 48)).alloc (.cells #[.int .i64 x0, .int .i64 x1, .int .i64 x2, .int .i64 x3] 3)) (wr.heap.size + 1) x0 x1 x2 x3 := ⟨by simp, by simp, by simp, by simp⟩
            have hgA : u4.ownBlock ≠ some (wr.heap.size + 1) := by intro e; have := (OK.own.lt _ e).2; omega
            go_wp2
            refine wp_loop_rounds 1 ?_
            rw [rounds_succ]
            go_wp2_with (at_builtin; refine app_b4 rfl (.tmp 64) (.tmp 70) rfl _ _ _ _ _ _ _ (by exact rfl) (by assumption) _ (by exact rfl) (by simp) (by omega) _ _ _ _ _ (by assumption) (by assumption) ?_; intro v1 w1 O1 LA hg1; obtain ⟨y0, y1, y2, y3⟩ := id LA)
            go_ret2
            exact ⟨rfl, hB.trans ((by assumption : ByO _ _ _ _ _ _).bel.mono (by omega))⟩
        obtain ⟨a0, c0⟩ := h0_
        by_cases h1_ : 0 ≤ x1 ∧ x1 ≤ 255
        rotate_left
        · by_cases b1 : x1 < 0
          · skip
            have g0 : decide (x0 < 0) = false := decide_eq_false (by omega)
            have f0 : decide (255 < x0) = false := decide_eq_false (by omega)
            have e0 : IntKind.u8.wrap x0 = x0 := u8_same (by omega) (by omega)
            have d0 : x0 % 256 = x0 := by omega
            have g1 : decide (x1 < 0) = true := decide_eq_true (by omega)
            have OA := (OK.alloc (.cells #[.int .i64 x0, .int .i64 x1, .int .i64 x2, .int .i64 x3] 48)).alloc (.cells #[.int .i64 x0, .int .i64 x1, .int .i64 x2, .int .i64 x3] 3)
            have LA : L4 ((wr.alloc (.cells #[.int .i64 x0, .int .i64 x1, .int .i64 x2, .int .i64 x3] 48)).alloc (.cells #[.int .i64 x0, .int .i64 x1, .int .i64 x2, .int .i64 x3] 3)) (wr.heap.size + 1) x0 x1 x2 x3 := ⟨by simp, by simp, by simp, by simp⟩
            have hgA : u4.ownBlock ≠ some (wr.heap.size + 1) := by intro e; have := (OK.own.lt _ e).2; omega
            go_wp2
            refine wp_loop_rounds 2 ?_
            rw [rounds_succ]
            go_wp2_with (at_builtin; refine app_b4 rfl (.tmp 64) (.tmp 70) rfl _ _ _ _ _ _ _ (by exact rfl) (by assumption) _ (by exact rfl) (by simp) (by omega) _ _ _ _ _ (by assumption) (by assumption) ?_; intro v1 w1 O1 LA hg1; obtain ⟨y0, y1, y2, y3⟩ := id LA)
            rw [rounds_succ]
            go_wp2_with (at_builtin; refine app_b4 rfl (.tmp 64) (.tmp 70) rfl _ _ _ _ _ _ _ (by exact rfl) (by assumption) _ (by exact rfl) (by simp) (by omega) _ _ _ _ _ (by assumption) (by assumption) ?_; intro v1 w1 O1 LA hg1; obtain ⟨y0, y1, y2, y3⟩ := id LA)
            go_ret2
            exact ⟨rfl, hB.trans ((by assumption : ByO _ _ _ _ _ _).bel.mono (by omega))⟩
          · have c1 : 255 < x1 := by omega
            have g0 : decide (x0 < 0) = false := decide_eq_false (by omega)
            have f0 : decide (255 < x0) = false := decide_eq_false (by omega)
            have e0 : IntKind.u8.wrap x0 = x0 := u8_same (by omega) (by omega)
            have d0 : x0 % 256 = x0 := by omega
            have g1 : decide (x1 < 0) = false := decide_eq_false (by omega)
            have f1 : decide (255 < x1) = true := decide_eq_true (by omega)
            have OA := (OK.alloc (.cells #[.int .i64 x0, .int .i64 x1, .int .i64 x2, .int .i64 x3] 48)).alloc (.cells #[.int .i64 x0, .int .i64 x1, .int .i64 x2, .int .i64 x3] 3)
            have LA : L4 ((wr.alloc (.cells #[.int .i64 x0, .int .i64 x1, .int .i64 x2, .int .i64 x3] 48)).alloc (.cells #[.int .i64 x0, .int .i64 x1, .int .i64 x2, .int .i64 x3] 3)) (wr.heap.size + 1) x0 x1 x2 x3 := ⟨by simp, by simp, by simp, by simp⟩
            have hgA : u4.ownBlock ≠ some (wr.heap.size + 1) := by intro e; have := (OK.own.lt _ e).2; omega
            go_wp2
            refine wp_loop_rounds 2 ?_
            rw [rounds_succ]
            go_wp2_with (at_builtin; refine app_b4 rfl (.tmp 64) (.tmp 70) rfl _ _ _ _ _ _ _ (by exact rfl) (by assumption) _ (by exact rfl) (by simp) (by omega) _ _ _ _ _ (by assumption) (by assumption) ?_; intro v1 w1 O1 LA hg1; obtain ⟨y0, y1, y2, y3⟩ := id LA)
            rw [rounds_succ]
            go_wp2_with (at_builtin; refine app_b4 rfl (.tmp 64) (.tmp 70) rfl _ _ _ _ _ _ _ (by exact rfl) (by assumption) _ (by exact rfl) (by simp) (by omega) _ _ _ _ _ (by assumption) (by assumption) ?_; intro v1 w1 O1 LA hg1; obtain ⟨y0, y1, y2, y3⟩ := id LA)
            go_ret2
            exact ⟨rfl, hB.trans ((by assumption : ByO _ _ _ _ _ _).bel.mono (by omega))⟩
        obtain ⟨a1, c1⟩ := h1_
        by_cases h2_ : 0 ≤ x2 ∧ x2 ≤ 255
        rotate_left
        · by_cases b2 : x2 < 0
          · skip
            have g0 : decide (x0 < 0) = false := decide_eq_false (by omega)
            have f0 : decide (255 < x0) = false := decide_eq_false (by omega)
            have e0 : IntKind.u8.wrap x0 = x0 := u8_same (by omega) (by omega)
            have d0 : x0 % 256 = x0 := by omega
            have g1 : decide (x1 < 0) = false := decide_eq_false (by omega)
            have f1 : decide (255 < x1) = false := decide_eq_false (by omega)
            have e1 : IntKind.u8.wrap x1 = x1 := u8_same (by omega) (by omega)
            have d1 : x1 % 256 = x1 := by omega
            have g2 : decide (x2 < 0) = true := decide_eq_true (by omega)
            have OA := (OK.alloc (.cells #[.int .i64 x0, .int .i64 x1, .int .i64 x2, .int .i64 x3] 48)).alloc (.cells #[.int .i64 x0, .int .i64 x1, .int .i64 x2, .int .i64 x3] 3)
            have LA : L4 ((wr.alloc (.cells #[.int .i64 x0, .int .i64 x1, .int .i64 x2, .int .i64 x3] 48)).alloc (.cells #[.int .i64 x0, .int .i64 x1, .int .i64 x2, .int .i64 x3] 3)) (wr.heap.size + 1) x0 x1 x2 x3 := ⟨by simp, by simp, by simp, by simp⟩
            have hgA : u4.ownBlock ≠ some (wr.heap.size + 1) := by intro e; have := (OK.own.lt _ e).2; omega
            go_wp2
            refine wp_loop_rounds 3 ?_
            rw [rounds_succ]
            go_wp2_with (at_builtin; refine app_b4 rfl (.tmp 64) (.tmp 70) rfl _ _ _ _ _ _ _ (by exact rfl) (by assumption) _ (by exact rfl) (by simp) (by omega) _ _ _ _ _ (by assumption) (by assumption) ?_; intro v1 w1 O1 LA hg1; obtain ⟨y0, y1, y2, y3⟩ := id LA)
            rw [rounds_succ]
            go_wp2_with (at_builtin; refine app_b4 rfl (.tmp 64) (.tmp 70) rfl _ _ _ _ _ _ _ (by exact rfl) (by assumption) _ (by exact rfl) (by simp) (by omega) _ _ _ _ _ (by assumption) (by assumption) ?_; intro v1 w1 O1 LA hg1; obtain ⟨y0, y1, y2, y3⟩ := id LA)
            rw [rounds_succ]
            go_wp2_with (at_builtin; refine app_b4 rfl (.tmp 64) (.tmp 70) rfl _ _ _ _ _ _ _ (by exact rfl) (by assumption) _ (by exact rfl) (by simp) (by omega) _ _ _ _ _ (by assumption) (by assumption) ?_; intro v1 w1 O1 LA hg1; obtain ⟨y0, y1, y2, y3⟩ := id LA)
            go_ret2
            exact ⟨rfl, hB.trans ((by assumption : ByO _ _ _ _ _ _).bel.mono (by omega))⟩
          · have c2 : 255 < x2 := by omega
            have g0 : decide (x0 < 0) = false := decide_eq_false (by omega)
            have f0 : decide (255 < x0) = false := decide_eq_false (by omega)
            have e0 : IntKind.u8.wrap x0 = x0 := u8_same (by omega) (by omega)
            have d0 : x0 % 256 = x0 := by omega
            have g1 : decide (x1 < 0) = false := decide_eq_false (by omega)
            have f1 : decide (255 < x1) = false := decide_eq_false (by omega)
            have e1 : IntKind.u8.wrap x1 = x1 := u8_same (by omega) (by omega)
            have d1 : x1 % 256 = x1 := by omega
            have g2 : decide (x2 < 0) = false := decide_eq_false (by omega)
            have f2 : decide (255 < x2) = true := decide_eq_true (by omega)
            have OA := (OK.alloc (.cells #[.int .i64 x0, .int .i64 x1, .int .i64 x2, .int .i64 x3] 48)).alloc (.cells #[.int .i64 x0, .int .i64 x1, .int .i64 x2, .int .i64 x3] 3)
            have LA : L4 ((wr.alloc (.cells #[.int .i64 x0, .int .i64 x1, .int .i64 x2, .int .i64 x3] 48)).alloc (.cells #[.int .i64 x0, .int .i64 x1, .int .i64 x2, .int .i64 x3] 3)) (wr.heap.size + 1) x0 x1 x2 x3 := ⟨by simp, by simp, by simp, by simp⟩
            have hgA : u4.ownBlock ≠ some (wr.heap.size + 1) := by intro e; have := (OK.own.lt _ e).2; omega
            go_wp2
            refine wp_loop_rounds 3 ?_
            rw [rounds_succ]
            go_wp2_with (at_builtin; refine app_b4 rfl (.tmp 64) (.tmp 70) rfl _ _ _ _ _ _ _ (by exact rfl) (by assumption) _ (by exact rfl) (by simp) (by omega) _ _ _ _ _ (by assumption) (by assumption) ?_; intro v1 w1 O1 LA hg1; obtain ⟨y0, y1, y2, y3⟩ := id LA)
            rw [rounds_succ]
            go_wp2_with (at_builtin; refine app_b4 rfl (.tmp 64) (.tmp 70) rfl _ _ _ _ _ _ _ (by exact rfl) (by assumption) _ (by exact rfl) (by simp) (by omega) _ _ _ _ _ (by assumption) (by assumption) ?_; intro v1 w1 O1 LA hg1; obtain ⟨y0, y1, y2, y3⟩ := id LA)
            rw [rounds_succ]
            go_wp2_with (at_builtin; refine app_b4 rfl (.tmp 64) (.tmp 70) rfl _ _ _ _ _ _ _ (by exact rfl) (by assumption) _ (by exact rfl) (by simp) (by omega) _ _ _ _ _ (by assumption) (by assumption) ?_; intro v1 w1 O1 LA hg1; obtain ⟨y0, y1, y2, y3⟩ := id LA)
            go_ret2
            exact ⟨rfl, hB.trans ((by assumption : ByO _ _ _ _ _ _).bel.mono (by omega))⟩
        obtain ⟨a2, c2⟩ := h2_
        by_cases h3_ : 0 ≤ x3 ∧ x3 ≤ 255
        rotate_left
        · by_cases b3 : x3 < 0
          · skip
            have g0 : decide (x0 < 0) = false := decide_eq_false (by omega)
            have f0 : decide (255 < x0) = false := decide_eq_false (by omega)
            have e0 : IntKind.u8.wrap x0 = x0 := u8_same (by omega) (by omega)
            have d0 : x0 % 256 = x0 := by omega
            have g1 : decide (x1 < 0) = false := decide_eq_false (by omega)
            have f1 : decide (255 < x1) = false := decide_eq_false (by omega)
            have e1 : IntKind.u8.wrap x1 = x1 := u8_same (by omega) (by omega)
            have d1 : x1 % 256 = x1 := by omega
            have g2 : decide (x2 < 0) = false := decide_eq_false (by omega)
            have f2 : decide (255 < x2) = false := decide_eq_false (by omega)
            have e2 : IntKind.u8.wrap x2 = x2 := u8_same (by omega) (by omega)
            have d2 : x2 % 256 = x2 := by omega
            have g3 : decide (x3 < 0) = true := decide_eq_true (by omega)
            have OA := (OK.alloc (.cells #[.int .i64 x0, .int .i64 x1, .int .i64 x2, .int .i64 x3] 48)).alloc (.cells #[.int .i64 x0, .int .i64 x1, .int .i64 x2, .int .i64 x3] 3)
            have LA : L4 ((wr.alloc (.cells #[.int .i64 x0, .int .i64 x1, .int .i64 x2, .int .i64 x3] 48)).alloc (.cells #[.int .i64 x0, .int .i64 x1, .int .i64 x2, .int .i64 x3] 3)) (wr.heap.size + 1) x0 x1 x2 x3 := ⟨by simp, by simp, by simp, by simp⟩
            have hgA : u4.ownBlock ≠ some (wr.heap.size + 1) := by intro e; have := (OK.own.lt _ e).2; omega
            go_wp2
            refine wp_loop_rounds 4 ?_
            rw [rounds_succ]
            go_wp2_with (at_builtin; refine app_b4 rfl (.tmp 64) (.tmp 70) rfl _ _ _ _ _ _ _ (by exact rfl) (by assumption) _ (by exact rfl) (by simp) (by omega) _ _ _ _ _ (by assumption) (by assumption) ?_; intro v1 w1 O1 LA hg1; obtain ⟨y0, y1, y2, y3⟩ := id LA)
            rw [rounds_succ]
            go_wp2_with (at_builtin; refine app_b4 rfl (.tmp 64) (.tmp 70) rfl _ _ _ _ _ _ _ (by exact rfl) (by assumption) _ (by exact rfl) (by simp) (by omega) _ _ _ _ _ (by assumption) (by assumption) ?_; intro v1 w1 O1 LA hg1; obtain ⟨y0, y1, y2, y3⟩ := id LA)
            rw [rounds_succ]
            go_wp2_with (at_builtin; refine app_b4 rfl (.tmp 64) (.tmp 70) rfl _ _ _ _ _ _ _ (by exact rfl) (by assumption) _ (by exact rfl) (by simp) (by omega) _ _ _ _ _ (by assumption) (by assumption) ?_; intro v1 w1 O1 LA hg1; obtain ⟨y0, y1, y2, y3⟩ := id LA)
            rw [rounds_succ]
            go_wp2_with (at_builtin; refine app_b4 rfl (.tmp 64) (.tmp 70) rfl _ _ _ _ _ _ _ (by exact rfl) (by assumption) _ (by exact rfl) (by simp) (by omega) _ _ _ _ _ (by assumption) (by assumption) ?_; intro v1 w1 O1 LA hg1; obtain ⟨y0, y1, y2, y3⟩ := id LA)
            go_ret2
            exact ⟨rfl, hB.trans ((by assumption : ByO _ _ _ _ _ _).bel.mono (by omega))⟩
          · have c3 : 255 < x3 := by omega
            have g0 : decide (x0 < 0) = false := decide_eq_false (by omega)
            have f0 : decide (255 < x0) = false := decide_eq_false (by omega)
            have e0 : IntKind.u8.wrap x0 = x0 := u8_same (by omega) (by omega)
            have d0 : x0 % 256 = x0 := by omega
            have g1 : decide (x1 < 0) = false := decide_eq_false (by omega)
            have f1 : decide (255 < x1) = false := decide_eq_false (by omega)
            have e1 : IntKind.u8.wrap x1 = x1 := u8_same (by omega) (by omega)
            have d1 : x1 % 256 = x1 := by omega
            have g2 : decide (x2 < 0) = false := decide_eq_false (by omega)
            have f2 : decide (255 < x2) = false := decide_eq_false (by omega)
            have e2 : IntKind.u8.wrap x2 = x2 := u8_same (by omega) (by omega)
            have d2 : x2 % 256 = x2 := by omega
            have g3 : decide (x3 < 0) = false := decide_eq_false (by omega)
            have f3 : decide (255 < x3) = true := decide_eq_true (by omega)
            have OA := (OK.alloc (.cells #[.int .i64 x0, .int .i64 x1, .int .i64 x2, .int .i64 x3] 48)).alloc (.cells #[.int .i64 x0, .int .i64 x1, .int .i64 x2, .int .i64 x3] 3)
            have LA : L4 ((wr.alloc (.cells #[.int .i64 x0, .int .i64 x1, .int .i64 x2, .int .i64 x3] 48)).alloc (.cells #[.int .i64 x0, .int .i64 x1, .int .i64 x2, .int .i64 x3] 3)) (wr.heap.size + 1) x0 x1 x2 x3 := ⟨by simp, by simp, by simp, by simp⟩
            have hgA : u4.ownBlock ≠ some (wr.heap.size + 1) := by intro e; have := (OK.own.lt _ e).2; omega
            go_wp2
            refine wp_loop_rounds 4 ?_
            rw [rounds_succ]
            go_wp2_with (at_builtin; refine app_b4 rfl (.tmp 64) (.tmp 70) rfl _ _ _ _ _ _ _ (by exact rfl) (by assumption) _ (by exact rfl) (by simp) (by omega) _ _ _ _ _ (by assumption) (by assumption) ?_; intro v1 w1 O1 LA hg1; obtain ⟨y0, y1, y2, y3⟩ := id LA)
            rw [rounds_succ]
            go_wp2_with (at_builtin; refine app_b4 rfl (.tmp 64) (.tmp 70) rfl _ _ _ _ _ _ _ (by exact rfl) (by assumption) _ (by exact rfl) (by simp) (by omega) _ _ _ _ _ (by assumption) (by assumption) ?_; intro v1 w1 O1 LA hg1; obtain ⟨y0, y1, y2, y3⟩ := id LA)
            rw [rounds_succ]
            go_wp2_with (at_builtin; refine app_b4 rfl (.tmp 64) (.tmp 70) rfl _ _ _ _ _ _ _ (by exact rfl) (by assumption) _ (by exact rfl) (by simp) (by omega) _ _ _ _ _ (by assumption) (by assumption) ?_; intro v1 w1 O1 LA hg1; obtain ⟨y0, y1, y2, y3⟩ := id LA)
            rw [rounds_succ]
            go_wp2_with (at_builtin; refine app_b4 rfl (.tmp 64) (.tmp 70) rfl _ _ _ _ _ _ _ (by exact rfl) (by assumption) _ (by exact rfl) (by simp) (by omega) _ _ _ _ _ (by assumption) (by assumption) ?_; intro v1 w1 O1 LA hg1; obtain ⟨y0, y1, y2, y3⟩ := id LA)
            go_ret2
            exact ⟨rfl, hB.trans ((by assumption : ByO _ _ _ _ _ _).bel.mono (by omega))⟩
        obtain ⟨a3, c3⟩ := h3_
        exfalso
        rw [decide_eq_true a0, decide_eq_true c0, decide_eq_true a1, decide_eq_true c1, decide_eq_true a2, decide_eq_true c2, decide_eq_true a3, decide_eq_true c3] at hmk
        exact absurd hmk (by decide)
      · have HM := hid (HTT.out hmk)
        simp only [mOk, mB, b8, List.all_cons, List.all_nil, Bool.and_true, Bool.and_eq_true, decide_eq_true_eq] at hmk
        obtain ⟨⟨a0, c0⟩, ⟨a1, c1⟩, ⟨a2, c2⟩, a3, c3⟩ := hmk
        have g0 : decide (x0 < 0) = false := decide_eq_false (by omega)
        have f0 : decide (255 < x0) = false := decide_eq_false (by omega)
        have e0 : IntKind.u8.wrap x0 = x0 := u8_same (by omega) (by omega)
        have d0 : x0 % 256 = x0 := by omega
        have g1 : decide (x1 < 0) = false := decide_eq_false (by omega)
        have f1 : decide (255 < x1) = false := decide_eq_false (by omega)
        have e1 : IntKind.u8.wrap x1 = x1 := u8_same (by omega) (by omega)
        have d1 : x1 % 256 = x1 := by omega
        have g2 : decide (x2 < 0) = false := decide_eq_false (by omega)
        have f2 : decide (255 < x2) = false := decide_eq_false (by omega)
        have e2 : IntKind.u8.wrap x2 = x2 := u8_same (by omega) (by omega)
        have d2 : x2 % 256 = x2 := by omega
        have g3 : decide (x3 < 0) = false := decide_eq_false (by omega)
        have f3 : decide (255 < x3) = false := decide_eq_false (by omega)
        have e3 : IntKind.u8.wrap x3 = x3 := u8_same (by omega) (by omega)
        have d3 : x3 % 256 = x3 := by omega
        have OA := (OK.alloc (.cells #[.int .i64 x0, .int .i64 x1, .int .i64 x2, .int .i64 x3] 48)).alloc (.cells #[.int .i64 x0, .int .i64 x1, .int .i64 x2, .int .i64 x3] 3)
        have LA : L4 ((wr.alloc (.cells #[.int .i64 x0, .int .i64 x1, .int .i64 x2, .int .i64 x3] 48)).alloc (.cells #[.int .i64 x0, .int .i64 x1, .int .i64 x2, .int .i64 x3] 3)) (wr.heap.size + 1) x0 x1 x2 x3 := ⟨by simp, by simp, by simp, by simp⟩
        have hgA : u4.ownBlock ≠ some (wr.heap.size + 1) := by intro e; have := (OK.own.lt _ e).2; omega
        go_wp2
        refine wp_loop_rounds 5 ?_
        rw [rounds_succ]
        go_wp2_with (at_builtin; refine app_b4 rfl (.tmp 64) (.tmp 70) rfl _ _ _ _ _ _ _ (by exact rfl) (by assumption) _ (by exact rfl) (by simp) (by omega) _ _ _ _ _ (by assumption) (by assumption) ?_; intro v1 w1 O1 LA hg1; obtain ⟨y0, y1, y2, y3⟩ := id LA)
        rw [rounds_succ]
        go_wp2_with (at_builtin; refine app_b4 rfl (.tmp 64) (.tmp 70) rfl _ _ _ _ _ _ _ (by exact rfl) (by assumption) _ (by exact rfl) (by simp) (by omega) _ _ _ _ _ (by assumption) (by assumption) ?_; intro v1 w1 O1 LA hg1; obtain ⟨y0, y1, y2, y3⟩ := id LA)
        rw [rounds_succ]
        go_wp2_with (at_builtin; refine app_b4 rfl (.tmp 64) (.tmp 70) rfl _ _ _ _ _ _ _ (by exact rfl) (by assumption) _ (by exact rfl) (by simp) (by omega) _ _ _ _ _ (by assumption) (by assumption) ?_; intro v1 w1 O1 LA hg1; obtain ⟨y0, y1, y2, y3⟩ := id LA)
        rw [rounds_succ]
        go_wp2_with (at_builtin; refine app_b4 rfl (.tmp 64) (.tmp 70) rfl _ _ _ _ _ _ _ (by exact rfl) (by assumption) _ (by exact rfl) (by simp) (by omega) _ _ _ _ _ (by assumption) (by assumption) ?_; intro v1 w1 O1 LA hg1; obtain ⟨y0, y1, y2, y3⟩ := id LA)
        rw [rounds_succ]
        go_wp2_with (at_builtin; refine app_b4 rfl (.tmp 64) (.tmp 70) rfl _ _ _ _ _ _ _ (by exact rfl) (by assumption) _ (by exact rfl) (by simp) (by omega) _ _ _ _ _ (by assumption) (by assumption) ?_; intro v1 w1 O1 LA hg1; obtain ⟨y0, y1, y2, y3⟩ := id LA)
        go_roundw
        case rel => exact ⟨k + 1, by omega, by go_num, by rw [HS.out]; assumption, HM⟩
        case measure => simp [intOf]; omega
    · exfalso
      obtain rfl : k = l.length := by omega
      have := HT.out
      rw [List.take_length, HALL.out] at this
      exact absurd this (by decide)
set_option maxHeartbeats 6400000 in
theorem rEncode_cno (pm pc : Option Addr) (cm cc : Nat) (l : List M4) (c : List I5) (w : World) (hm : MpSl w.heap.size w pm l.length l) (hc : CdSl w.heap.size w pc c.length c) (h4 : l.length ≤ 4) (h5 : c.length ≤ 512) (hall : l.all mOk = true) (hall5 : c.all iOk = false) :
    Calls Try.prog 13 #[.agg #[.slice pm l.length cm, .slice pc c.length cc]] w fun e w' => e = .returned (.tuple #[.slice none 0 0, .int .i64 21]) ∧ Below w.heap.size w w' := by
  have hB := (Below.refl w.heap.size w).alloc (Nat.le_refl _) (.cells #[.slice pm l.length cm, .slice pc c.length cc] 25)
  have hn1 : w.heap.size ≤ (w.alloc (.cells #[.slice pm l.length cm, .slice pc c.length cc] 25)).heap.size := by simp
  have HALL5 := hid hall5
  clear hall5
  have d1 : decide (4 < l.length) = false := decide_eq_false (by omega)
  have d2 : decide (4 < (l.length : Int)) = false := decide_eq_false (by omega)
  have d3 : decide (512 < c.length) = false := decide_eq_false (by omega)
  have d4 : decide (512 < (c.length : Int)) = false := decide_eq_false (by omega)
  have hq : (w.alloc (.cells #[.slice pm l.length cm, .slice pc c.length cc] 25)).heap.size = w.heap.size + 1 := by simp
  have k0 : (w.alloc (.cells #[.slice pm l.length cm, .slice pc c.length cc] 25)).cell? ⟨w.heap.size, 0, none⟩ = some (.slice pm l.length cm) := by simp
  have k1 : (w.alloc (.cells #[.slice pm l.length cm, .slice pc c.length cc] 25)).cell? ⟨w.heap.size, 1, none⟩ = some (.slice pc c.length cc) := by simp
  have hcell : ∀ k, k < l.length → ∃ b off, pm = some ⟨b, off, none⟩ ∧ b < w.heap.size ∧ MapAt (w.alloc (.cells #[.slice pm l.length cm, .slice pc c.length cc] 25)) b (off + k * 4) (mpA l k) := by
    intro k hk
    have hm1 := hm.kept hB (Nat.le_refl _)
    obtain ⟨b, off, e, hb, hc⟩ := hm1.2.2.resolve_left (by omega)
    exact ⟨b, off, e, hb, hc k hk⟩
  have HC := hid hcell
  have hcell5 : ∀ k, k < c.length → ∃ b off, pc = some ⟨b, off, none⟩ ∧ b < w.heap.size ∧ InsAt (w.alloc (.cells #[.slice pm l.length cm, .slice pc c.length cc] 25)) b (off + k * 5) (at5 c k) := by
    intro k hk
    have hm1 := hc.kept hB (Nat.le_refl _)
    obtain ⟨b, off, e, hb, hc⟩ := hm1.2.2.2.resolve_left (by omega)
    exact ⟨b, off, e, hb, hc k hk⟩
  have HC5 := hid hcell5
  have HOK := hid (fun k => at5_ok hc.2.1 k)
  have HALL := hid hall
  have e1 : IntKind.u8.wrap (l.length : Int) = l.length := u8_same (by omega) (by omega)
  have e2 : (l.length : Int) % 256 = l.length := by omega
  have O1 : ByO (w.heap.size + 1) (w.alloc (.cells #[.slice pm l.length cm, .slice pc c.length cc] 25)) ((w.alloc (.cells #[.slice pm l.length cm, .slice pc c.length cc] 25)).alloc (.cells #[.int .u8 l.length] 5)) (.slice (some ⟨w.heap.size + 1, 0, none⟩) 1 1) (1 + 4 * 0) (mapsTo l 0) := by
    have := ByO.lit (n₀ := w.heap.size + 1) [(l.length : Int)] 1 rfl (by decide) (Below.refl _ (w.alloc (.cells #[.slice pm l.length cm, .slice pc c.length cc] 25))) (by simp)
    rw [hq] at this
    exact this
  clear hm hc hcell hcell5 hall
  go_enter Try.func13, Try.ntmps13
  go_wp2
  generalize w.alloc (.cells #[.slice pm l.length cm, .slice pc c.length cc] 25) = W0 at *
  go_loopw [4, 5] (fun bv i wr => ∃ k : Nat, k ≤ l.length ∧ i = .int .i64 k ∧ ByO (w.heap.size + 1) W0 wr bv (1 + 4 * k) (mapsTo l k) ∧ Hid ((l.take k).all mOk = true)) (fun _ i _ => l.length - (intOf i).toNat)
  case atStart => exact ⟨0, Nat.zero_le _, rfl, O1, hid rfl⟩
  case round =>
    obtain ⟨k, hk, rfl, OK, HT⟩ := hrel
    have h0 := (OK.bel.cell (p := ⟨w.heap.size, 0, none⟩) (by simp)).trans k0
    have h1 := (OK.bel.cell (p := ⟨w.heap.size, 1, none⟩) (by simp)).trans k1
    have hqr : w.heap.size < wr.heap.size := by have := OK.base; omega
    by_cases hlt : k < l.length
    · have hs := mapsTo_succ hlt
      have ht := fun hm => all_take_succ hlt HT.out hm
      have hli : (k : Int) < (l.length : Int) := by omega
      obtain ⟨b, off, rfl, hb, hm0, hm1, hm2, hm3⟩ := HC.out k hlt
      have r0 := (OK.bel.cell (p := ⟨b, off + k * 4, none⟩) (by show b < w.heap.size + 1; omega)).trans hm0
      have r1 := (OK.bel.cell (p := ⟨b, off + k * 4 + 1, none⟩) (by show b < w.heap.size + 1; omega)).trans hm1
      have r2 := (OK.bel.cell (p := ⟨b, off + k * 4 + 2, none⟩) (by show b < w.heap.size + 1; omega)).trans hm2
      have r3 := (OK.bel.cell (p := ⟨b, off + k * 4 + 3, none⟩) (by show b < w.heap.size + 1; omega)).trans hm3
      have hq := fun (h : l.all mOk = true) => all_at hlt h
      clear hm0 hm1 hm2 hm3 e1 e2 O1
      have HS := hid hs
      have HTT := hid ht
      have HQ := hid hq
      clear hs ht hq
      generalize mpA l k = m at *
      obtain ⟨x0, x1, x2, x3⟩ := m
      dsimp only at r0 r1 r2 r3 HS
      have hb0 := HQ.out HALL.out
      have HM := hid (HTT.out hb0)
      simp only [mOk, mB, b8, List.all_cons, List.all_nil, Bool.and_true, Bool.and_eq_true, decide_eq_true_eq] at hb0
      obtain ⟨⟨a0, c0⟩, ⟨a1, c1⟩, ⟨a2, c2⟩, a3, c3⟩ := hb0
      have g0 : decide (x0 < 0) = false := decide_eq_false (by omega)
      have f0 : decide (255 < x0) = false := decide_eq_false (by omega)
      have e0 : IntKind.u8.wrap x0 = x0 := u8_same (by omega) (by omega)
      have d0 : x0 % 256 = x0 := by omega
      have g1 : decide (x1 < 0) = false := decide_eq_false (by omega)
      have f1 : decide (255 < x1) = false := decide_eq_false (by omega)
      have e1 : IntKind.u8.wrap x1 = x1 := u8_same (by omega) (by omega)
      have d1 : x1 % 256 = x1 := by omega
      have g2 : decide (x2 < 0) = false := decide_eq_false (by omega)
      have f2 : decide (255 < x2) = false := decide_eq_false (by omega)
      have e2 : IntKind.u8.wrap x2 = x2 := u8_same (by omega) (by omega)
      have d2 : x2 % 256 = x2 := by omega
      have g3 : decide (x3 < 0) = false := decide_eq_false (by omega)
      have f3 : decide (255 < x3) = false := decide_eq_false (by omega)
      have e3 : IntKind.u8.wrap x3 = x3 := u8_same (by omega) (by omega)
      have d3 : x3 % 256 = x3 := by omega
      have OA := (OK.alloc (.cells #[.int .i64 x0, .int .i64 x1, .int .i64 x2, .int .i64 x3] 48)).alloc (.cells #[.int .i64 x0, .int .i64 x1, .int .i64 x2, .int .i64 x3] 3)
      have LA : L4 ((wr.alloc (.cells #[.int .i64 x0, .int .i64 x1, .int .i64 x2, .int .i64 x3] 48)).alloc (.cells #[.int .i64 x0, .int .i64 x1, .int .i64 x2, .int .i64 x3] 3)) (wr.heap.size + 1) x0 x1 x2 x3 := ⟨by simp, by simp, by simp, by simp⟩
      have hgA : u4.ownBlock ≠ some (wr.heap.size + 1) := by intro e; have := (OK.own.lt _ e).2; omega
      go_wp2
      refine wp_loop_rounds 5 ?_
      rw [rounds_succ]
      go_wp2_with (at_builtin; refine app_b4 rfl (.tmp 64) (.tmp 70) rfl _ _ _ _ _ _ _ (by exact rfl) (by assumption) _ (by exact rfl) (by simp) (by omega) _ _ _ _ _ (by assumption) (by assumption) ?_; intro v1 w1 O1 LA hg1; obtain ⟨y0, y1, y2, y3⟩ := id LA)
      rw [rounds_succ]
      go_wp2_with (at_builtin; refine app_b4 rfl (.tmp 64) (.tmp 70) rfl _ _ _ _ _ _ _ (by exact rfl) (by assumption) _ (by exact rfl) (by simp) (by omega) _ _ _ _ _ (by assumption) (by assumption) ?_; intro v1 w1 O1 LA hg1; obtain ⟨y0, y1, y2, y3⟩ := id LA)
      rw [rounds_succ]
      go_wp2_with (at_builtin; refine app_b4 rfl (.tmp 64) (.tmp 70) rfl _ _ _ _ _ _ _ (by exact rfl) (by assumption) _ (by exact rfl) (by simp) (by omega) _ _ _ _ _ (by assumption) (by assumption) ?_; intro v1 w1 O1 LA hg1; obtain ⟨y0, y1, y2, y3⟩ := id LA)
      rw [rounds_succ]
      go_wp2_with (at_builtin; refine app_b4 rfl (.tmp 64) (.tmp 70) rfl _ _ _ _ _ _ _ (by exact rfl) (by assumption) _ (by exact rfl) (by simp) (by omega) _ _ _ _ _ (by assumption) (by assumption) ?_; intro v1 w1 O1 LA hg1; obtain ⟨y0, y1, y2, y3⟩ := id LA)
      rw [rounds_succ]
      go_wp2_with (at_builtin; refine app_b4 rfl (.tmp 64) (.tmp 70) rfl _ _ _ _ _ _ _ (by exact rfl) (by assumption) _ (by exact rfl) (by simp) (by omega) _ _ _ _ _ (by assumption) (by assumption) ?_; intro v1 w1 O1 LA hg1; obtain ⟨y0, y1, y2, y3⟩ := id LA)
      go_roundw
      case rel => exact ⟨k + 1, by omega, by go_num, by rw [HS.out]; assumption, HM⟩
      case measure => simp [intOf]; omega
    · obtain rfl : k = l.length := by omega
      clear hlt HT
      have e3 : IntKind.u8.wrap ((c.length : Int) % 256) = (c.length : Int) % 256 := by rw [IntKind.wrap_u8]; omega
      have e4 : IntKind.u8.wrap ((c.length : Int) / 256) = (c.length : Int) / 256 % 256 := IntKind.wrap_u8 _
      have e5 : Int.tmod (c.length : Int) 256 = (c.length : Int) % 256 := Int.tmod_eq_emod_of_nonneg (by omega)
      have e6 : Int.tdiv (c.length : Int) 256 = (c.length : Int) / 256 := Int.tdiv_eq_ediv_of_nonneg (by omega)
      rw [mapsTo_all] at OK
      clear e1 e2 O1
      go_wp2_with (at_builtin; refine app_b2 rfl (.tmp 72) (.tmp 83) rfl _ _ _ _ _ _ _ _ (by exact rfl) OK _ (by exact rfl) (by simp) (by omega) ?_; intro v2 w2 O2)
      have O2 : ByO (w.heap.size + 1) W0 w2 v2 (1 + 4 * l.length + 2 + 8 * 0) (codeTo (mapsB l) c 0) := by rw [codeTo_zero]; exact O2
      clear OK h0 h1
      go_loopw [4, 9] (fun bv i wr => ∃ k : Nat, k ≤ c.length ∧ i = .int .i64 k ∧ ByO (w.heap.size + 1) W0 wr bv (1 + 4 * l.length + 2 + 8 * k) (codeTo (mapsB l) c k) ∧ Hid ((c.take k).all iOk = true)) (fun _ i _ => c.length - (intOf i).toNat)
      case atStart => exact ⟨0, Nat.zero_le _, rfl, O2, hid rfl⟩
      case round =>
        obtain ⟨k, hk, rfl, OK, HT⟩ := hrel
        have h0 := (OK.bel.cell (p := ⟨w.heap.size, 0, none⟩) (by simp)).trans k0
        have h1 := (OK.bel.cell (p := ⟨w.heap.size, 1, none⟩) (by simp)).trans k1
        have hqr : w.heap.size < wr.heap.size := by have := OK.base; omega
        by_cases hlt : k < c.length
        · have HS := hid (codeTo_succ (zs := mapsB l) hlt)
          have HTT := hid (fun hm => iall_take_succ hlt HT.out hm)
          have hli : (k : Int) < (c.length : Int) := by omega
          obtain ⟨b, off, rfl, hb, hm0, hm1, hm2, hm3, hm4⟩ := HC5.out k hlt
          have r0 := (OK.bel.cell (p := ⟨b, off + k * 5, none⟩) (by show b < w.heap.size + 1; omega)).trans hm0
          have r1 := (OK.bel.cell (p := ⟨b, off + k * 5 + 1, none⟩) (by show b < w.heap.size + 1; omega)).trans hm1
          have r2 := (OK.bel.cell (p := ⟨b, off + k * 5 + 2, none⟩) (by show b < w.heap.size + 1; omega)).trans hm2
          have r3 := (OK.bel.cell (p := ⟨b, off + k * 5 + 3, none⟩) (by show b < w.heap.size + 1; omega)).trans hm3
          have r4 := (OK.bel.cell (p := ⟨b, off + k * 5 + 4, none⟩) (by show b < w.heap.size + 1; omega)).trans hm4
          have HQ := hid (fun (h : c.all iOk = true) => iall_at hlt h)
          have hxk := HOK.out k
          clear hm0 hm1 hm2 hm3 hm4 e3 e4 e5 e6
          generalize at5 c k = x at *
          have HX := hid hxk
          clear hxk
          cases hmk : iOk x
          · have HE := hid (fun W => rencode_X x HX.out hmk W)
            clear HQ HTT HS hmk
            obtain ⟨p0, p1, p2, p3, p4⟩ := x
            dsimp only at r0 r1 r2 r3 r4
            go_wp2_with fail
            refine (HE.out _).mono ?_
            rintro e w3 ⟨rfl, b2⟩
            have O3 := OK.kept b2
            clear b2
            go_wp2
            go_ret2
            exact ⟨rfl, hB.trans (O3.bel.mono (by omega))⟩
          · have HM := hid hmk
            have HMM := hid (HTT.out hmk)
            clear HQ HTT hmk
            have HE := hid (fun W => rencode_I x HX.out HM.out W)
            have HBY := hid (fun (W : World) (g : Nat) => enc_by (w' := W) (g := g) HX.out HM.out)
            generalize iB x = ys at *
            obtain ⟨p0, p1, p2, p3, p4⟩ := x
            dsimp only at r0 r1 r2 r3 r4
            go_wp2_with fail
            refine (HE.out _).mono ?_
            rintro e w3 ⟨g, rfl, b2, hg1, hg2, hblk⟩
            have O3 := OK.kept b2
            have L2 := HBY.out w3 g hg2 hblk
            clear b2 hblk
            go_wp2_with (at_builtin; refine app_bl rfl (.tmp 104) (.tmp 105) rfl _ _ _ _ _ _ _ (by exact rfl) O3 _ _ _ _ (by exact rfl) L2 (by omega) ?_; intro v3 w4 O4 _)
            go_roundw
            case rel => exact ⟨k + 1, by omega, by go_num, by rw [HS.out, show 1 + 4 * l.length + 2 + 8 * (k + 1) = 1 + 4 * l.length + 2 + 8 * k + 8 by omega]; exact O4, HMM⟩
            case measure => simp [intOf]; omega
        · exfalso
          obtain rfl : k = c.length := by omega
          have := HT.out
          rw [List.take_length, HALL5.out] at this
          exact absurd this (by decide)
set_option maxHeartbeats 6400000 in
theorem rEncode_ok (pm pc : Option Addr) (cm cc : Nat) (l : List M4) (c : List I5) (w : World) (hm : MpSl w.heap.size w pm l.length l) (hc : CdSl w.heap.size w pc c.length c) (h4 : l.length ≤ 4) (h5 : c.length ≤ 512) (hall : l.all mOk = true) (hall5 : c.all iOk = true) :
    Calls Try.prog 13 #[.agg #[.slice pm l.length cm, .slice pc c.length cc]] w fun e w' => ∃ v, e = .returned (.tuple #[v, .int .i64 0]) ∧ ByO w.heap.size w w' v (3 + 4 * l.length + 8 * c.length) (formB l c) := by
  have hB := (Below.refl w.heap.size w).alloc (Nat.le_refl _) (.cells #[.slice pm l.length cm, .slice pc c.length cc] 25)
  have hn1 : w.heap.size ≤ (w.alloc (.cells #[.slice pm l.length cm, .slice pc c.length cc] 25)).heap.size := by simp
  have HALL5 := hid hall5
  clear hall5
  have d1 : decide (4 < l.length) = false := decide_eq_false (by omega)
  have d2 : decide (4 < (l.length : Int)) = false := decide_eq_false (by omega)
  have d3 : decide (512 < c.length) = false := decide_eq_false (by omega)
  have d4 : decide (512 < (c.length : Int)) = false := decide_eq_false (by omega)
  have hq : (w.alloc (.cells #[.slice pm l.length cm, .slice pc c.length cc] 25)).heap.size = w.heap.size + 1 := by simp
  have k0 : (w.alloc (.cells #[.slice pm l.length cm, .slice pc c.length cc] 25)).cell? ⟨w.heap.size, 0, none⟩ = some (.slice pm l.length cm) := by simp
  have k1 : (w.alloc (.cells #[.slice pm l.length cm, .slice pc c.length cc] 25)).cell? ⟨w.heap.size, 1, none⟩ = some (.slice pc c.length cc) := by simp
  have hcell : ∀ k, k < l.length → ∃ b off, pm = some ⟨b, off, none⟩ ∧ b < w.heap.size ∧ MapAt (w.alloc (.cells #[.slice pm l.length cm, .slice pc c.length cc] 25)) b (off + k * 4) (mpA l k) := by
    intro k hk
    have hm1 := hm.kept hB (Nat.le_refl _)
    obtain ⟨b, off, e, hb, hc⟩ := hm1.2.2.resolve_left (by omega)
    exact ⟨b, off, e, hb, hc k hk⟩
  have HC := hid hcell
  have hcell5 : ∀ k, k < c.length → ∃ b off, pc = some ⟨b, off, none⟩ ∧ b < w.heap.size ∧ InsAt (w.alloc (.cells #[.slice pm l.length cm, .slice pc c.length cc] 25)) b (off + k * 5) (at5 c k) := by
    intro k hk
    have hm1 := hc.kept hB (Nat.le_refl _)
    obtain ⟨b, off, e, hb, hc⟩ := hm1.2.2.2.resolve_left (by omega)
    exact ⟨b, off, e, hb, hc k hk⟩
  have HC5 := hid hcell5
  have HOK := hid (fun k => at5_ok hc.2.1 k)
  have HALL := hid hall
  have e1 : IntKind.u8.wrap (l.length : Int) = l.length := u8_same (by omega) (by omega)
  have e2 : (l.length : Int) % 256 = l.length := by omega
  have O1 : ByO (w.heap.size + 1) (w.alloc (.cells #[.slice pm l.length cm, .slice pc c.length cc] 25)) ((w.alloc (.cells #[.slice pm l.length cm, .slice pc c.length cc] 25)).alloc (.cells #[.int .u8 l.length] 5)) (.slice (some ⟨w.heap.size + 1, 0, none⟩) 1 1) (1 + 4 * 0) (mapsTo l 0) := by
    have := ByO.lit (n₀ := w.heap.size + 1) [(l.length : Int)] 1 rfl (by decide) (Below.refl _ (w.alloc (.cells #[.slice pm l.length cm, .slice pc c.length cc] 25))) (by simp)
    rw [hq] at this
    exact this
  clear hm hc hcell hcell5 hall
  go_enter Try.func13, Try.ntmps13
  go_wp2
  generalize w.alloc (.cells #[.slice pm l.length cm, .slice pc c.length cc] 25) = W0 at *
  go_loopw [4, 5] (fun bv i wr => ∃ k : Nat, k ≤ l.length ∧ i = .int .i64 k ∧ ByO (w.heap.size + 1) W0 wr bv (1 + 4 * k) (mapsTo l k) ∧ Hid ((l.take k).all mOk = true)) (fun _ i _ => l.length - (intOf i).toNat)
  case atStart => exact ⟨0, Nat.zero_le _, rfl, O1, hid rfl⟩
  case round =>
    obtain ⟨k, hk, rfl, OK, HT⟩ := hrel
    have h0 := (OK.bel.cell (p := ⟨w.heap.size, 0, none⟩) (by simp)).trans k0
    have h1 := (OK.bel.cell (p := ⟨w.heap.size, 1, none⟩) (by simp)).trans k1
    have hqr : w.heap.size < wr.heap.size := by have := OK.base; omega
    by_cases hlt : k < l.length
    · have hs := mapsTo_succ hlt
      have ht := fun hm => all_take_succ hlt HT.out hm
      have hli : (k : Int) < (l.length : Int) := by omega
      obtain ⟨b, off, rfl, hb, hm0, hm1, hm2, hm3⟩ := HC.out k hlt
      have r0 := (OK.bel.cell (p := ⟨b, off + k * 4, none⟩) (by show b < w.heap.size + 1; omega)).trans hm0
      have r1 := (OK.bel.cell (p := ⟨b, off + k * 4 + 1, none⟩) (by show b < w.heap.size + 1; omega)).trans hm1
      have r2 := (OK.bel.cell (p := ⟨b, off + k * 4 + 2, none⟩) (by show b < w.heap.size + 1; omega)).trans hm2
      have r3 := (OK.bel.cell (p := ⟨b, off + k * 4 + 3, none⟩) (by show b < w.heap.size + 1; omega)).trans hm3
      have hq := fun (h : l.all mOk = true) => all_at hlt h
      clear hm0 hm1 hm2 hm3 e1 e2 O1
      have HS := hid hs
      have HTT := hid ht
      have HQ := hid hq
      clear hs ht hq
      generalize mpA l k = m at *
      obtain ⟨x0, x1, x2, x3⟩ := m
      dsimp only at r0 r1 r2 r3 HS
      have hb0 := HQ.out HALL.out
      have HM := hid (HTT.out hb0)
      simp only [mOk, mB, b8, List.all_cons, List.all_nil, Bool.and_true, Bool.and_eq_true, decide_eq_true_eq] at hb0
      obtain ⟨⟨a0, c0⟩, ⟨a1, c1⟩, ⟨a2, c2⟩, a3, c3⟩ := hb0
      have g0 : decide (x0 < 0) = false := decide_eq_false (by omega)
      have f0 : decide (255 < x0) = false := decide_eq_false (by omega)
      have e0 : IntKind.u8.wrap x0 = x0 := u8_same (by omega) (by omega)
      have d0 : x0 % 256 = x0 := by omega
      have g1 : decide (x1 < 0) = false := decide_eq_false (by omega)
      have f1 : decide (255 < x1) = false := decide_eq_false (by omega)
      have e1 : IntKind.u8.wrap x1 = x1 := u8_same (by omega) (by omega)
      have d1 : x1 % 256 = x1 := by omega
      have g2 : decide (x2 < 0) = false := decide_eq_false (by omega)
      have f2 : decide (255 < x2) = false := decide_eq_false (by omega)
      have e2 : IntKind.u8.wrap x2 = x2 := u8_same (by omega) (by omega)
      have d2 : x2 % 256 = x2 := by omega
      have g3 : decide (x3 < 0) = false := decide_eq_false (by omega)
      have f3 : decide (255 < x3) = false := decide_eq_false (by omega)
      have e3 : IntKind.u8.wrap x3 = x3 := u8_same (by omega) (by omega)
      have d3 : x3 % 256 = x3 := by omega
      have OA := (OK.alloc (.cells #[.int .i64 x0, .int .i64 x1, .int .i64 x2, .int .i64 x3] 48)).alloc (.cells #[.int .i64 x0, .int .i64 x1, .int .i64 x2, .int .i64 x3] 3)
      have LA : L4 ((wr.alloc (.cells #[.int .i64 x0, .int .i64 x1, .int .i64 x2, .int .i64 x3] 48)).alloc (.cells #[.int .i64 x0, .int .i64 x1, .int .i64 x2, .int .i64 x3] 3)) (wr.heap.size + 1) x0 x1 x2 x3 := ⟨by simp, by simp, by simp, by simp⟩
      have hgA : u4.ownBlock ≠ some (wr.heap.size + 1) := by intro e; have := (OK.own.lt _ e).2; omega
      go_wp2
      refine wp_loop_rounds 5 ?_
      rw [rounds_succ]
      go_wp2_with (at_builtin; refine app_b4 rfl (.tmp 64) (.tmp 70) rfl _ _ _ _ _ _ _ (by exact rfl) (by assumption) _ (by exact rfl) (by simp) (by omega) _ _ _ _ _ (by assumption) (by assumption) ?_; intro v1 w1 O1 LA hg1; obtain ⟨y0, y1, y2, y3⟩ := id LA)
      rw [rounds_succ]
      go_wp2_with (at_builtin; refine app_b4 rfl (.tmp 64) (.tmp 70) rfl _ _ _ _ _ _ _ (by exact rfl) (by assumption) _ (by exact rfl) (by simp) (by omega) _ _ _ _ _ (by assumption) (by assumption) ?_; intro v1 w1 O1 LA hg1; obtain ⟨y0, y1, y2, y3⟩ := id LA)
      rw [rounds_succ]
      go_wp2_with (at_builtin; refine app_b4 rfl (.tmp 64) (.tmp 70) rfl _ _ _ _ _ _ _ (by exact rfl) (by assumption) _ (by exact rfl) (by simp) (by omega) _ _ _ _ _ (by assumption) (by assumption) ?_; intro v1 w1 O1 LA hg1; obtain ⟨y0, y1, y2, y3⟩ := id LA)
      rw [rounds_succ]
      go_wp2_with (at_builtin; refine app_b4 rfl (.tmp 64) (.tmp 70) rfl _ _ _ _ _ _ _ (by exact rfl) (by assumption) _ (by exact rfl) (by simp) (by omega) _ _ _ _ _ (by assumption) (by assumption) ?_; intro v1 w1 O1 LA hg1; obtain ⟨y0, y1, y2, y3⟩ := id LA)
      rw [rounds_succ]
      go_wp2_with (at_builtin; refine app_b4 rfl (.tmp 64) (.tmp 70) rfl _ _ _ _ _ _ _ (by exact rfl) (by assumption) _ (by exact rfl) (by simp) (by omega) _ _ _ _ _ (by assumption) (by assumption) ?_; intro v1 w1 O1 LA hg1; obtain ⟨y0, y1, y2, y3⟩ := id LA)
      go_roundw
      case rel => exact ⟨k + 1, by omega, by go_num, by rw [HS.out]; assumption, HM⟩
      case measure => simp [intOf]; omega
    · obtain rfl : k = l.length := by omega
      clear hlt HT
      have e3 : IntKind.u8.wrap ((c.length : Int) % 256) = (c.length : Int) % 256 := by rw [IntKind.wrap_u8]; omega
      have e4 : IntKind.u8.wrap ((c.length : Int) / 256) = (c.length : Int) / 256 % 256 := IntKind.wrap_u8 _
      have e5 : Int.tmod (c.length : Int) 256 = (c.length : Int) % 256 := Int.tmod_eq_emod_of_nonneg (by omega)
      have e6 : Int.tdiv (c.length : Int) 256 = (c.length : Int) / 256 := Int.tdiv_eq_ediv_of_nonneg (by omega)
      rw [mapsTo_all] at OK
      clear e1 e2 O1
      go_wp2_with (at_builtin; refine app_b2 rfl (.tmp 72) (.tmp 83) rfl _ _ _ _ _ _ _ _ (by exact rfl) OK _ (by exact rfl) (by simp) (by omega) ?_; intro v2 w2 O2)
      have O2 : ByO (w.heap.size + 1) W0 w2 v2 (1 + 4 * l.length + 2 + 8 * 0) (codeTo (mapsB l) c 0) := by rw [codeTo_zero]; exact O2
      clear OK h0 h1
      go_loopw [4, 9] (fun bv i wr => ∃ k : Nat, k ≤ c.length ∧ i = .int .i64 k ∧ ByO (w.heap.size + 1) W0 wr bv (1 + 4 * l.length + 2 + 8 * k) (codeTo (mapsB l) c k) ∧ Hid ((c.take k).all iOk = true)) (fun _ i _ => c.length - (intOf i).toNat)
      case atStart => exact ⟨0, Nat.zero_le _, rfl, O2, hid rfl⟩
      case round =>
        obtain ⟨k, hk, rfl, OK, HT⟩ := hrel
        have h0 := (OK.bel.cell (p := ⟨w.heap.size, 0, none⟩) (by simp)).trans k0
        have h1 := (OK.bel.cell (p := ⟨w.heap.size, 1, none⟩) (by simp)).trans k1
        have hqr : w.heap.size < wr.heap.size := by have := OK.base; omega
        by_cases hlt : k < c.length
        · have HS := hid (codeTo_succ (zs := mapsB l) hlt)
          have HTT := hid (fun hm => iall_take_succ hlt HT.out hm)
          have hli : (k : Int) < (c.length : Int) := by omega
          obtain ⟨b, off, rfl, hb, hm0, hm1, hm2, hm3, hm4⟩ := HC5.out k hlt
          have r0 := (OK.bel.cell (p := ⟨b, off + k * 5, none⟩) (by show b < w.heap.size + 1; omega)).trans hm0
          have r1 := (OK.bel.cell (p := ⟨b, off + k * 5 + 1, none⟩) (by show b < w.heap.size + 1; omega)).trans hm1
          have r2 := (OK.bel.cell (p := ⟨b, off + k * 5 + 2, none⟩) (by show b < w.heap.size + 1; omega)).trans hm2
          have r3 := (OK.bel.cell (p := ⟨b, off + k * 5 + 3, none⟩) (by show b < w.heap.size + 1; omega)).trans hm3
          have r4 := (OK.bel.cell (p := ⟨b, off + k * 5 + 4, none⟩) (by show b < w.heap.size + 1; omega)).trans hm4
          have HQ := hid (fun (h : c.all iOk = true) => iall_at hlt h)
          have hxk := HOK.out k
          clear hm0 hm1 hm2 hm3 hm4 e3 e4 e5 e6
          generalize at5 c k = x at *
          have HX := hid hxk
          clear hxk
          have HM := hid (HQ.out HALL5.out)
          have HMM := hid (HTT.out HM.out)
          clear HQ HTT
          have HE := hid (fun W => rencode_I x HX.out HM.out W)
          have HBY := hid (fun (W : World) (g : Nat) => enc_by (w' := W) (g := g) HX.out HM.out)
          generalize iB x = ys at *
          obtain ⟨p0, p1, p2, p3, p4⟩ := x
          dsimp only at r0 r1 r2 r3 r4
          go_wp2_with fail
          refine (HE.out _).mono ?_
          rintro e w3 ⟨g, rfl, b2, hg1, hg2, hblk⟩
          have O3 := OK.kept b2
          have L2 := HBY.out w3 g hg2 hblk
          clear b2 hblk
          go_wp2_with (at_builtin; refine app_bl rfl (.tmp 104) (.tmp 105) rfl _ _ _ _ _ _ _ (by exact rfl) O3 _ _ _ _ (by exact rfl) L2 (by omega) ?_; intro v3 w4 O4 _)
          go_roundw
          case rel => exact ⟨k + 1, by omega, by go_num, by rw [HS.out, show 1 + 4 * l.length + 2 + 8 * (k + 1) = 1 + 4 * l.length + 2 + 8 * k + 8 by omega]; exact O4, HMM⟩
          case measure => simp [intOf]; omega
        · obtain rfl : k = c.length := by omega
          clear hlt
          rw [codeTo_all] at OK
          go_wp2
          go_ret2
          refine ⟨_, rfl, ?_, hB.trans (OK.bel.mono (by omega)), by have := OK.base; omega⟩
          have := own_mono OK.own (show w.heap.size ≤ w.heap.size + 1 by omega)
          rwa [show 1 + 4 * l.length + 2 + 8 * c.length = 3 + 4 * l.length + 8 * c.length by omega] at this
theorem rEncode_any (pm pc : Option Addr) (cm cc : Nat) (l : List M4) (c : List I5) (w : World) (hm : MpSl w.heap.size w pm l.length l) (hc : CdSl w.heap.size w pc c.length c) :
    Calls Try.prog 13 #[.agg #[.slice pm l.length cm, .slice pc c.length cc]] w (EnP w l c) := by
  by_cases h4 : 4 < l.length
  · have hE : encE l c = 3 := by unfold encE; rw [if_pos h4]
    exact (rEncode_l4 pm pc cm cc l c w hm hc h4).mono fun e w' ⟨he, hb⟩ => .inr ⟨by rw [hE]; decide, by rw [hE]; exact he, hb⟩
  by_cases h5 : 512 < c.length
  · have hE : encE l c = 3 := by unfold encE; rw [if_neg h4, if_pos h5]
    exact (rEncode_l5 pm pc cm cc l c w hm hc (by omega) h5).mono fun e w' ⟨he, hb⟩ => .inr ⟨by rw [hE]; decide, by rw [hE]; exact he, hb⟩
  cases ha : l.all mOk
  · have hE : encE l c = 26 := by unfold encE; rw [if_neg h4, if_neg h5, if_pos ha]
    exact (rEncode_no pm pc cm cc l c w hm hc (by omega) (by omega) ha).mono fun e w' ⟨he, hb⟩ => .inr ⟨by rw [hE]; decide, by rw [hE]; exact he, hb⟩
  cases hb : c.all iOk
  · have hE : encE l c = 21 := by unfold encE; rw [if_neg h4, if_neg h5, if_neg (by rw [ha]; decide), if_pos hb]
    exact (rEncode_cno pm pc cm cc l c w hm hc (by omega) (by omega) ha hb).mono fun e w' ⟨he, hb⟩ => .inr ⟨by rw [hE]; decide, by rw [hE]; exact he, hb⟩
  exact (rEncode_ok pm pc cm cc l c w hm hc (by omega) (by omega) ha hb).mono fun e w' h => .inl ⟨encE_mk (by omega) (by omega) ha hb, h⟩
end Go.Proofs.Ytolpgcoebmboeaa
