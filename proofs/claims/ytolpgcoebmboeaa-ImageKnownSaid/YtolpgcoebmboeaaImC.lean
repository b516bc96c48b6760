/-
  The code's putMaps, putCode and Encode.
-/
import Derived.Test.YtolpgcoebmboeaaImP
namespace Go.Proofs.Ytolpgcoebmboeaa
set_option linter.unusedSimpArgs false
set_option linter.unusedVariables false
open Go.ChangeShapes Go.WideShapes Go.ChangeAt Go.RowKit

/-- A list of bytes of the call's own. -/
structure ByO (n₀ : Nat) (w0 w : World) (v : Value) (n : Nat) (zs : List Int) : Prop where
  own : w.ownsRow n₀ 5 1 v n (bC zs)
  bel : Below n₀ w0 w
  base : n₀ ≤ w.heap.size
theorem ByO.nil {n₀ : Nat} {w0 w : World} (hb : Below n₀ w0 w) (hn : n₀ ≤ w.heap.size) : ByO n₀ w0 w (.slice none 0 0) 0 [] := ⟨World.ownsRow_nil _ _ _ _, hb, hn⟩
theorem ByO.alloc {n₀ : Nat} {w0 w : World} {v : Value} {n : Nat} {zs : List Int} (h : ByO n₀ w0 w v n zs) (o : Obj) : ByO n₀ w0 (w.alloc o) v n zs := ⟨h.own.alloc o, h.bel.alloc h.base o, by have := h.base; simp; omega⟩
theorem ByO.len {n₀ : Nat} {w0 w : World} {v : Value} {n : Nat} {zs : List Int} (h : ByO n₀ w0 w v n zs) : zs.length = n := by have := h.own.1; rw [bC_len, Nat.mul_one] at this; exact this
/-- A list of the call's own stands where only blocks behind are new. -/
theorem ByO.kept {n₀ : Nat} {w0 w w' : World} {v : Value} {n : Nat} {zs : List Int} (h : ByO n₀ w0 w v n zs) (hb : Below w.heap.size w w') : ByO n₀ w0 w' v n zs :=
  ⟨h.own.kept (row := none) ⟨hb.os, hb.tape, hb.output, hb.size, fun k hk _ => hb.block k hk⟩ (by
    rcases h.own.2 with ⟨rfl, _⟩ | ⟨g, cap, cur, rfl, _⟩
    · exact .inl rfl
    · exact .inr (by simp [Value.ownBlock])), h.bel.trans (hb.mono h.base), Nat.le_trans h.base hb.size⟩
theorem bC_app (a b : List Int) : bC (a ++ b) = bC a ++ bC b := by simp [bC]
/-- append(b, bytes of a fresh block ..) -/
theorem app_bn {ops : Array Oper} {rest : List Oper} {o : Oper} {a : Act} {Q : Exit → Act → World → Prop} (hgd : o.guard = none) (s x : Operand)
    (ho : o.op = .call { callee := .builtin .append, args := #[s, x], argTypes := #[29, 29] })
    (n₀ : Nat) (w0 w : World) (v : Value) (n : Nat) (zs ys : List Int) (hs : a.eval s = v) (hown : ByO n₀ w0 w v n zs) (cs : Array Value) (hcs : cs = (bC ys).toArray) (m c : Nat) (N : Nat) (hx : a.eval x = .slice (some ⟨N, 0, none⟩) m c) (hN : w.heap.size = N) (hm : ys.length = m) (hn : n + m < 140737488355328)
    (h : ∀ v' w', ByO n₀ w0 w' v' (n + m) (zs ++ ys) → wpList Try.prog ops Q rest (a.put o.dst v') w') : wpList Try.prog ops Q (o :: rest) a (w.alloc (.cells cs 5)) := by
  subst hcs
  refine app_own 29 5 1 1 (.int .u8 0) Try.underlying29 byteInfo rfl (by decide) hgd s x ho n₀ w0 _ v n (bC zs) hs (hown.own.alloc _) (hown.bel.alloc hown.base _) (by have := hown.base; simp; omega)
    _ _ m c (bC ys) (hN ▸ hx) (by rw [bC_len, hm]; omega) (src_arr w (bC ys) _) (bC_one ys) (by simp only [maxLen]; omega) (by omega) ?_
  intro v' w' h1 h2 h3 _
  exact h v' w' ⟨by rw [bC_app]; exact h1, h2, by have := hown.base; have := h3.size; simp at this; omega⟩
theorem app_b1 {ops : Array Oper} {rest : List Oper} {o : Oper} {a : Act} {Q : Exit → Act → World → Prop} (hgd : o.guard = none) (s x : Operand)
    (ho : o.op = .call { callee := .builtin .append, args := #[s, x], argTypes := #[29, 29] })
    (n₀ : Nat) (w0 w : World) (v : Value) (n : Nat) (zs : List Int) (z : Int) (hs : a.eval s = v) (hown : ByO n₀ w0 w v n zs) (N : Nat) (hx : a.eval x = .slice (some ⟨N, 0, none⟩) 1 1) (hN : w.heap.size = N) (hn : n + 1 < 140737488355328)
    (h : ∀ v' w', ByO n₀ w0 w' v' (n + 1) (zs ++ [z]) → wpList Try.prog ops Q rest (a.put o.dst v') w') : wpList Try.prog ops Q (o :: rest) a (w.alloc (.cells #[.int .u8 z] 5)) :=
  app_bn hgd s x ho n₀ w0 w v n zs [z] hs hown _ rfl 1 1 N hx hN rfl hn h
theorem app_b2 {ops : Array Oper} {rest : List Oper} {o : Oper} {a : Act} {Q : Exit → Act → World → Prop} (hgd : o.guard = none) (s x : Operand)
    (ho : o.op = .call { callee := .builtin .append, args := #[s, x], argTypes := #[29, 29] })
    (n₀ : Nat) (w0 w : World) (v : Value) (n : Nat) (zs : List Int) (z y : Int) (hs : a.eval s = v) (hown : ByO n₀ w0 w v n zs) (N : Nat) (hx : a.eval x = .slice (some ⟨N, 0, none⟩) 2 2) (hN : w.heap.size = N) (hn : n + 2 < 140737488355328)
    (h : ∀ v' w', ByO n₀ w0 w' v' (n + 2) (zs ++ [z, y]) → wpList Try.prog ops Q rest (a.put o.dst v') w') : wpList Try.prog ops Q (o :: rest) a (w.alloc (.cells #[.int .u8 z, .int .u8 y] 5)) :=
  app_bn hgd s x ho n₀ w0 w v n zs [z, y] hs hown _ rfl 2 2 N hx hN rfl hn h
/-- append(b, other..): bytes that lie in memory. -/
theorem app_bl {ops : Array Oper} {rest : List Oper} {o : Oper} {a : Act} {Q : Exit → Act → World → Prop} (hgd : o.guard = none) (s x : Operand)
    (ho : o.op = .call { callee := .builtin .append, args := #[s, x], argTypes := #[29, 29] })
    (n₀ : Nat) (w0 w : World) (v : Value) (n : Nat) (zs ys : List Int) (hs : a.eval s = v) (hown : ByO n₀ w0 w v n zs) (n₁ : Nat) (p : Option Addr) (m c : Nat) (hx : a.eval x = .slice p m c) (hp : ByL n₁ w p m ys) (hn : n + m < 140737488355328)
    (h : ∀ v' w', ByO n₀ w0 w' v' (n + m) (zs ++ ys) → w.grownBy w' v.ownBlock → wpList Try.prog ops Q rest (a.put o.dst v') w') : wpList Try.prog ops Q (o :: rest) a w := by
  refine app_own 29 5 1 1 (.int .u8 0) Try.underlying29 byteInfo rfl (by decide) hgd s x ho n₀ w0 _ v n (bC zs) hs hown.own hown.bel hown.base
    n₁ p m c (bC ys) hx (by rw [bC_len, hp.1]; omega) hp.src (bC_one ys) (by simp only [maxLen]; omega) (by omega) ?_
  intro v' w' h1 h2 h3 _
  exact h v' w' ⟨by rw [bC_app]; exact h1, h2, Nat.le_trans hown.base h3.size⟩ h3

/-- The maps' part, as far as the first k. -/
def mapsTo (l : List M4) (k : Nat) : List Int := (l.length : Int) :: (l.take k).flatMap mB
theorem mapsTo_succ {l : List M4} {k : Nat} (hk : k < l.length) : mapsTo l (k + 1) = mapsTo l k ++ [(mpA l k).kind] ++ [(mpA l k).key] ++ [(mpA l k).value] ++ [(mpA l k).cap] := by
  unfold mapsTo mpA
  rw [List.take_add_one, List.getElem?_eq_getElem hk, List.flatMap_append, List.getD_eq_getElem?_getD, List.getElem?_eq_getElem hk]
  simp [mB]
theorem mapsTo_all (l : List M4) : mapsTo l l.length = mapsB l := by unfold mapsTo mapsB; rw [List.take_length]
theorem all_take_succ {l : List M4} {k : Nat} (hk : k < l.length) (h : (l.take k).all mOk = true) (hm : mOk (mpA l k) = true) : (l.take (k + 1)).all mOk = true := by
  unfold mpA at hm
  rw [List.getD_eq_getElem?_getD, List.getElem?_eq_getElem hk] at hm
  rw [List.take_add_one, List.getElem?_eq_getElem hk, List.all_append, h]
  simpa using hm
theorem all_at {l : List M4} {k : Nat} (hk : k < l.length) (h : l.all mOk = true) : mOk (mpA l k) = true := by
  unfold mpA
  rw [List.getD_eq_getElem?_getD, List.getElem?_eq_getElem hk]
  exact List.all_eq_true.1 h _ (List.getElem_mem hk)
theorem u8_same {x : Int} (h0 : 0 ≤ x) (h1 : x ≤ 255) : IntKind.u8.wrap x = x := by rw [IntKind.wrap_u8]; omega
set_option maxHeartbeats 3200000 in
theorem putMaps_ok (pm : Option Addr) (cm : Nat) (l : List M4) (w : World) (hl4 : l.length ≤ 4) (hm : MpSl w.heap.size w pm l.length l) (hall : l.all mOk = true) :
    Calls Try.prog 19 #[.slice none 0 0, .slice pm l.length cm] w fun e w' => ∃ v, e = .returned (.tuple #[v, .int .i64 0]) ∧ ByO w.heap.size w w' v (1 + 4 * l.length) (mapsB l) := by
  have hcell : ∀ k, k < l.length → ∃ b off, pm = some ⟨b, off, none⟩ ∧ b < w.heap.size ∧ MapAt w b (off + k * 4) (mpA l k) := by
    intro k hk
    obtain ⟨b, off, e, hb, hc⟩ := hm.2.2.resolve_left (by omega)
    exact ⟨b, off, e, hb, hc k hk⟩
  have HC := hid hcell
  have HALL := hid hall
  have e1 : IntKind.u8.wrap (l.length : Int) = l.length := u8_same (by omega) (by omega)
  have e2 : (l.length : Int) % 256 = l.length := by omega
  have O0 : ByO w.heap.size w w (.slice none 0 0) 0 [] := ByO.nil (Below.refl _ _) (Nat.le_refl _)
  clear hcell hall hm
  go_enter Try.func19, Try.ntmps19
  go_wp2_with (at_builtin; refine app_b1 rfl (.tmp 10) (.tmp 14) rfl _ _ _ _ _ _ _ (by exact rfl) O0 _ (by exact rfl) (by simp) (by omega) ?_; intro v1 w1 O1)
  rw [List.nil_append, Nat.zero_add] at O1
  go_loopw [0, 18] (fun bv i wr => ∃ k : Nat, k ≤ l.length ∧ i = .int .i64 k ∧ ByO w.heap.size w wr bv (1 + 4 * k) (mapsTo l k) ∧ Hid ((l.take k).all mOk = true)) (fun _ i _ => l.length - (intOf i).toNat)
  case atStart => exact ⟨0, Nat.zero_le _, rfl, O1, hid rfl⟩
  case round =>
    obtain ⟨k, hk, rfl, OK, HT⟩ := hrel
    by_cases hlt : k < l.length
    · have hs := mapsTo_succ hlt
      have ht := fun hm => all_take_succ hlt HT.out hm
      have hli : (k : Int) < (l.length : Int) := by omega
      obtain ⟨b, off, rfl, hb, hm0, hm1, hm2, hm3⟩ := HC.out k hlt
      have r0 := (OK.bel.cell (p := ⟨b, off + k * 4, none⟩) hb).trans hm0
      have r1 := (OK.bel.cell (p := ⟨b, off + k * 4 + 1, none⟩) hb).trans hm1
      have r2 := (OK.bel.cell (p := ⟨b, off + k * 4 + 2, none⟩) hb).trans hm2
      have r3 := (OK.bel.cell (p := ⟨b, off + k * 4 + 3, none⟩) hb).trans hm3
      have hq := fun (h : l.all mOk = true) => all_at hlt h
      clear hm0 hm1 hm2 hm3 e1 e2 O0
      have HS := hid hs
      have HTT := hid ht
      have HQ := hid hq
      clear hs ht hq
      generalize mpA l k = m at *
      obtain ⟨x0, x1, x2, x3⟩ := m
      dsimp only at r0 r1 r2 r3 HS
      have hb0 := HQ.out HALL.out
      have HM := hid (HTT.out hb0)
      simp only [mOk, mB, b8, List.all_cons, List.all_nil, Bool.and_true, Bool.and_eq_true, decide_eq_true_eq] at hb0
      obtain ⟨⟨a0, c0⟩, ⟨a1, c1⟩, ⟨a2, c2⟩, a3, c3⟩ := hb0
      have hb0 : True := trivial
      have g0 : decide (x0 < 0) = false := decide_eq_false (by omega)
      have f0 : decide (255 < x0) = false := decide_eq_false (by omega)
      have e0 : IntKind.u8.wrap x0 = x0 := u8_same (by omega) (by omega)
      have d0 : x0 % 256 = x0 := by omega
      have g1 : decide (x1 < 0) = false := decide_eq_false (by omega)
      have f1 : decide (255 < x1) = false := decide_eq_false (by omega)
      have e1 : IntKind.u8.wrap x1 = x1 := u8_same (by omega) (by omega)
      have d1 : x1 % 256 = x1 := by omega
      have g2 : decide (x2 < 0) = false := decide_eq_false (by omega)
      have f2 : decide (255 < x2) = false := decide_eq_false (by omega)
      have e2 : IntKind.u8.wrap x2 = x2 := u8_same (by omega) (by omega)
      have d2 : x2 % 256 = x2 := by omega
      have g3 : decide (x3 < 0) = false := decide_eq_false (by omega)
      have f3 : decide (255 < x3) = false := decide_eq_false (by omega)
      have e3 : IntKind.u8.wrap x3 = x3 := u8_same (by omega) (by omega)
      have d3 : x3 % 256 = x3 := by omega
      clear hb0
      have OA := OK.alloc (.cells #[.int .i64 x0, .int .i64 x1, .int .i64 x2, .int .i64 x3] 48)
      have i0 : ∀ W, (Instr.index 62 (.agg #[.int .i64 x0, .int .i64 x1, .int .i64 x2, .int .i64 x3]) (.int .i64 0)).run Try.prog W = .ok (.int .i64 x0) W := by intro W; kernel_rfl
      have i1 : ∀ W, (Instr.index 62 (.agg #[.int .i64 x0, .int .i64 x1, .int .i64 x2, .int .i64 x3]) (.int .i64 1)).run Try.prog W = .ok (.int .i64 x1) W := by intro W; kernel_rfl
      have i2 : ∀ W, (Instr.index 62 (.agg #[.int .i64 x0, .int .i64 x1, .int .i64 x2, .int .i64 x3]) (.int .i64 2)).run Try.prog W = .ok (.int .i64 x2) W := by intro W; kernel_rfl
      have i3 : ∀ W, (Instr.index 62 (.agg #[.int .i64 x0, .int .i64 x1, .int .i64 x2, .int .i64 x3]) (.int .i64 3)).run Try.prog W = .ok (.int .i64 x3) W := by intro W; kernel_rfl
      go_wp2
      refine wp_loop_rounds 5 ?_
      rw [rounds_succ]
      go_wp2_with (at_builtin; refine app_b1 rfl (.tmp 40) (.tmp 43) rfl _ _ _ _ _ _ _ (by exact rfl) (by assumption) _ (by exact rfl) (by simp) (by omega) ?_; intro v1 w1 O1)
      rw [rounds_succ]
      go_wp2_with (at_builtin; refine app_b1 rfl (.tmp 40) (.tmp 43) rfl _ _ _ _ _ _ _ (by exact rfl) (by assumption) _ (by exact rfl) (by simp) (by omega) ?_; intro v1 w1 O1)
      rw [rounds_succ]
      go_wp2_with (at_builtin; refine app_b1 rfl (.tmp 40) (.tmp 43) rfl _ _ _ _ _ _ _ (by exact rfl) (by assumption) _ (by exact rfl) (by simp) (by omega) ?_; intro v1 w1 O1)
      rw [rounds_succ]
      go_wp2_with (at_builtin; refine app_b1 rfl (.tmp 40) (.tmp 43) rfl _ _ _ _ _ _ _ (by exact rfl) (by assumption) _ (by exact rfl) (by simp) (by omega) ?_; intro v1 w1 O1)
      rw [rounds_succ]
      go_wp2_with (at_builtin; refine app_b1 rfl (.tmp 40) (.tmp 43) rfl _ _ _ _ _ _ _ (by exact rfl) (by assumption) _ (by exact rfl) (by simp) (by omega) ?_; intro v1 w1 O1)
      go_roundw
      case rel => exact ⟨k + 1, by omega, by go_num, by rw [HS.out]; assumption, HM⟩
      case measure => simp [intOf]; omega
    · obtain rfl : k = l.length := by omega
      clear hlt
      rw [mapsTo_all] at OK
      go_wp2
      go_ret2
      exact ⟨_, rfl, OK⟩
set_option maxHeartbeats 3200000 in
theorem putMaps_no (pm : Option Addr) (cm : Nat) (l : List M4) (w : World) (hl4 : l.length ≤ 4) (hm : MpSl w.heap.size w pm l.length l) (hall : l.all mOk = false) :
    Calls Try.prog 19 #[.slice none 0 0, .slice pm l.length cm] w fun e w' => e = .returned (.tuple #[.slice none 0 0, .int .i64 26]) ∧ Below w.heap.size w w' := by
  have hcell : ∀ k, k < l.length → ∃ b off, pm = some ⟨b, off, none⟩ ∧ b < w.heap.size ∧ MapAt w b (off + k * 4) (mpA l k) := by
    intro k hk
    obtain ⟨b, off, e, hb, hc⟩ := hm.2.2.resolve_left (by omega)
    exact ⟨b, off, e, hb, hc k hk⟩
  have HC := hid hcell
  have HALL := hid hall
  have e1 : IntKind.u8.wrap (l.length : Int) = l.length := u8_same (by omega) (by omega)
  have e2 : (l.length : Int) % 256 = l.length := by omega
  have O0 : ByO w.heap.size w w (.slice none 0 0) 0 [] := ByO.nil (Below.refl _ _) (Nat.le_refl _)
  clear hcell hall hm
  go_enter Try.func19, Try.ntmps19
  go_wp2_with (at_builtin; refine app_b1 rfl (.tmp 10) (.tmp 14) rfl _ _ _ _ _ _ _ (by exact rfl) O0 _ (by exact rfl) (by simp) (by omega) ?_; intro v1 w1 O1)
  rw [List.nil_append, Nat.zero_add] at O1
  go_loopw [0, 18] (fun bv i wr => ∃ k : Nat, k ≤ l.length ∧ i = .int .i64 k ∧ ByO w.heap.size w wr bv (1 + 4 * k) (mapsTo l k) ∧ Hid ((l.take k).all mOk = true)) (fun _ i _ => l.length - (intOf i).toNat)
  case atStart => exact ⟨0, Nat.zero_le _, rfl, O1, hid rfl⟩
  case round =>
    obtain ⟨k, hk, rfl, OK, HT⟩ := hrel
    by_cases hlt : k < l.length
    · have hs := mapsTo_succ hlt
      have ht := fun hm => all_take_succ hlt HT.out hm
      have hli : (k : Int) < (l.length : Int) := by omega
      obtain ⟨b, off, rfl, hb, hm0, hm1, hm2, hm3⟩ := HC.out k hlt
      have r0 := (OK.bel.cell (p := ⟨b, off + k * 4, none⟩) hb).trans hm0
      have r1 := (OK.bel.cell (p := ⟨b, off + k * 4 + 1, none⟩) hb).trans hm1
      have r2 := (OK.bel.cell (p := ⟨b, off + k * 4 + 2, none⟩) hb).trans hm2
      have r3 := (OK.bel.cell (p := ⟨b, off + k * 4 + 3, none⟩) hb).trans hm3
      have hq := fun (h : l.all mOk = true) => all_at hlt h
      clear hm0 hm1 hm2 hm3 e1 e2 O0
      have HS := hid hs
      have HTT := hid ht
      have HQ := hid hq
      clear hs ht hq
      generalize mpA l k = m at *
      obtain ⟨x0, x1, x2, x3⟩ := m
      dsimp only at r0 r1 r2 r3 HS
      cases hmk : mOk ⟨x0, x1, x2, x3⟩
      · simp only [mOk, mB, b8, List.all_cons, List.all_nil, Bool.and_true] at hmk
        clear HTT HQ HS
        by_cases h0 : 0 ≤ x0 ∧ x0 ≤ 255
        rotate_left
        · by_cases b0 : x0 < 0
          · have hb0 : True := trivial
            have g0 : decide (x0 < 0) = true := decide_eq_true (by omega)
            clear hb0
            have OA := OK.alloc (.cells #[.int .i64 x0, .int .i64 x1, .int .i64 x2, .int .i64 x3] 48)
            have i0 : ∀ W, (Instr.index 62 (.agg #[.int .i64 x0, .int .i64 x1, .int .i64 x2, .int .i64 x3]) (.int .i64 0)).run Try.prog W = .ok (.int .i64 x0) W := by intro W; kernel_rfl
            have i1 : ∀ W, (Instr.index 62 (.agg #[.int .i64 x0, .int .i64 x1, .int .i64 x2, .int .i64 x3]) (.int .i64 1)).run Try.prog W = .ok (.int .i64 x1) W := by intro W; kernel_rfl
            have i2 : ∀ W, (Instr.index 62 (.agg #[.int .i64 x0, .int .i64 x1, .int .i64 x2, .int .i64 x3]) (.int .i64 2)).run Try.prog W = .ok (.int .i64 x2) W := by intro W; kernel_rfl
            have i3 : ∀ W, (Instr.index 62 (.agg #[.int .i64 x0, .int .i64 x1, .int .i64 x2, .int .i64 x3]) (.int .i64 3)).run Try.prog W = .ok (.int .i64 x3) W := by intro W; kernel_rfl
            go_wp2
            refine wp_loop_rounds 1 ?_
            rw [rounds_succ]
            go_wp2_with (at_builtin; refine app_b1 rfl (.tmp 40) (.tmp 43) rfl _ _ _ _ _ _ _ (by exact rfl) (by assumption) _ (by exact rfl) (by simp) (by omega) ?_; intro v1 w1 O1)
            go_ret2
            exact ⟨rfl, (by assumption : ByO _ _ _ _ _ _).bel⟩
          · have hb0 : True := trivial
            have c0 : 255 < x0 := by omega
            have g0 : decide (x0 < 0) = false := decide_eq_false (by omega)
            have f0 : decide (255 < x0) = true := decide_eq_true (by omega)
            clear hb0
            have OA := OK.alloc (.cells #[.int .i64 x0, .int .i64 x1, .int .i64 x2, .int .i64 x3] 48)
            have i0 : ∀ W, (Instr.index 62 (.agg #[.int .i64 x0, .int .i64 x1, .int .i64 x2, .int .i64 x3]) (.int .i64 0)).run Try.prog W = .ok (.int .i64 x0) W := by intro W; kernel_rfl
            have i1 : ∀ W, (Instr.index 62 (.agg #[.int .i64 x0, .int .i64 x1, .int .i64 x2, .int .i64 x3]) (.int .i64 1)).run Try.prog W = .ok (.int .i64 x1) W := by intro W; kernel_rfl
            have i2 : ∀ W, (Instr.index 62 (.agg #[.int .i64 x0, .int .i64 x1, .int .i64 x2, .int .i64 x3]) (.int .i64 2)).run Try.prog W = .ok (.int .i64 x2) W := by intro W; kernel_rfl
            have i3 : ∀ W, (Instr.index 62 (.agg #[.int .i64 x0, .int .i64 x1, .int .i64 x2, .int .i64 x3]) (.int .i64 3)).run Try.prog W = .ok (.int .i64 x3) W := by intro W; kernel_rfl
            go_wp2
            refine wp_loop_rounds 1 ?_
            rw [rounds_succ]
            go_wp2_with (at_builtin; refine app_b1 rfl (.tmp 40) (.tmp 43) rfl _ _ _ _ _ _ _ (by exact rfl) (by assumption) _ (by exact rfl) (by simp) (by omega) ?_; intro v1 w1 O1)
            go_ret2
            exact ⟨rfl, (by assumption : ByO _ _ _ _ _ _).bel⟩
        obtain ⟨a0, c0⟩ := h0
        by_cases h1 : 0 ≤ x1 ∧ x1 ≤ 255
        rotate_left
        · by_cases b1 : x1 < 0
          · have hb0 : True := trivial
            have g0 : decide (x0 < 0) = false := decide_eq_false (by omega)
            have f0 : decide (255 < x0) = false := decide_eq_false (by omega)
            have e0 : IntKind.u8.wrap x0 = x0 := u8_same (by omega) (by omega)
            have d0 : x0 % 256 = x0 := by omega
            have g1 : decide (x1 < 0) = true := decide_eq_true (by omega)
            clear hb0
            have OA := OK.alloc (.cells #[.int .i64 x0, .int .i64 x1, .int .i64 x2, .int .i64 x3] 48)
            have i0 : ∀ W, (Instr.index 62 (.agg #[.int .i64 x0, .int .i64 x1, .int .i64 x2, .int .i64 x3]) (.int .i64 0)).run Try.prog W = .ok (.int .i64 x0) W := by intro W; kernel_rfl
            have i1 : ∀ W, (Instr.index 62 (.agg #[.int .i64 x0, .int .i64 x1, .int .i64 x2, .int .i64 x3]) (.int .i64 1)).run Try.prog W = .ok (.int .i64 x1) W := by intro W; kernel_rfl
            have i2 : ∀ W, (Instr.index 62 (.agg #[.int .i64 x0, .int .i64 x1, .int .i64 x2, .int .i64 x3]) (.int .i64 2)).run Try.prog W = .ok (.int .i64 x2) W := by intro W; kernel_rfl
            have i3 : ∀ W, (Instr.index 62 (.agg #[.int .i64 x0, .int .i64 x1, .int .i64 x2, .int .i64 x3]) (.int .i64 3)).run Try.prog W = .ok (.int .i64 x3) W := by intro W; kernel_rfl
            go_wp2
            refine wp_loop_rounds 2 ?_
            rw [rounds_succ]
            go_wp2_with (at_builtin; refine app_b1 rfl (.tmp 40) (.tmp 43) rfl _ _ _ _ _ _ _ (by exact rfl) (by assumption) _ (by exact rfl) (by simp) (by omega) ?_; intro v1 w1 O1)
            rw [rounds_succ]
            go_wp2_with (at_builtin; refine app_b1 rfl (.tmp 40) (.tmp 43) rfl _ _ _ _ _ _ _ (by exact rfl) (by assumption) _ (by exact rfl) (by simp) (by omega) ?_; intro v1 w1 O1)
            go_ret2
            exact ⟨rfl, (by assumption : ByO _ _ _ _ _ _).bel⟩
          · have hb0 : True := trivial
            have c1 : 255 < x1 := by omega
            have g0 : decide (x0 < 0) = false := decide_eq_false (by omega)
            have f0 : decide (255 < x0) = false := decide_eq_false (by omega)
            have e0 : IntKind.u8.wrap x0 = x0 := u8_same (by omega) (by omega)
            have d0 : x0 % 256 = x0 := by omega
            have g1 : decide (x1 < 0) = false := decide_eq_false (by omega)
            have f1 : decide (255 < x1) = true := decide_eq_true (by omega)
            clear hb0
            have OA := OK.alloc (.cells #[.int .i64 x0, .int .i64 x1, .int .i64 x2, .int .i64 x3] 48)
            have i0 : ∀ W, (Instr.index 62 (.agg #[.int .i64 x0, .int .i64 x1, .int .i64 x2, .int .i64 x3]) (.int .i64 0)).run Try.prog W = .ok (.int .i64 x0) W := by intro W; kernel_rfl
            have i1 : ∀ W, (Instr.index 62 (.agg #[.int .i64 x0, .int .i64 x1, .int .i64 x2, .int .i64 x3]) (.int .i64 1)).run Try.prog W = .ok (.int .i64 x1) W := by intro W; kernel_rfl
            have i2 : ∀ W, (Instr.index 62 (.agg #[.int .i64 x0, .int .i64 x1, .int .i64 x2, .int .i64 x3]) (.int .i64 2)).run Try.prog W = .ok (.int .i64 x2) W := by intro W; kernel_rfl
            have i3 : ∀ W, (Instr.index 62 (.agg #[.int .i64 x0, .int .i64 x1, .int .i64 x2, .int .i64 x3]) (.int .i64 3)).run Try.prog W = .ok (.int .i64 x3) W := by intro W; kernel_rfl
            go_wp2
            refine wp_loop_rounds 2 ?_
            rw [rounds_succ]
            go_wp2_with (at_builtin; refine app_b1 rfl (.tmp 40) (.tmp 43) rfl _ _ _ _ _ _ _ (by exact rfl) (by assumption) _ (by exact rfl) (by simp) (by omega) ?_; intro v1 w1 O1)
            rw [rounds_succ]
            go_wp2_with (at_builtin; refine app_b1 rfl (.tmp 40) (.tmp 43) rfl _ _ _ _ _ _ _ (by exact rfl) (by assumption) _ (by exact rfl) (by simp) (by omega) ?_; intro v1 w1 O1)
            go_ret2
            exact ⟨rfl, (by assumption : ByO _ _ _ _ _ _).bel⟩
        obtain ⟨a1, c1⟩ := h1
        by_cases h2 : 0 ≤ x2 ∧ x2 ≤ 255
        rotate_left
        · by_cases b2 : x2 < 0
          · have hb0 : True := trivial
            have g0 : decide (x0 < 0) = false := decide_eq_false (by omega)
            have f0 : decide (255 < x0) = false := decide_eq_false (by omega)
            have e0 : IntKind.u8.wrap x0 = x0 := u8_same (by omega) (by omega)
            have d0 : x0 % 256 = x0 := by omega
            have g1 : decide (x1 < 0) = false := decide_eq_false (by omega)
            have f1 : decide (255 < x1) = false := decide_eq_false (by omega)
            have e1 : IntKind.u8.wrap x1 = x1 := u8_same (by omega) (by omega)
            have d1 : x1 % 256 = x1 := by omega
            have g2 : decide (x2 < 0) = true := decide_eq_true (by omega)
            clear hb0
            have OA := OK.alloc (.cells #[.int .i64 x0, .int .i64 x1, .int .i64 x2, .int .i64 x3] 48)
            have i0 : ∀ W, (Instr.index 62 (.agg #[.int .i64 x0, .int .i64 x1, .int .i64 x2, .int .i64 x3]) (.int .i64 0)).run Try.prog W = .ok (.int .i64 x0) W := by intro W; kernel_rfl
            have i1 : ∀ W, (Instr.index 62 (.agg #[.int .i64 x0, .int .i64 x1, .int .i64 x2, .int .i64 x3]) (.int .i64 1)).run Try.prog W = .ok (.int .i64 x1) W := by intro W; kernel_rfl
            have i2 : ∀ W, (Instr.index 62 (.agg #[.int .i64 x0, .int .i64 x1, .int .i64 x2, .int .i64 x3]) (.int .i64 2)).run Try.prog W = .ok (.int .i64 x2) W := by intro W; kernel_rfl
            have i3 : ∀ W, (Instr.index 62 (.agg #[.int .i64 x0, .int .i64 x1, .int .i64 x2, .int .i64 x3]) (.int .i64 3)).run Try.prog W = .ok (.int .i64 x3) W := by intro W; kernel_rfl
            go_wp2
            refine wp_loop_rounds 3 ?_
            rw [rounds_succ]
            go_wp2_with (at_builtin; refine app_b1 rfl (.tmp 40) (.tmp 43) rfl _ _ _ _ _ _ _ (by exact rfl) (by assumption) _ (by exact rfl) (by simp) (by omega) ?_; intro v1 w1 O1)
            rw [rounds_succ]
            go_wp2_with (at_builtin; refine app_b1 rfl (.tmp 40) (.tmp 43) rfl _ _ _ _ _ _ _ (by exact rfl) (by assumption) _ (by exact rfl) (by simp) (by omega) ?_; intro v1 w1 O1)
            rw [rounds_succ]
            go_wp2_with (at_builtin; refine app_b1 rfl (.tmp 40) (.tmp 43) rfl _ _ _ _ _ _ _ (by exact rfl) (by assumption) _ (by exact rfl) (by simp) (by omega) ?_; intro v1 w1 O1)
            go_ret2
            exact ⟨rfl, (by assumption : ByO _ _ _ _ _ _).bel⟩
          · have hb0 : True := trivial
            have c2 : 255 < x2 := by omega
            have g0 : decide (x0 < 0) = false := decide_eq_false (by omega)
            have f0 : decide (255 < x0) = false := decide_eq_false (by omega)
            have e0 : IntKind.u8.wrap x0 = x0 := u8_same (by omega) (by omega)
            have d0 : x0 % 256 = x0 := by omega
            have g1 : decide (x1 < 0) = false := decide_eq_false (by omega)
            have f1 : decide (255 < x1) = false := decide_eq_false (by omega)
            have e1 : IntKind.u8.wrap x1 = x1 := u8_same (by omega) (by omega)
            have d1 : x1 % 256 = x1 := by omega
            have g2 : decide (x2 < 0) = false := decide_eq_false (by omega)
            have f2 : decide (255 < x2) = true := decide_eq_true (by omega)
            clear hb0
            have OA := OK.alloc (.cells #[.int .i64 x0, .int .i64 x1, .int .i64 x2, .int .i64 x3] 48)
            have i0 : ∀ W, (Instr.index 62 (.agg #[.int .i64 x0, .int .i64 x1, .int .i64 x2, .int .i64 x3]) (.int .i64 0)).run Try.prog W = .ok (.int .i64 x0) W := by intro W; kernel_rfl
            have i1 : ∀ W, (Instr.index 62 (.agg #[.int .i64 x0, .int .i64 x1, .int .i64 x2, .int .i64 x3]) (.int .i64 1)).run Try.prog W = .ok (.int .i64 x1) W := by intro W; kernel_rfl
            have i2 : ∀ W, (Instr.index 62 (.agg #[.int .i64 x0, .int .i64 x1, .int .i64 x2, .int .i64 x3]) (.int .i64 2)).run Try.prog W = .ok (.int .i64 x2) W := by intro W; kernel_rfl
            have i3 : ∀ W, (Instr.index 62 (.agg #[.int .i64 x0, .int .i64 x1, .int .i64 x2, .int .i64 x3]) (.int .i64 3)).run Try.prog W = .ok (.int .i64 x3) W := by intro W; kernel_rfl
            go_wp2
            refine wp_loop_rounds 3 ?_
            rw [rounds_succ]
            go_wp2_with (at_builtin; refine app_b1 rfl (.tmp 40) (.tmp 43) rfl _ _ _ _ _ _ _ (by exact rfl) (by assumption) _ (by exact rfl) (by simp) (by omega) ?_; intro v1 w1 O1)
            rw [rounds_succ]
            go_wp2_with (at_builtin; refine app_b1 rfl (.tmp 40) (.tmp 43) rfl _ _ _ _ _ _ _ (by exact rfl) (by assumption) _ (by exact rfl) (by simp) (by omega) ?_; intro v1 w1 O1)
            rw [rounds_succ]
            go_wp2_with (at_builtin; refine app_b1 rfl (.tmp 40) (.tmp 43) rfl _ _ _ _ _ _ _ (by exact rfl) (by assumption) _ (by exact rfl) (by simp) (by omega) ?_; intro v1 w1 O1)
            go_ret2
            exact ⟨rfl, (by assumption : ByO _ _ _ _ _ _).bel⟩
        obtain ⟨a2, c2⟩ := h2
        by_cases h3 : 0 ≤ x3 ∧ x3 ≤ 255
        rotate_left
        · by_cases b3 : x3 < 0
          · have hb0 : True := trivial
            have g0 : decide (x0 < 0) = false := decide_eq_false (by omega)
            have f0 : decide (255 < x0) = false := decide_eq_false (by omega)
            have e0 : IntKind.u8.wrap x0 = x0 := u8_same (by omega) (by omega)
            have d0 : x0 % 256 = x0 := by omega
            have g1 : decide (x1 < 0) = false := decide_eq_false (by omega)
            have f1 : decide (255 < x1) = false := decide_eq_false (by omega)
            have e1 : IntKind.u8.wrap x1 = x1 := u8_same (by omega) (by omega)
            have d1 : x1 % 256 = x1 := by omega
            have g2 : decide (x2 < 0) = false := decide_eq_false (by omega)
            have f2 : decide (255 < x2) = false := decide_eq_false (by omega)
            have e2 : IntKind.u8.wrap x2 = x2 := u8_same (by omega) (by omega)
            have d2 : x2 % 256 = x2 := by omega
            have g3 : decide (x3 < 0) = true := decide_eq_true (by omega)
            clear hb0
            have OA := OK.alloc (.cells #[.int .i64 x0, .int .i64 x1, .int .i64 x2, .int .i64 x3] 48)
            have i0 : ∀ W, (Instr.index 62 (.agg #[.int .i64 x0, .int .i64 x1, .int .i64 x2, .int .i64 x3]) (.int .i64 0)).run Try.prog W = .ok (.int .i64 x0) W := by intro W; kernel_rfl
            have i1 : ∀ W, (Instr.index 62 (.agg #[.int .i64 x0, .int .i64 x1, .int .i64 x2, .int .i64 x3]) (.int .i64 1)).run Try.prog W = .ok (.int .i64 x1) W := by intro W; kernel_rfl
            have i2 : ∀ W, (Instr.index 62 (.agg #[.int .i64 x0, .int .i64 x1, .int .i64 x2, .int .i64 x3]) (.int .i64 2)).run Try.prog W = .ok (.int .i64 x2) W := by intro W; kernel_rfl
            have i3 : ∀ W, (Instr.index 62 (.agg #[.int .i64 x0, .int .i64 x1, .int .i64 x2, .int .i64 x3]) (.int .i64 3)).run Try.prog W = .ok (.int .i64 x3) W := by intro W; kernel_rfl
            go_wp2
            refine wp_loop_rounds 4 ?_
            rw [rounds_succ]
            go_wp2_with (at_builtin; refine app_b1 rfl (.tmp 40) (.tmp 43) rfl _ _ _ _ _ _ _ (by exact rfl) (by assumption) _ (by exact rfl) (by simp) (by omega) ?_; intro v1 w1 O1)
            rw [rounds_succ]
            go_wp2_with (at_builtin; refine app_b1 rfl (.tmp 40) (.tmp 43) rfl _ _ _ _ _ _ _ (by exact rfl) (by assumption) _ (by exact rfl) (by simp) (by omega) ?_; intro v1 w1 O1)
            rw [rounds_succ]
            go_wp2_with (at_builtin; refine app_b1 rfl (.tmp 40) (.tmp 43) rfl _ _ _ _ _ _ _ (by exact rfl) (by assumption) _ (by exact rfl) (by simp) (by omega) ?_; intro v1 w1 O1)
            rw [rounds_succ]
            go_wp2_with (at_builtin; refine app_b1 rfl (.tmp 40) (.tmp 43) rfl _ _ _ _ _ _ _ (by exact rfl) (by assumption) _ (by exact rfl) (by simp) (by omega) ?_; intro v1 w1 O1)
            go_ret2
            exact ⟨rfl, (by assumption : ByO _ _ _ _ _ _).bel⟩
          · have hb0 : True := trivial
            have c3 : 255 < x3 := by omega
            have g0 : decide (x0 < 0) = false := decide_eq_false (by omega)
            have f0 : decide (255 < x0) = false := decide_eq_false (by omega)
            have e0 : IntKind.u8.wrap x0 = x0 := u8_same (by omega) (by omega)
            have d0 : x0 % 256 = x0 := by omega
            have g1 : decide (x1 < 0) = false := decide_eq_false (by omega)
            have f1 : decide (255 < x1) = false := decide_eq_false (by omega)
            have e1 : IntKind.u8.wrap x1 = x1 := u8_same (by omega) (by omega)
            have d1 : x1 % 256 = x1 := by omega
            have g2 : decide (x2 < 0) = false := decide_eq_false (by omega)
            have f2 : decide (255 < x2) = false := decide_eq_false (by omega)
            have e2 : IntKind.u8.wrap x2 = x2 := u8_same (by omega) (by omega)
            have d2 : x2 % 256 = x2 := by omega
            have g3 : decide (x3 < 0) = false := decide_eq_false (by omega)
            have f3 : decide (255 < x3) = true := decide_eq_true (by omega)
            clear hb0
            have OA := OK.alloc (.cells #[.int .i64 x0, .int .i64 x1, .int .i64 x2, .int .i64 x3] 48)
            have i0 : ∀ W, (Instr.index 62 (.agg #[.int .i64 x0, .int .i64 x1, .int .i64 x2, .int .i64 x3]) (.int .i64 0)).run Try.prog W = .ok (.int .i64 x0) W := by intro W; kernel_rfl
            have i1 : ∀ W, (Instr.index 62 (.agg #[.int .i64 x0, .int .i64 x1, .int .i64 x2, .int .i64 x3]) (.int .i64 1)).run Try.prog W = .ok (.int .i64 x1) W := by intro W; kernel_rfl
            have i2 : ∀ W, (Instr.index 62 (.agg #[.int .i64 x0, .int .i64 x1, .int .i64 x2, .int .i64 x3]) (.int .i64 2)).run Try.prog W = .ok (.int .i64 x2) W := by intro W; kernel_rfl
            have i3 : ∀ W, (Instr.index 62 (.agg #[.int .i64 x0, .int .i64 x1, .int .i64 x2, .int .i64 x3]) (.int .i64 3)).run Try.prog W = .ok (.int .i64 x3) W := by intro W; kernel_rfl
            go_wp2
            refine wp_loop_rounds 4 ?_
            rw [rounds_succ]
            go_wp2_with (at_builtin; refine app_b1 rfl (.tmp 40) (.tmp 43) rfl _ _ _ _ _ _ _ (by exact rfl) (by assumption) _ (by exact rfl) (by simp) (by omega) ?_; intro v1 w1 O1)
            rw [rounds_succ]
            go_wp2_with (at_builtin; refine app_b1 rfl (.tmp 40) (.tmp 43) rfl _ _ _ _ _ _ _ (by exact rfl) (by assumption) _ (by exact rfl) (by simp) (by omega) ?_; intro v1 w1 O1)
            rw [rounds_succ]
            go_wp2_with (at_builtin; refine app_b1 rfl (.tmp 40) (.tmp 43) rfl _ _ _ _ _ _ _ (by exact rfl) (by assumption) _ (by exact rfl) (by simp) (by omega) ?_; intro v1 w1 O1)
            rw [rounds_succ]
            go_wp2_with (at_builtin; refine app_b1 rfl (.tmp 40) (.tmp 43) rfl _ _ _ _ _ _ _ (by exact rfl) (by assumption) _ (by exact rfl) (by simp) (by omega) ?_; intro v1 w1 O1)
            go_ret2
            exact ⟨rfl, (by assumption : ByO _ _ _ _ _ _).bel⟩
        obtain ⟨a3, c3⟩ := h3
        exfalso
        rw [decide_eq_true a0, decide_eq_true c0, decide_eq_true a1, decide_eq_true c1, decide_eq_true a2, decide_eq_true c2, decide_eq_true a3, decide_eq_true c3] at hmk
        exact absurd hmk (by decide)
      · have HM := hid (HTT.out hmk)
        simp only [mOk, mB, b8, List.all_cons, List.all_nil, Bool.and_true, Bool.and_eq_true, decide_eq_true_eq] at hmk
        obtain ⟨⟨a0, c0⟩, ⟨a1, c1⟩, ⟨a2, c2⟩, a3, c3⟩ := hmk
        have hb0 : True := trivial
        have g0 : decide (x0 < 0) = false := decide_eq_false (by omega)
        have f0 : decide (255 < x0) = false := decide_eq_false (by omega)
        have e0 : IntKind.u8.wrap x0 = x0 := u8_same (by omega) (by omega)
        have d0 : x0 % 256 = x0 := by omega
        have g1 : decide (x1 < 0) = false := decide_eq_false (by omega)
        have f1 : decide (255 < x1) = false := decide_eq_false (by omega)
        have e1 : IntKind.u8.wrap x1 = x1 := u8_same (by omega) (by omega)
        have d1 : x1 % 256 = x1 := by omega
        have g2 : decide (x2 < 0) = false := decide_eq_false (by omega)
        have f2 : decide (255 < x2) = false := decide_eq_false (by omega)
        have e2 : IntKind.u8.wrap x2 = x2 := u8_same (by omega) (by omega)
        have d2 : x2 % 256 = x2 := by omega
        have g3 : decide (x3 < 0) = false := decide_eq_false (by omega)
        have f3 : decide (255 < x3) = false := decide_eq_false (by omega)
        have e3 : IntKind.u8.wrap x3 = x3 := u8_same (by omega) (by omega)
        have d3 : x3 % 256 = x3 := by omega
        clear hb0
        have OA := OK.alloc (.cells #[.int .i64 x0, .int .i64 x1, .int .i64 x2, .int .i64 x3] 48)
        have i0 : ∀ W, (Instr.index 62 (.agg #[.int .i64 x0, .int .i64 x1, .int .i64 x2, .int .i64 x3]) (.int .i64 0)).run Try.prog W = .ok (.int .i64 x0) W := by intro W; kernel_rfl
        have i1 : ∀ W, (Instr.index 62 (.agg #[.int .i64 x0, .int .i64 x1, .int .i64 x2, .int .i64 x3]) (.int .i64 1)).run Try.prog W = .ok (.int .i64 x1) W := by intro W; kernel_rfl
        have i2 : ∀ W, (Instr.index 62 (.agg #[.int .i64 x0, .int .i64 x1, .int .i64 x2, .int .i64 x3]) (.int .i64 2)).run Try.prog W = .ok (.int .i64 x2) W := by intro W; kernel_rfl
        have i3 : ∀ W, (Instr.index 62 (.agg #[.int .i64 x0, .int .i64 x1, .int .i64 x2, .int .i64 x3]) (.int .i64 3)).run Try.prog W = .ok (.int .i64 x3) W := by intro W; kernel_rfl
        go_wp2
        refine wp_loop_rounds 5 ?_
        rw [rounds_succ]
        go_wp2_with (at_builtin; refine app_b1 rfl (.tmp 40) (.tmp 43) rfl _ _ _ _ _ _ _ (by exact rfl) (by assumption) _ (by exact rfl) (by simp) (by omega) ?_; intro v1 w1 O1)
        rw [rounds_succ]
        go_wp2_with (at_builtin; refine app_b1 rfl (.tmp 40) (.tmp 43) rfl _ _ _ _ _ _ _ (by exact rfl) (by assumption) _ (by exact rfl) (by simp) (by omega) ?_; intro v1 w1 O1)
        rw [rounds_succ]
        go_wp2_with (at_builtin; refine app_b1 rfl (.tmp 40) (.tmp 43) rfl _ _ _ _ _ _ _ (by exact rfl) (by assumption) _ (by exact rfl) (by simp) (by omega) ?_; intro v1 w1 O1)
        rw [rounds_succ]
        go_wp2_with (at_builtin; refine app_b1 rfl (.tmp 40) (.tmp 43) rfl _ _ _ _ _ _ _ (by exact rfl) (by assumption) _ (by exact rfl) (by simp) (by omega) ?_; intro v1 w1 O1)
        rw [rounds_succ]
        go_wp2_with (at_builtin; refine app_b1 rfl (.tmp 40) (.tmp 43) rfl _ _ _ _ _ _ _ (by exact rfl) (by assumption) _ (by exact rfl) (by simp) (by omega) ?_; intro v1 w1 O1)
        go_roundw
        case rel => exact ⟨k + 1, by omega, by go_num, by rw [HS.out]; assumption, HM⟩
        case measure => simp [intOf]; omega
    · exfalso
      obtain rfl : k = l.length := by omega
      have := HT.out
      rw [List.take_length, HALL.out] at this
      exact absurd this (by decide)
end Go.Proofs.Ytolpgcoebmboeaa
