/-
  Two states held against each other. States and views that a law is given by value, opened. Helpers: an input with states and views by value fits its types.
-/
import Derived.Test.YtodmikjpmcabiaaJStX
import Derived.Test.YtodmikjpmcabiaaJClK
import Derived.DeepKeys
import Derived.OpenShut
import Derived.Deep.Slices
import Derived.Deep.Fields
import Derived.ChangeSame
import Derived.WideWitness
import Derived.Lib.SmallJoins
namespace Go.Proofs.Ytodmikjpmcabiaa
set_option linter.unusedSimpArgs false
set_option linter.unusedVariables false
set_option maxRecDepth 100000
set_option maxRecDepth 100000
open Go.ChangeShapes Go.WideShapes Go.ChangeAt Go.RowKit Me

def kLit (x : Sk) : List Lit := .int .u8 (vb x.h) :: rLit x.r
def stLit (S : St) : List Lit := ((List.range 11).map fun k => rLit (S.rg k)).flatten ++ (((List.range 64).map fun k => kLit (S.sk k)).flatten ++ [.int .i64 S.p])
theorem y31 : Try.prog.cellsOf 31 = 99 := by kernel_rfl
theorem y34 : Try.prog.cellsOf 34 = 640 := by kernel_rfl
theorem yl_k (D : Nat) (x : Sk) (h : ROk x.r) : Try.prog.keyLits (D + 5) 33 (kC x) = some (kLit x) := by
  have e0 := kl_u8 (D + 3) (vb x.h) ⟨vb_ge _, vb_lt _⟩
  have e1 := yl_r D x.r h
  have l9 := rC_len x.r
  unfold Program.keyLits
  simp [Try.underlying33, kC, kLit, y33, y30, c5, l9]
  rw [e0, List.take_of_length_le (by rw [l9]; decide), e1]
  simp
theorem reg_part (f : Nat → Rg) (i : Nat) (hi : i < 11) : ((regC f).drop (i * 9)).take 9 = rC (f i) := by
  apply List.ext_getElem?
  intro j
  by_cases hj : j < 9
  · rw [List.getElem?_take_of_lt hj, List.getElem?_drop]
    exact flat_at _ 9 11 (fun k _ => rC_len _) i j hi hj
  · rw [List.getElem?_eq_none (by simp; omega), List.getElem?_eq_none (by rw [rC_len]; omega)]
theorem stk_part (f : Nat → Sk) (i : Nat) (hi : i < 64) : ((stkC f).drop (i * 10)).take 10 = kC (f i) := by
  apply List.ext_getElem?
  intro j
  by_cases hj : j < 10
  · rw [List.getElem?_take_of_lt hj, List.getElem?_drop]
    exact flat_at _ 10 64 (fun k _ => kC_len _) i j hi hj
  · rw [List.getElem?_eq_none (by simp; omega), List.getElem?_eq_none (by rw [kC_len]; omega)]
theorem yl_regs (D : Nat) (f : Nat → Rg) (h : ∀ k, k < 11 → ROk (f k)) : Try.prog.keyLits (D + 5) 31 (regC f) = some ((List.range 11).map fun k => rLit (f k)).flatten := by
  have hl := regC_len f
  unfold Program.keyLits
  simp only [Try.underlying31, y31, y30]
  rw [if_pos hl, mapM_some _ (fun k => rLit (f k))]
  · rfl
  · intro i hi
    rw [reg_part f i (List.mem_range.1 hi)]
    exact yl_r D _ (h i (List.mem_range.1 hi))
theorem yl_stk (D : Nat) (f : Nat → Sk) (h : ∀ k, k < 64 → ROk (f k).r) : Try.prog.keyLits (D + 6) 34 (stkC f) = some ((List.range 64).map fun k => kLit (f k)).flatten := by
  have hl := stkC_len f
  unfold Program.keyLits
  simp only [Try.underlying34, y34, y33]
  rw [if_pos hl, mapM_some _ (fun k => kLit (f k))]
  · rfl
  · intro i hi
    rw [stk_part f i (List.mem_range.1 hi)]
    exact yl_k D _ (h i (List.mem_range.1 hi))
theorem yl_st (D : Nat) (S : St) (h : StOk S) : Try.prog.keyLits (D + 7) 36 (stC S) = some (stLit S) := by
  have e0 := yl_regs (D + 1) S.rg h.1
  have e1 := yl_stk D S.sk h.2.1
  have e2 := kl_i64 (D + 5) S.p h.2.2
  have l0 := regC_len S.rg
  have l1 := stkC_len S.sk
  have t0 : (stC S).take 99 = regC S.rg := by unfold stC; rw [List.take_append_of_le_length (by omega), List.take_of_length_le (by omega)]
  have d0 : (stC S).drop 99 = stkC S.sk ++ [.int .i64 S.p] := by unfold stC; rw [← l0, List.drop_left]
  have t1 : (stkC S.sk ++ [Value.int .i64 S.p]).take 640 = stkC S.sk := by rw [← l1, List.take_left]
  have d1 : (stC S).drop 739 = [.int .i64 S.p] := by rw [show 739 = 99 + 640 from rfl, ← List.drop_drop, d0, ← l1, List.drop_left]
  have lS := stC_len S
  unfold Program.keyLits
  simp [Try.underlying36, y36, y31, y34, c3, lS, t0, d0, t1, d1, e0, e1, e2, stLit]
theorem yformed36 (S : St) : (stV S).formed Try.prog 36 = true := by
  simp [Value.formed, stV, Try.underlying36, y36, stC_len]
theorem ykt36 : Try.prog.keyTypeAt 8 36 = true := by kernel_rfl
def sEq (S T : St) : Bool := allR (fun k => rB (S.rg k) (T.rg k)) && (allK (fun k => decide (S.sk k = T.sk k)) && decide (S.p = T.p))
theorem kLit_inj {a b : Sk} (h : kLit a = kLit b) : a = b := by
  obtain ⟨x, r⟩ := a
  obtain ⟨y, q⟩ := b
  simp only [kLit, List.cons.injEq, Lit.int.injEq, true_and, vb_inj] at h
  rw [h.1, rLit_inj h.2]
theorem rLit_len (r : Rg) : (rLit r).length = 9 := rfl
theorem kLit_len (x : Sk) : (kLit x).length = 10 := rfl
theorem flatR_len (S : St) : (((List.range 11).map fun k => rLit (S.rg k)).flatten).length = 99 := by
  have := flat_len (fun k => rLit (S.rg k)) 9 11 (fun k _ => rLit_len _)
  rwa [List.flatMap_def] at this
theorem flatK_len (S : St) : (((List.range 64).map fun k => kLit (S.sk k)).flatten).length = 640 := by
  have := flat_len (fun k => kLit (S.sk k)) 10 64 (fun k _ => kLit_len _)
  rwa [List.flatMap_def] at this
theorem sEq_iff (S T : St) : sEq S T = true ↔ stLit S = stLit T := by
  unfold sEq
  simp only [Bool.and_eq_true, allR_iff, allK_iff, rB_iff, decide_eq_true_eq]
  constructor
  · rintro ⟨h1, h2, h3⟩
    unfold stLit
    rw [h3]
    congr 1
    · congr 1
      apply List.map_congr_left
      intro k hk
      rw [h1 k (List.mem_range.1 hk)]
    · congr 1
      congr 1
      apply List.map_congr_left
      intro k hk
      rw [h2 k (List.mem_range.1 hk)]
  · intro h
    unfold stLit at h
    obtain ⟨a, b⟩ := List.append_inj h (by rw [flatR_len, flatR_len])
    obtain ⟨c, d⟩ := List.append_inj b (by rw [flatK_len, flatK_len])
    refine ⟨fun k hk => rLit_inj (flat_inj (fun k => rLit (S.rg k)) (fun k => rLit (T.rg k)) 9 11 (fun _ _ => rLit_len _) (fun _ _ => rLit_len _) a k hk),
      fun k hk => kLit_inj (flat_inj (fun k => kLit (S.sk k)) (fun k => kLit (T.sk k)) 10 64 (fun _ _ => kLit_len _) (fun _ _ => kLit_len _) c k hk), ?_⟩
    simpa using d
theorem eq_st (S T : St) (hS : StOk S) (hT : StOk T) (W : World) : (binOp .eql 36 (.agg (stC S).toArray) (.agg (stC T).toArray)).run Try.prog W = .ok (.bool (sEq S T)) W := by
  obtain ⟨r, h1, h2⟩ := run_equalIn_deep (P := Try.prog) 9992 8 _ ykt36 W 7 7 (stV S) (stV T) (stLit S) (stLit T) (yformed36 S) (yformed36 T) (yl_st 0 S hS) (yl_st 0 T hT)
  rw [run_eql_struct, ← stV, ← stV, h1]
  have : r = sEq S T := by rw [Bool.eq_iff_iff, h2, sEq_iff]
  rw [this]
  rfl
end Go.Proofs.Ytodmikjpmcabiaa

namespace Go.Proofs.Ytodmikjpmcabiaa
set_option linter.unusedSimpArgs false
set_option linter.unusedVariables false
set_option maxRecDepth 100000
set_option maxRecDepth 100000
open Go.ChangeShapes Go.WideShapes Go.ChangeAt Go.RowKit Go.Deep Me

theorem ybd_i64 {n : Int} (h : (Lit.int .i64 n).wf = true) : -9223372036854775808 ≤ n ∧ n < 9223372036854775808 := by
  simp [Lit.wf, IntKind.min, IntKind.max, IntKind.signed, IntKind.bits] at h
  omega
theorem ybd_u64 {n : Int} (h : (Lit.int .u64 n).wf = true) : 0 ≤ n ∧ n < 18446744073709551616 := by
  simp [Lit.wf, IntKind.min, IntKind.max, IntKind.signed, IntKind.bits] at h
  omega
theorem ybd_u8 {n : Int} (h : (Lit.int .u8 n).wf = true) : 0 ≤ n ∧ n < 256 := by
  simp [Lit.wf, IntKind.min, IntKind.max, IntKind.signed, IntKind.bits] at h
  omega
theorem ychoose {α : Type} (P : Nat → α → Prop) : ∀ n, (∀ i, i < n → ∃ y, P i y) → ∃ l : List α, l.length = n ∧ ∀ i (h : i < l.length), P i l[i]
  | 0, _ => ⟨[], rfl, fun i h => absurd h (Nat.not_lt_zero _)⟩
  | n + 1, h => by
    obtain ⟨l, hl, hp⟩ := ychoose P n (fun i hi => h i (by omega))
    obtain ⟨y, hy⟩ := h n (by omega)
    refine ⟨l ++ [y], by simp [hl], fun i hi => ?_⟩
    by_cases e : i < l.length
    · rw [List.getElem_append_left e]; exact hp i e
    · have : i = l.length := by simp at hi; omega
      subst this
      rw [List.getElem_append_right (Nat.le_refl _)]
      simpa [hl] using hy
section
variable {H : Type} {enc : TypeId × Value → H} {w : World} {base : Nat} {spare : Nat → Bool} {held : Bool}
theorem yu64_at {n : Nat} {c : Value} {y : DataW H × List MemPlace} (h : DataW.trod enc Try.prog w base spare held n 22 [c] = some y) : ∃ x : B64, c = .int .u64 (ub x) := by
  obtain ⟨x, e, _, hw⟩ := DataW.trod_int (k := .u64) Try.underlying22 h
  obtain ⟨lo, hi⟩ := ybd_u64 hw
  obtain ⟨z, rfl⟩ := ub_of x lo hi
  exact ⟨z, (List.cons.inj e).1⟩
theorem ytn_at {n : Nat} {c d : Value} {y : DataW H × List MemPlace} (h : DataW.trod enc Try.prog w base spare held n 24 [c, d] = some y) : ∃ x z : B64, c = .int .u64 (ub x) ∧ d = .int .u64 (ub z) := by
  obtain ⟨y0, y1, m, _, _, h0, h1⟩ := trod_struct2 Try.underlying24 h
  have e0 : DataW.trod enc Try.prog w base spare held m 22 [c] = some y0 := h0
  have e1 : DataW.trod enc Try.prog w base spare held m 22 [d] = some y1 := h1
  obtain ⟨x, rfl⟩ := yu64_at e0
  obtain ⟨z, rfl⟩ := yu64_at e1
  exact ⟨x, z, rfl, rfl⟩
theorem ysp_at {n : Nat} {c d : Value} {y : DataW H × List MemPlace} (h : DataW.trod enc Try.prog w base spare held n 26 [c, d] = some y) : ∃ x z : B64, c = .int .u64 (ub x) ∧ d = .int .u64 (ub z) := by
  obtain ⟨y0, y1, m, _, _, h0, h1⟩ := trod_struct2 Try.underlying26 h
  have e0 : DataW.trod enc Try.prog w base spare held m 22 [c] = some y0 := h0
  have e1 : DataW.trod enc Try.prog w base spare held m 22 [d] = some y1 := h1
  obtain ⟨x, rfl⟩ := yu64_at e0
  obtain ⟨z, rfl⟩ := yu64_at e1
  exact ⟨x, z, rfl, rfl⟩
theorem ysc_at {n : Nat} {a b c d : Value} {y : DataW H × List MemPlace} (h : DataW.trod enc Try.prog w base spare held n 28 [a, b, c, d] = some y) : ∃ x : Sc, a = .int .u64 (ub x.1.1) ∧ b = .int .u64 (ub x.1.2) ∧ c = .int .u64 (ub x.2.1) ∧ d = .int .u64 (ub x.2.2) := by
  obtain ⟨xs, m, _, hx, _, hlen, hg⟩ := DataW.trod_struct Try.underlying28 h
  have hl : xs.length = 2 := hlen
  have g0 : DataW.trod enc Try.prog w base spare held m 24 (([a, b, c, d].drop 0).take (Try.prog.cellsOf 24)) = xs[0]? := hg 0 _ rfl
  have g1 : DataW.trod enc Try.prog w base spare held m 26 (([a, b, c, d].drop 2).take (Try.prog.cellsOf 26)) = xs[1]? := hg 1 _ rfl
  rw [y24] at g0
  rw [y26] at g1
  rw [List.getElem?_eq_getElem (by omega)] at g0 g1
  have e0 : DataW.trod enc Try.prog w base spare held m 24 [a, b] = some _ := g0
  have e1 : DataW.trod enc Try.prog w base spare held m 26 [c, d] = some _ := g1
  obtain ⟨p, q, rfl, rfl⟩ := ytn_at e0
  obtain ⟨r, z, rfl, rfl⟩ := ysp_at e1
  exact ⟨((p, q), (r, z)), rfl, rfl, rfl, rfl⟩
theorem yreg_at {fuel : Nat} {cs : List Value} {x : DataW H × List MemPlace} (h : DataW.trod enc Try.prog w base spare held fuel 30 cs = some x) : ∃ r : Rg, ROk r ∧ cs = rC r := by
  obtain ⟨xs, n, _, hx, hl, hlen, hf⟩ := DataW.trod_struct Try.underlying30 h
  rw [y30] at hl
  match cs, hl with
  | [c0, c1, c2, c3, c4, c5, c6, c7, c8], _ =>
    have hx6 : xs.length = 6 := hlen
    have f0 : DataW.trod enc Try.prog w base spare held n 5 (([c0, c1, c2, c3, c4, c5, c6, c7, c8].drop 0).take (Try.prog.cellsOf 5)) = xs[0]? := hf 0 _ rfl
    have f1 : DataW.trod enc Try.prog w base spare held n 4 (([c0, c1, c2, c3, c4, c5, c6, c7, c8].drop 1).take (Try.prog.cellsOf 4)) = xs[1]? := hf 1 _ rfl
    have f2 : DataW.trod enc Try.prog w base spare held n 3 (([c0, c1, c2, c3, c4, c5, c6, c7, c8].drop 2).take (Try.prog.cellsOf 3)) = xs[2]? := hf 2 _ rfl
    have f3 : DataW.trod enc Try.prog w base spare held n 28 (([c0, c1, c2, c3, c4, c5, c6, c7, c8].drop 3).take (Try.prog.cellsOf 28)) = xs[3]? := hf 3 _ rfl
    have f4 : DataW.trod enc Try.prog w base spare held n 2 (([c0, c1, c2, c3, c4, c5, c6, c7, c8].drop 7).take (Try.prog.cellsOf 2)) = xs[4]? := hf 4 _ rfl
    have f5 : DataW.trod enc Try.prog w base spare held n 2 (([c0, c1, c2, c3, c4, c5, c6, c7, c8].drop 8).take (Try.prog.cellsOf 2)) = xs[5]? := hf 5 _ rfl
    rw [Me.c5] at f0
    rw [yb4] at f1
    rw [Me.c3] at f2
    rw [y28] at f3
    rw [Me.c2] at f4 f5
    rw [List.getElem?_eq_getElem (by omega)] at f0 f1 f2 f3 f4 f5
    have e0 : DataW.trod enc Try.prog w base spare held n 5 [c0] = some _ := f0
    have e1 : DataW.trod enc Try.prog w base spare held n 4 [c1] = some _ := f1
    have e2 : DataW.trod enc Try.prog w base spare held n 3 [c2] = some _ := f2
    have e3 : DataW.trod enc Try.prog w base spare held n 28 [c3, c4, c5, c6] = some _ := f3
    have e4 : DataW.trod enc Try.prog w base spare held n 2 [c7] = some _ := f4
    have e5 : DataW.trod enc Try.prog w base spare held n 2 [c8] = some _ := f5
    obtain ⟨n0, g0, _, w0⟩ := DataW.trod_int (k := .u8) Try.underlying5 e0
    obtain ⟨b1, g1, _⟩ := DataW.trod_bool Try.underlying4 e1
    obtain ⟨n2, g2, _, w2⟩ := DataW.trod_int (k := .i64) Try.underlying3 e2
    obtain ⟨s, rfl, rfl, rfl, rfl⟩ := ysc_at e3
    obtain ⟨n4, g4, _, w4⟩ := DataW.trod_int (k := .i64) Try.underlying2 e4
    obtain ⟨n5, g5, _, w5⟩ := DataW.trod_int (k := .i64) Try.underlying2 e5
    obtain rfl := (List.cons.inj g0).1
    obtain rfl := (List.cons.inj g1).1
    obtain rfl := (List.cons.inj g2).1
    obtain rfl := (List.cons.inj g4).1
    obtain rfl := (List.cons.inj g5).1
    exact ⟨⟨n0, b1, n2, s, n4, n5⟩, ⟨ybd_u8 w0, ybd_i64 w2, ybd_i64 w4, ybd_i64 w5⟩, rfl⟩
theorem yslot_at {fuel : Nat} {cs : List Value} {x : DataW H × List MemPlace} (h : DataW.trod enc Try.prog w base spare held fuel 33 cs = some x) : ∃ s : Sk, ROk s.r ∧ cs = kC s := by
  obtain ⟨xs, n, _, hx, hl, hlen, hf⟩ := DataW.trod_struct Try.underlying33 h
  rw [y33] at hl
  match cs, hl with
  | c0 :: cr, hl =>
    have hx2 : xs.length = 2 := hlen
    have hr : cr.length = 9 := by simpa using hl
    have f0 : DataW.trod enc Try.prog w base spare held n 5 (((c0 :: cr).drop 0).take (Try.prog.cellsOf 5)) = xs[0]? := hf 0 _ rfl
    have f1 : DataW.trod enc Try.prog w base spare held n 30 (((c0 :: cr).drop 1).take (Try.prog.cellsOf 30)) = xs[1]? := hf 1 _ rfl
    rw [Me.c5] at f0
    rw [y30, List.drop_one, List.tail_cons, List.take_of_length_le (by omega)] at f1
    rw [List.getElem?_eq_getElem (by omega)] at f0 f1
    have e0 : DataW.trod enc Try.prog w base spare held n 5 [c0] = some _ := f0
    obtain ⟨n0, g0, _, w0⟩ := DataW.trod_int (k := .u8) Try.underlying5 e0
    obtain ⟨r, hr', rfl⟩ := yreg_at f1
    obtain rfl := (List.cons.inj g0).1
    obtain ⟨b, rfl⟩ := vb_of n0 (ybd_u8 w0).1 (ybd_u8 w0).2
    exact ⟨⟨b, r⟩, hr', rfl⟩
theorem yregs_at {fuel : Nat} {cs : List Value} {x : DataW H × List MemPlace} (hl : cs.length = 99) (h : DataW.trod enc Try.prog w base spare held fuel 31 cs = some x) : ∃ f : Nat → Rg, (∀ k, k < 11 → ROk (f k)) ∧ cs = regC f := by
  obtain ⟨xs, m, _, _, hlc, hx, hg⟩ := DataW.trod_array Try.underlying31 h
  have hch := ychoose (fun i (r : Rg) => ROk r ∧ (cs.drop (i * 9)).take 9 = rC r) 11 (fun i hi => by
    have h1 := hg i hi
    rw [y30] at h1
    rw [List.getElem?_eq_getElem (by omega)] at h1
    exact yreg_at h1)
  obtain ⟨l, hll, hlp⟩ := hch
  have hd : ∀ i, i < 11 → ROk (l.getD i r0) ∧ (cs.drop (i * 9)).take 9 = rC (l.getD i r0) := fun i hi => by
    rw [List.getD_eq_getElem?_getD, List.getElem?_eq_getElem (by omega)]
    exact hlp i (by omega)
  refine ⟨fun k => l.getD k r0, fun k hk => (hd k hk).1, ?_⟩
  apply List.ext_getElem?
  intro q
  by_cases hq : q < 99
  · have hdq : q / 9 * 9 + q % 9 = q := by omega
    have hi : q / 9 < 11 := by omega
    have hm : q % 9 < 9 := by omega
    generalize q / 9 = i at *
    generalize q % 9 = j at *
    subst hdq
    have e : (regC fun k => l.getD k r0)[i * 9 + j]? = (rC (l.getD i r0))[j]? := flat_at (fun k => rC (l.getD k r0)) 9 11 (fun k _ => rC_len _) i j hi hm
    rw [e, ← (hd i hi).2, List.getElem?_take_of_lt hm, List.getElem?_drop]
  · rw [List.getElem?_eq_none (by omega), List.getElem?_eq_none (by rw [regC_len]; omega)]
theorem ystk_at {fuel : Nat} {cs : List Value} {x : DataW H × List MemPlace} (hl : cs.length = 640) (h : DataW.trod enc Try.prog w base spare held fuel 34 cs = some x) : ∃ f : Nat → Sk, (∀ k, k < 64 → ROk (f k).r) ∧ cs = stkC f := by
  obtain ⟨xs, m, _, _, hlc, hx, hg⟩ := DataW.trod_array Try.underlying34 h
  have hch := ychoose (fun i (r : Sk) => ROk r.r ∧ (cs.drop (i * 10)).take 10 = kC r) 64 (fun i hi => by
    have h1 := hg i hi
    rw [y33] at h1
    rw [List.getElem?_eq_getElem (by omega)] at h1
    exact yslot_at h1)
  obtain ⟨l, hll, hlp⟩ := hch
  have hd : ∀ i, i < 64 → ROk (l.getD i k0).r ∧ (cs.drop (i * 10)).take 10 = kC (l.getD i k0) := fun i hi => by
    rw [List.getD_eq_getElem?_getD, List.getElem?_eq_getElem (by omega)]
    exact hlp i (by omega)
  refine ⟨fun k => l.getD k k0, fun k hk => (hd k hk).1, ?_⟩
  apply List.ext_getElem?
  intro q
  by_cases hq : q < 640
  · have hdq : q / 10 * 10 + q % 10 = q := by omega
    have hi : q / 10 < 64 := by omega
    have hm : q % 10 < 10 := by omega
    generalize q / 10 = i at *
    generalize q % 10 = j at *
    subst hdq
    have e : (stkC fun k => l.getD k k0)[i * 10 + j]? = (kC (l.getD i k0))[j]? := flat_at (fun k => kC (l.getD k k0)) 10 64 (fun k _ => kC_len _) i j hi hm
    rw [e, ← (hd i hi).2, List.getElem?_take_of_lt hm, List.getElem?_drop]
  · rw [List.getElem?_eq_none (by omega), List.getElem?_eq_none (by rw [stkC_len]; omega)]
theorem z31 : Try.prog.cellsOf 31 = 99 := by kernel_rfl
theorem z34 : Try.prog.cellsOf 34 = 640 := by kernel_rfl
theorem open_state {r : Reach} {b0 : Nat} {v : Value} {d : DataW H} {p : List MemPlace} (hv : Value.okWide Try.prog w r b0 36 v) (h : DataW.Trod enc Try.prog w base spare held 36 v d p) : ∃ S : St, StOk S ∧ v = stV S := by
  obtain ⟨cs, rfl, hsz⟩ := okWide_struct Try.underlying36 hv
  rw [y36] at hsz
  obtain ⟨fuel, hf⟩ := h
  obtain ⟨xs, n, _, hx, hlc, hlen, hg⟩ := DataW.trod_struct Try.underlying36 hf
  have hc : (Value.agg cs).cells.toList = cs.toList := rfl
  rw [hc] at hg
  have hl : cs.toList.length = 740 := by simpa using hsz
  have hx3 : xs.length = 3 := hlen
  have f0 : DataW.trod enc Try.prog w base spare held n 31 ((cs.toList.drop 0).take (Try.prog.cellsOf 31)) = xs[0]? := hg 0 _ rfl
  have f1 : DataW.trod enc Try.prog w base spare held n 34 ((cs.toList.drop 99).take (Try.prog.cellsOf 34)) = xs[1]? := hg 1 _ rfl
  have f2 : DataW.trod enc Try.prog w base spare held n 3 ((cs.toList.drop 739).take (Try.prog.cellsOf 3)) = xs[2]? := hg 2 _ rfl
  rw [z31, List.drop_zero] at f0
  rw [z34] at f1
  rw [Me.c3] at f2
  rw [List.getElem?_eq_getElem (by omega)] at f0 f1 f2
  obtain ⟨rg, hrg, e0⟩ := yregs_at (by rw [List.length_take]; omega) f0
  obtain ⟨sk, hsk, e1⟩ := ystk_at (by rw [List.length_take, List.length_drop]; omega) f1
  obtain ⟨n2, g2, _, w2⟩ := DataW.trod_int (k := .i64) Try.underlying3 f2
  refine ⟨⟨rg, sk, n2⟩, ⟨hrg, hsk, ybd_i64 w2⟩, ?_⟩
  unfold stV stC
  congr 1
  apply Array.ext'
  simp only [List.toList_toArray]
  rw [← e0, ← e1, ← g2]
  have d1 : (cs.toList.drop 99).take 640 ++ (cs.toList.drop 739).take 1 = cs.toList.drop 99 := by
    rw [show 739 = 99 + 640 from rfl, ← List.drop_drop]
    rw [List.take_of_length_le (l := (cs.toList.drop 99).drop 640) (by rw [List.length_drop, List.length_drop]; omega), List.take_append_drop]
  rw [d1, List.take_append_drop]
end
end Go.Proofs.Ytodmikjpmcabiaa

namespace Go.Proofs.Ytodmikjpmcabiaa
set_option linter.unusedSimpArgs false
set_option linter.unusedVariables false
set_option maxRecDepth 100000
set_option maxRecDepth 100000
open Go.ChangeShapes Go.WideShapes Go.ChangeAt Go.RowKit Me

theorem rowB_of_zip {P : Program} {w : World} {t : TypeId} {cs : Array Value} {TS : List TypeId} (hT : P.cellTypes P.depth t = some TS) (hl : cs.size = TS.length)
    (h : (TS.zip cs.toList).all (fun x => Cell.okWideB P w x.1 x.2) = true) : Cell.okWideRowB P w t cs = true := by
  unfold Cell.okWideRowB
  rw [hT]
  simp only [Bool.and_eq_true, beq_iff_eq, List.all_eq_true, List.mem_range]
  refine ⟨by rw [hl, Nat.mod_self], fun i hi => ?_⟩
  have hi2 : i < TS.length := by omega
  rw [Nat.mod_eq_of_lt hi2, Array.getElem?_eq_getElem hi, List.getElem?_eq_getElem hi2]
  simp only
  have := List.all_eq_true.1 h (TS[i], cs[i]) (by
    have hz : i < (TS.zip cs.toList).length := by simp; omega
    have e : (TS.zip cs.toList)[i] = (TS[i], cs[i]) := by simp
    rw [← e]
    exact List.getElem_mem hz)
  exact this
theorem okWideB_of {P : Program} {w : World} {f : FuncId} {fn : Func} {args : Array Value} (hi : (P.inits.idxOf? f).isNone = true) (hf : P.funcs[f]? = some fn)
    (h1 : (fn.body.isSome && !fn.ours && fn.nfree == 0 && args.size == fn.params.size) = true)
    (hall : ∀ j, j < fn.params.size → ∃ t v, fn.params[j]? = some t ∧ args[j]? = some v ∧ Value.okWideB P w t v = true) : Input.okWideB P w f ⟨#[], args, []⟩ = true := by
  unfold Input.okWideB
  rw [hf, hi]
  simp only [h1, Bool.and_eq_true, List.all_eq_true, List.mem_range]
  refine ⟨⟨⟨by simp, rfl⟩, trivial⟩, trivial, fun j hj => ?_⟩
  obtain ⟨t, v, ht, hv, hk⟩ := hall j hj
  rw [ht, hv]
  exact hk
def yregT : List TypeId := [5, 4, 3, 22, 22, 22, 22, 2, 2]
def ystT : List TypeId := (List.replicate 11 yregT).flatten ++ ((List.replicate 64 (5 :: yregT)).flatten ++ [3])
theorem ytypes36 : Try.prog.cellTypes Try.prog.depth 36 = some ystT := by kernel_rfl
theorem yzip36 (w : World) : (ystT.zip (stC st0)).all (fun x => Cell.okWideB Try.prog w x.1 x.2) = true := by kernel_rfl
theorem state0_ok (w : World) : Value.okWideB Try.prog w 36 (.agg (stC st0).toArray) = true := by
  unfold Value.okWideB
  rw [Try.underlying36]
  simp only [Bool.and_eq_true, beq_iff_eq]
  have hl : (stC st0).toArray.size = 740 := by rw [List.size_toArray, stC_len]
  refine ⟨by rw [hl, y36], rowB_of_zip ytypes36 (by rw [hl]; kernel_rfl) (yzip36 w)⟩
end Go.Proofs.Ytodmikjpmcabiaa
