/-
  The document's Put.
-/
import Derived.Test.YtjlaenkfjejbkaaMcG
import Derived.Laws.AppendOwn
import Derived.Laws.AppendOwnNone
import Derived.OwnWalk
namespace Go.Proofs.Ytjlaenkfjejbkaa
set_option linter.unusedSimpArgs false
set_option linter.unusedVariables false
open Go.ChangeShapes Go.WideShapes Go.ChangeAt Go.RowKit

/-- The slice 'v' holds these bytes in memory of the call's own. -/
def OwnB (w0 w : World) (v : Value) (zs : List Int) : Prop := w.ownsRow w0.heap.size 5 1 v zs.length (bC zs) ∧ Below w0.heap.size w0 w
theorem OwnB.bsl {w0 w : World} {v : Value} {zs : List Int} (h : OwnB w0 w v zs) : BSl v zs w := by
  rcases h.1.2 with ⟨rfl, h0⟩ | ⟨g, cap, cur, rfl, hg, hh, hc, _⟩
  · exact .inr ⟨⟨none, 0, rfl⟩, List.length_eq_zero_iff.1 h0⟩
  · refine .inl ⟨g, 0, cap, rfl, hc, fun j u hu => ?_⟩
    have := h.1.cells (g := g) rfl j u hu
    rwa [Addr.add_mid] at this
theorem OwnB.nil {w0 w : World} (hb : Below w0.heap.size w0 w) : OwnB w0 w (.slice none 0 0) [] := ⟨⟨rfl, .inl ⟨rfl, rfl⟩⟩, hb⟩
/-- One byte more: append(s, z). -/
theorem append_byte {ops : Array Oper} {rest : List Oper} {o : Oper} {a : Act} {Q : Exit → Act → World → Prop} (hgd : o.guard = none) (s x : Operand)
    (ho : o.op = .call { callee := .builtin .append, args := #[s, x], argTypes := #[53, 53] })
    (w0 w : World) (v : Value) (zs : List Int) (z : Int) (hs : a.eval s = v) (hown : OwnB w0 w v zs) (wm : World) (hx : a.eval x = .slice (some ⟨w.heap.size, 0, none⟩) 1 1)
    (hw : wm = w.alloc (.cells #[.int .u8 z] 5)) (hlen : zs.length < 140737488355328)
    (h : ∀ v' w', OwnB w0 w' v' (zs ++ [z]) → wpList Try.prog ops Q rest (a.put o.dst v') w') : wpList Try.prog ops Q (o :: rest) a wm := by
  subst hw
  obtain ⟨i, hi, hp⟩ := Option.map_eq_some_iff.1 byteInfo
  injection hp with hp1 hp
  injection hp with hp2 hp3
  obtain ⟨ho1, hb⟩ := hown
  refine wpList_append_own _ hgd s x 53 ho w0.heap.size 5 i _ 1 1 Try.underlying53 hi hp1 hp2 hp3 rfl (by decide) v zs.length (bC zs) hs (ho1.alloc _)
    ⟨w.heap.size, 0, none⟩ 1 1 [.int .u8 z] hx rfl ?_ (by intro u hu; simp at hu; subst hu; rfl) (by simp only [maxLen]; omega) (by omega) ?_ ?_
  · intro j u hu
    have hj : (((w.alloc (.cells #[.int .u8 z] 5)).cell? ⟨w.heap.size, j, none⟩) = (#[Value.int .u8 z] : Array Value)[j]?) := by
      rw [World.cell?_alloc_at _ _ _ _ rfl]
    have : ((⟨w.heap.size, 0, none⟩ : Addr).add j) = ⟨w.heap.size, j, none⟩ := by simp [Addr.add]; omega
    rw [this, hj]
    simpa using hu
  · have := hb.size
    simp
    omega
  · intro v' w' h1 h2 _
    refine h v' w' ⟨?_, ?_⟩
    · rw [List.length_append]
      simpa [bC] using h1
    · refine (hb.alloc hb.size _).grown h2 (by have := hb.size; simp; omega) ?_
      intro k hk
      exact (ho1.lt k hk).1

theorem lay_at (x : Int) (s j : Nat) (hj : j < s) : (layL x s)[j]? = some (x / 256 ^ j % 256) := by
  induction s generalizing x j with
  | zero => omega
  | succ s ih =>
    cases j with
    | zero => simp [layL]
    | succ j =>
      rw [layL, List.getElem?_cons_succ, ih _ _ (by omega), Int.pow_succ, Int.mul_comm, Int.ediv_ediv_of_nonneg (by decide)]
def putY (l : List Int) (O N : Nat) (x : Int) (k : Nat) : Int := if O ≤ k ∧ k < O + N then x / 256 ^ (k - O) % 256 else l.getD k 0
theorem put_at {l : List Int} {O N : Nat} {x : Int} (h : O + N ≤ l.length) (k : Nat) (hk : k < l.length) : (putL l O (layL x N))[k]? = some (putY l O N x k) := by
  have hf : O + (layL x N).length ≤ l.length := by rw [layL_len]; exact h
  unfold putY
  by_cases hin : O ≤ k ∧ k < O + N
  · rw [if_pos hin]
    obtain ⟨j, rfl⟩ : ∃ j, k = O + j := ⟨k - O, by omega⟩
    rw [putL_in hf j (by rw [layL_len]; omega), lay_at _ _ _ (by omega), Nat.add_sub_cancel_left]
  · rw [if_neg hin, putL_out hf k (by rw [layL_len]; omega), List.getD_eq_getElem?_getD, List.getElem?_eq_getElem hk]
    rfl
theorem div_step (x : Int) (k : Nat) : x / 256 ^ k / 256 = x / 256 ^ (k + 1) := by
  rw [Int.ediv_ediv_of_nonneg (Int.le_of_lt (Int.pow_pos (by decide))), ← Int.pow_succ]
theorem div_bd {x : Int} (h0 : 0 ≤ x) (h1 : x < 18446744073709551616) (k : Nat) : 0 ≤ x / 256 ^ k ∧ x / 256 ^ k < 18446744073709551616 := by
  have hp : (0 : Int) < 256 ^ k := Int.pow_pos (by decide)
  exact ⟨Int.ediv_nonneg h0 (Int.le_of_lt hp), Int.lt_of_le_of_lt (Int.ediv_le_self _ h0) h1⟩
def clN (O N k : Nat) : Nat := min (k - O) N

set_option maxHeartbeats 1600000 in
theorem rPut_bad (p : Option Addr) (len cap : Nat) (off n x : Int) (w : World) (hl : (len : Int) < 4611686018427387904) (ho : -9223372036854775808 ≤ off ∧ off < 9223372036854775808) (hE : getE len off n ≠ 0) :
    Calls Try.prog 25 #[.slice p len cap, .int .i64 off, .int .i64 n, .int .u64 x] w fun e w' => e = .returned (.tuple #[.slice none 0 0, .int .i64 (getE len off n)]) ∧ w = w' := by
  have HS := hid (fun W => rsized_any n W)
  obtain ⟨ho1, ho2⟩ := ho
  cases hs : sizeB n
  · have hE1 : getE len off n = 1 := by unfold getE; rw [if_pos hs]
    rw [hE1]
    rw [hs] at HS
    clear hs hE hE1
    go_enter Try.func25, Try.ntmps25
    go_wp2_with (go_at_call 32; refine (HS.out _).mono ?_; rintro e w1 ⟨rfl, rfl⟩)
    go_ret2
    exact ⟨rfl, rfl⟩
  · have hn : 1 ≤ n ∧ n ≤ 8 := by rcases size_cases hs with h | h | h | h <;> omega
    obtain ⟨hn1, hn8⟩ := hn
    rw [hs] at HS
    by_cases h0 : off < 0
    · have hE1 : getE len off n = 42 := by
        unfold getE withinB
        rw [hs, decide_eq_false (show ¬ 0 ≤ off by omega)]
        rfl
      rw [hE1]
      have d0 : decide (off < 0) = true := decide_eq_true h0
      clear hs hE hE1
      go_enter Try.func25, Try.ntmps25
      go_wp2_with (go_at_call 32; refine (HS.out _).mono ?_; rintro e w1 ⟨rfl, rfl⟩)
      go_ret2
      exact ⟨rfl, rfl⟩
    · have d0 : decide (off < 0) = false := decide_eq_false h0
      by_cases h1 : (len : Int) - n < off
      · have hE1 : getE len off n = 42 := by
          unfold getE withinB
          rw [hs, decide_eq_false (show ¬ off ≤ (len : Int) - n by omega)]
          simp
        rw [hE1]
        have d1 : decide ((len : Int) - n < off) = true := decide_eq_true h1
        clear hs hE hE1
        go_enter Try.func25, Try.ntmps25
        go_wp2_with (go_at_call 32; refine (HS.out _).mono ?_; rintro e w1 ⟨rfl, rfl⟩)
        go_ret2
        exact ⟨rfl, rfl⟩
      · exact absurd (getE_mk hs (by omega) (by omega)) hE

set_option maxHeartbeats 1600000 in
theorem rPut_ok (g o cap : Nat) (l : List Int) (off n x : Int) (w : World) (hc : w.rangeAt g o (bC l)) (hl : l.length ≤ 140737488351232) (hx : 0 ≤ x ∧ x < 18446744073709551616) (hb : ∀ x ∈ l, 0 ≤ x ∧ x < 256) (hE : getE l.length off n = 0) :
    Calls Try.prog 25 #[.slice (some ⟨g, o, none⟩) l.length cap, .int .i64 off, .int .i64 n, .int .u64 x] w fun e w' =>
      ∃ v, e = .returned (.tuple #[v, .int .i64 0]) ∧ OwnB w w' v (putL l off.toNat (layL x n.toNat)) := by
  have HS := hid (fun W => rsized_any n W)
  obtain ⟨hs, h0, h1⟩ := getE_ok hE
  have hn : 1 ≤ n ∧ n ≤ 8 := by rcases size_cases hs with h | h | h | h <;> omega
  obtain ⟨hn1, hn8⟩ := hn
  rw [hs] at HS
  obtain ⟨N, rfl⟩ : ∃ N : Nat, n = N := ⟨n.toNat, by omega⟩
  obtain ⟨O, rfl⟩ : ∃ O : Nat, off = O := ⟨off.toNat, by omega⟩
  simp only [Int.toNat_natCast]
  have hON : O + N ≤ l.length := by omega
  have HAT := hid (put_at (x := x) hON)
  have hPl : (putL l O (layL x N)).length = l.length := putL_len (by rw [layL_len]; exact hON)
  generalize putL l O (layL x N) = P at HAT hPl ⊢
  have d0 : decide ((O : Int) < 0) = false := decide_eq_false (by omega)
  have d1 : decide ((l.length : Int) - N < O) = false := decide_eq_false (by omega)
  have hlt0 : 0 < l.length := by omega
  have hgw : g < w.heap.size := World.block_lt_of_cell? w _ (hc 0 (.int .u8 l[0]) (by simp [bC, hlt0]))
  have HC := hid hc
  have HB := hid hb
  have OWN0 := hid (OwnB.nil (Below.refl w.heap.size w))
  clear hs hE hc hb h0 h1
  obtain ⟨hx0, hx1⟩ := hx
  go_enter Try.func25, Try.ntmps25
  go_wp2_with (go_at_call 32; refine (HS.out _).mono ?_; rintro e w1 ⟨rfl, rfl⟩)
  go_loopw [3, 10, 11, 12] (fun nv out i xv w' => ∃ k : Nat, k ≤ l.length ∧ i = .int .i64 k ∧ nv = .int .u64 (x / 256 ^ clN O N k) ∧ Hid (OwnB w w' out (P.take k))) (fun _ _ i _ _ => l.length - (intOf i).toNat)
  case atStart => exact ⟨0, Nat.zero_le _, rfl, by simp [clN], OWN0⟩
  case round =>
    obtain ⟨k, hk, rfl, rfl, OWN⟩ := hrel
    by_cases hlt : k < l.length
    · have hP := HAT.out k hlt
      have hcell : wr.cell? ⟨g, o + k, none⟩ = some (.int .u8 l[k]) := by
        rw [OWN.out.2.cell (p := ⟨g, o + k, none⟩) hgw]
        exact HC.out k _ (by simp [bC, hlt])
      have hdv := div_bd hx0 hx1 (clN O N k)
      have hstep : P.take (k + 1) = P.take k ++ [putY l O N x k] := by
        rw [List.take_add_one, hP]
        rfl
      by_cases hO : O ≤ k
      · by_cases hN : k < O + N
        · have d2 : decide ((O : Int) ≤ k) = true := decide_eq_true (by omega)
          have d3 : decide ((k : Int) < O + N) = true := decide_eq_true (by omega)
          have hkO : clN O N k = k - O := by unfold clN; omega
          have hcl : clN O N (k + 1) = clN O N k + 1 := by unfold clN; omega
          have hy : putY l O N x k = x / 256 ^ clN O N k % 256 := by
            unfold putY
            rw [if_pos (by omega), hkO]
          rw [hy] at hstep
          have HST := hid hstep
          have HCL := hid hcl
          have HDV := hid (div_step x (clN O N k))
          clear hkO
          clear hcl hy hstep hP
          generalize hq : x / 256 ^ clN O N k = q at *
          replace hq := hid hq
          obtain ⟨hq0, hq1⟩ := hdv
          generalize hz : l[k] = z at *
          replace hz := hid hz
          go_wp2_with (at_builtin; refine append_byte rfl (.tmp 51) (.tmp 53) rfl w wr _ (P.take k) _ (by exact rfl) OWN.out _ (by exact rfl) rfl (by rw [List.length_take]; omega) ?_; intro v1 w1 own1)
          go_roundw
          case rel => exact ⟨k + 1, by omega, by go_num, by rw [HCL.out]; rw [← HDV.out], hid (by rw [HST.out]; exact own1)⟩
          case measure => simp [intOf]; omega
        · have d2 : decide ((O : Int) ≤ k) = true := decide_eq_true (by omega)
          have d3 : decide ((k : Int) < O + N) = false := decide_eq_false (by omega)
          have hcl : clN O N (k + 1) = clN O N k := by unfold clN; omega
          have hy : putY l O N x k = l[k] := by
            unfold putY
            rw [if_neg (by omega), List.getD_eq_getElem?_getD, List.getElem?_eq_getElem hlt]
            rfl
          rw [hy] at hstep
          have HST := hid hstep
          have HCL := hid hcl
          clear hcl hy hstep hP
          generalize hq : x / 256 ^ clN O N k = q at *
          replace hq := hid hq
          obtain ⟨hq0, hq1⟩ := hdv
          generalize hz : l[k] = z at *
          replace hz := hid hz
          go_wp2_with (at_builtin; refine append_byte rfl (.tmp 51) (.tmp 53) rfl w wr _ (P.take k) _ (by exact rfl) OWN.out _ (by exact rfl) rfl (by rw [List.length_take]; omega) ?_; intro v1 w1 own1)
          go_roundw
          case rel => exact ⟨k + 1, by omega, by go_num, by rw [HCL.out]; exact congrArg _ hq.out.symm, hid (by rw [HST.out]; exact own1)⟩
          case measure => simp [intOf]; omega
      · have d2 : decide ((O : Int) ≤ k) = false := decide_eq_false (by omega)
        have hcl : clN O N (k + 1) = clN O N k := by unfold clN; omega
        have hy : putY l O N x k = l[k] := by
          unfold putY
          rw [if_neg (by omega), List.getD_eq_getElem?_getD, List.getElem?_eq_getElem hlt]
          rfl
        rw [hy] at hstep
        have HST := hid hstep
        have HCL := hid hcl
        clear hcl hy hstep hP
        generalize hq : x / 256 ^ clN O N k = q at *
        replace hq := hid hq
        obtain ⟨hq0, hq1⟩ := hdv
        generalize hz : l[k] = z at *
        replace hz := hid hz
        go_wp2_with (at_builtin; refine append_byte rfl (.tmp 51) (.tmp 53) rfl w wr _ (P.take k) _ (by exact rfl) OWN.out _ (by exact rfl) rfl (by rw [List.length_take]; omega) ?_; intro v1 w1 own1)
        go_roundw
        case rel => exact ⟨k + 1, by omega, by go_num, by rw [HCL.out]; exact congrArg _ hq.out.symm, hid (by rw [HST.out]; exact own1)⟩
        case measure => simp [intOf]; omega
    · go_wp2
      have hkl : k = l.length := by omega
      have hPk : P.take k = P := by rw [hkl, ← hPl, List.take_length]
      rw [hPk] at OWN

      go_ret2
      exact ⟨_, rfl, OWN.out⟩

end Go.Proofs.Ytjlaenkfjejbkaa
