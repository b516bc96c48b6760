/-
  Slots: what makes one right, as the landed code has it; the comparison of two slots.
-/
import Derived.Test.YtjlaenkfjejbkaaMeG
import Derived.DeepKeys
namespace Go.Proofs.Ytjlaenkfjejbkaa
set_option linter.unusedSimpArgs false
set_option linter.unusedVariables false
open Go.ChangeShapes Go.WideShapes Go.ChangeAt Go.RowKit

def bLit (l : List Int) : List Lit := l.map (Lit.int .u8)
def vLit (v : Vl) : List Lit := [.int .u8 v.k, .int .i64 v.m, .int .u64 v.n, .int .i64 v.o]
def sLit (s : Sl) : List Lit := Lit.int .u8 s.h :: (bLit s.b ++ vLit s.v)
theorem vLit_inj {a b : Vl} (h : vLit a = vLit b) : a = b := by
  cases a; cases b
  simpa [vLit] using h
theorem bLit_inj : ∀ {a b : List Int}, bLit a = bLit b → a = b := by
  intro a b h
  unfold bLit at h
  exact (List.map_inj_right (fun x y e => by simpa using e)).1 h
theorem sLit_inj {a b : Sl} (ha : SOk a) (hb : SOk b) (h : sLit a = sLit b) : a = b := by
  obtain ⟨x, l, v⟩ := a
  obtain ⟨y, m, u⟩ := b
  simp only [sLit, List.cons.injEq, Lit.int.injEq, true_and] at h
  have hl : (bLit l).length = (bLit m).length := by simp [bLit, ha.2.1, hb.2.1]
  obtain ⟨h1, h2⟩ := List.append_inj h.2 hl
  rw [h.1, bLit_inj h1, vLit_inj h2]
theorem sLit_len {s : Sl} (h : SOk s) : (sLit s).length = 13 := by simp [sLit, bLit, vLit, h.2.1]

theorem wf_u8 (x : Int) (h : 0 ≤ x ∧ x < 256) : (Lit.int .u8 x).wf = true := by
  have a : (0 : Int) ≤ x := h.1
  have b : x ≤ 255 := by omega
  simp [Lit.wf, IntKind.min, IntKind.max, IntKind.signed, IntKind.bits, a, b]
theorem wf_i64 (x : Int) (h : -9223372036854775808 ≤ x ∧ x < 9223372036854775808) : (Lit.int .i64 x).wf = true := by
  have a := h.1
  have b : x ≤ 9223372036854775807 := by omega
  simp [Lit.wf, IntKind.min, IntKind.max, IntKind.signed, IntKind.bits, a, b]
theorem wf_u64 (x : Int) (h : 0 ≤ x ∧ x < 18446744073709551616) : (Lit.int .u64 x).wf = true := by
  have a := h.1
  have b : x ≤ 18446744073709551615 := by omega
  simp [Lit.wf, IntKind.min, IntKind.max, IntKind.signed, IntKind.bits, a, b]

theorem mapM_some {α β : Type} (f : α → Option β) (g : α → β) : ∀ (l : List α), (∀ a ∈ l, f a = some (g a)) → l.mapM f = some (l.map g)
  | [], _ => rfl
  | a :: l, h => by
    rw [List.mapM_cons, h a (List.mem_cons_self ..), mapM_some f g l (fun b hb => h b (List.mem_cons_of_mem _ hb))]
    rfl
theorem c5 : Try.prog.cellsOf 5 = 1 := by kernel_rfl
theorem c3 : Try.prog.cellsOf 3 = 1 := by kernel_rfl
theorem c23 : Try.prog.cellsOf 23 = 1 := by kernel_rfl
theorem c2 : Try.prog.cellsOf 2 = 1 := by kernel_rfl
theorem c22 : Try.prog.cellsOf 22 = 8 := by kernel_rfl
theorem c25 : Try.prog.cellsOf 25 = 4 := by kernel_rfl
theorem c33 : Try.prog.cellsOf 33 = 13 := by kernel_rfl
theorem c35 : Try.prog.cellsOf 35 = 832 := by kernel_rfl

theorem kl_u8 (D : Nat) (x : Int) (h : 0 ≤ x ∧ x < 256) : Try.prog.keyLits (D + 1) 5 [.int .u8 x] = some [.int .u8 x] := by
  simp [Program.keyLits, Try.underlying5, wf_u8 x h]
theorem kl_i64 (D : Nat) (x : Int) (h : -9223372036854775808 ≤ x ∧ x < 9223372036854775808) : Try.prog.keyLits (D + 1) 3 [.int .i64 x] = some [.int .i64 x] := by
  simp [Program.keyLits, Try.underlying3, wf_i64 x h]
theorem kl_i64' (D : Nat) (x : Int) (h : -9223372036854775808 ≤ x ∧ x < 9223372036854775808) : Try.prog.keyLits (D + 1) 2 [.int .i64 x] = some [.int .i64 x] := by
  simp [Program.keyLits, Try.underlying2, wf_i64 x h]
theorem kl_u64 (D : Nat) (x : Int) (h : 0 ≤ x ∧ x < 18446744073709551616) : Try.prog.keyLits (D + 1) 23 [.int .u64 x] = some [.int .u64 x] := by
  simp [Program.keyLits, Try.underlying23, wf_u64 x h]
theorem kl_v (D : Nat) (v : Vl) (h : VOk v) : Try.prog.keyLits (D + 2) 25 (vC v) = some (vLit v) := by
  obtain ⟨h1, h2, h3, h4⟩ := h
  unfold Program.keyLits
  simp [Try.underlying25, vC, vLit, c25, c5, c3, c23, c2, kl_u8 D _ h1, kl_i64 D _ h2, kl_u64 D _ h3, kl_i64' D _ h4]
theorem kl_b (D : Nat) (l : List Int) (hl : l.length = 8) (h : ∀ x ∈ l, 0 ≤ x ∧ x < 256) : Try.prog.keyLits (D + 2) 22 (bC l) = some (bLit l) := by
  unfold Program.keyLits
  simp only [Try.underlying22, c22, c5]
  rw [if_pos (by simp [bC, hl]), mapM_some _ (fun i => [Lit.int .u8 (l.getD i 0)])]
  · obtain ⟨a, b, c, d, e, f, g, i, rfl⟩ := eight hl
    rfl
  · intro i hi
    have hi' : i < l.length := by rw [hl]; exact List.mem_range.1 hi
    have e : ((bC l).drop (i * 1)).take 1 = [.int .u8 (l.getD i 0)] := by
      rw [Nat.mul_one, List.drop_eq_getElem_cons (by simp [bC]; exact hi')]
      simp [bC, hi']
    rw [e]
    exact kl_u8 D _ (h _ (by simp [hi']))
theorem kl_s (D : Nat) (s : Sl) (h : SOk s) : Try.prog.keyLits (D + 3) 33 (sC s) = some (sLit s) := by
  obtain ⟨h1, h2, h3, h4⟩ := h
  have e1 := kl_b D s.b h2 h3
  have e2 := kl_v D s.v h4
  have e0 := kl_u8 (D + 1) s.h h1
  have l8 : (bC s.b).length = 8 := by simp [bC, h2]
  unfold Program.keyLits
  have e2' := e2
  unfold vC at e2'
  simp [Try.underlying33, sC, sLit, c33, c25, c5, c22, l8, vC]
  rw [e0, e1, e2']
  simp

/-- A frame's cells. -/
def fC (F : Nat → Sl) : List Value := (List.range 64).flatMap fun k => sC (F k)
def fV (F : Nat → Sl) : Value := .agg (fC F).toArray
theorem flat_len {α : Type} (f : Nat → List α) (c : Nat) : ∀ n, (∀ k, k < n → (f k).length = c) → ((List.range n).flatMap f).length = n * c
  | 0, _ => by simp
  | n + 1, h => by
    rw [List.range_succ, List.flatMap_append, List.length_append, flat_len f c n (fun k hk => h k (by omega))]
    simp [h n (by omega), Nat.succ_mul]
theorem flat_at {α : Type} (f : Nat → List α) (c : Nat) : ∀ n, (∀ k, k < n → (f k).length = c) → ∀ i j, i < n → j < c → ((List.range n).flatMap f)[i * c + j]? = (f i)[j]?
  | 0, _, i, j, hi, _ => by omega
  | n + 1, h, i, j, hi, hj => by
    have hl := flat_len f c n (fun k hk => h k (by omega))
    rw [List.range_succ, List.flatMap_append]
    by_cases e : i = n
    · subst e
      rw [List.getElem?_append_right (by rw [hl]; omega), hl]
      simp
    · have hin : i < n := by omega
      have : i * c + c ≤ n * c := by rw [← Nat.succ_mul]; exact Nat.mul_le_mul_right c hin
      rw [List.getElem?_append_left (by rw [hl]; omega)]
      exact flat_at f c n (fun k hk => h k (by omega)) i j hin hj
theorem fC_len {F : Nat → Sl} (h : FOk F) : (fC F).length = 832 := flat_len _ 13 64 (fun k hk => sC_len (h k hk))
theorem fC_at {F : Nat → Sl} (h : FOk F) (i j : Nat) (hi : i < 64) (hj : j < 13) : (fC F)[i * 13 + j]? = (sC (F i))[j]? :=
  flat_at _ 13 64 (fun k hk => sC_len (h k hk)) i j hi hj
theorem fC_part {F : Nat → Sl} (h : FOk F) (i : Nat) (hi : i < 64) : ((fC F).drop (i * 13)).take 13 = sC (F i) := by
  apply List.ext_getElem?
  intro j
  by_cases hj : j < 13
  · rw [List.getElem?_take_of_lt hj, List.getElem?_drop, fC_at h i j hi hj]
  · rw [List.getElem?_eq_none (by simp; omega), List.getElem?_eq_none (by rw [sC_len (h i hi)]; omega)]
theorem range_at {w : World} {g o : Nat} {F : Nat → Sl} (hF : FOk F) (hr : w.rangeAt g o (fC F)) (k : Nat) (hk : k < 64) : w.rangeAt g (o + k * 13) (sC (F k)) := fun j v hv => by
  have hj : j < 13 := by have := (List.getElem?_eq_some_iff.1 hv).1; rwa [sC_len (hF k hk)] at this
  have := hr (k * 13 + j) v (by rw [fC_at hF k j hk hj]; exact hv)
  rw [← Nat.add_assoc] at this
  exact this

def fLit (F : Nat → Sl) : List (List Lit) := (List.range 64).map fun k => sLit (F k)
theorem kl_f (D : Nat) (F : Nat → Sl) (h : FOk F) : Try.prog.keyLits (D + 4) 35 (fC F) = some (fLit F).flatten := by
  have hl := fC_len h
  unfold Program.keyLits
  simp only [Try.underlying35, c35, c33]
  rw [if_pos hl, mapM_some _ (fun k => sLit (F k))]
  · rfl
  · intro i hi
    rw [fC_part h i (List.mem_range.1 hi)]
    exact kl_s D _ (h i (List.mem_range.1 hi))
theorem flat_inj {α : Type} (f g : Nat → List α) (c : Nat) : ∀ n, (∀ k, k < n → (f k).length = c) → (∀ k, k < n → (g k).length = c) → ((List.range n).map f).flatten = ((List.range n).map g).flatten → ∀ k, k < n → f k = g k := by
  intro n hf hg h k hk
  apply List.ext_getElem?
  intro j
  by_cases hj : j < c
  · have a := flat_at f c n hf k j hk hj
    have b := flat_at g c n hg k j hk hj
    rw [List.flatMap_def] at a b
    rw [← a, ← b, h]
  · rw [List.getElem?_eq_none (by rw [hf k hk]; omega), List.getElem?_eq_none (by rw [hg k hk]; omega)]

def sB (a b : Sl) : Bool := decide (a = b)
def fB (F G : Nat → Sl) : Bool := (List.range 64).all fun k => sB (F k) (G k)
theorem fB_iff (F G : Nat → Sl) : fB F G = true ↔ ∀ k, k < 64 → F k = G k := by
  simp [fB, sB]
theorem formed33 (s : Sl) (h : SOk s) : (sV s).formed Try.prog 33 = true := by
  simp [Value.formed, sV, Try.underlying33, c33, sC_len h]
theorem formed35 (F : Nat → Sl) (h : FOk F) : (fV F).formed Try.prog 35 = true := by
  simp [Value.formed, fV, Try.underlying35, c35, fC_len h]
theorem kt33 : Try.prog.keyTypeAt 4 33 = true := by kernel_rfl
theorem kt35 : Try.prog.keyTypeAt 5 35 = true := by kernel_rfl
theorem eqIn_s (a b : Sl) (ha : SOk a) (hb : SOk b) (W : World) : (Op.equalIn 10000 33 (sV a) (sV b)).run Try.prog W = .ok (sB a b) W := by
  obtain ⟨r, h1, h2⟩ := run_equalIn_deep (P := Try.prog) 9996 4 _ kt33 W 3 3 (sV a) (sV b) (sLit a) (sLit b) (formed33 a ha) (formed33 b hb) (kl_s 0 a ha) (kl_s 0 b hb)
  rw [h1]
  congr 1
  rw [Bool.eq_iff_iff, h2, sB, decide_eq_true_eq]
  exact ⟨fun e => sLit_inj ha hb e, fun e => by rw [e]⟩
theorem eqIn_f (F G : Nat → Sl) (hF : FOk F) (hG : FOk G) (W : World) : (Op.equalIn 10000 35 (fV F) (fV G)).run Try.prog W = .ok (fB F G) W := by
  obtain ⟨r, h1, h2⟩ := run_equalIn_deep (P := Try.prog) 9995 5 _ kt35 W 4 4 (fV F) (fV G) _ _ (formed35 F hF) (formed35 G hG) (kl_f 0 F hF) (kl_f 0 G hG)
  rw [h1]
  congr 1
  rw [Bool.eq_iff_iff, h2, fB_iff]
  constructor
  · intro e k hk
    exact sLit_inj (hF k hk) (hG k hk) (flat_inj (fun k => sLit (F k)) (fun k => sLit (G k)) 13 64 (fun k hk => sLit_len (hF k hk)) (fun k hk => sLit_len (hG k hk)) e k hk)
  · intro e
    unfold fLit
    congr 1
    apply List.map_congr_left
    intro k hk
    rw [e k (List.mem_range.1 hk)]
theorem eq_s (a b : Sl) (ha : SOk a) (hb : SOk b) (W : World) : (binOp .eql 33 (sV a) (sV b)).run Try.prog W = .ok (.bool (sB a b)) W := by
  rw [sV, sV, run_eql_struct, ← sV, ← sV, eqIn_s a b ha hb]
  rfl
theorem eq_f (F G : Nat → Sl) (hF : FOk F) (hG : FOk G) (W : World) : (binOp .eql 35 (fV F) (fV G)).run Try.prog W = .ok (.bool (fB F G)) W := by
  rw [fV, fV, run_eql_struct, ← fV, ← fV, eqIn_f F G hF hG]
  rfl

end Go.Proofs.Ytjlaenkfjejbkaa
