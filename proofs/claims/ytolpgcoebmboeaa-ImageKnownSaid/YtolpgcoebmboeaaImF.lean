/-
  Images that are the same; copies; bytes that are the same; the laws' 'large'.
-/
import Derived.Test.YtolpgcoebmboeaaImD
namespace Go.Proofs.Ytolpgcoebmboeaa
set_option linter.unusedSimpArgs false
set_option linter.unusedVariables false
open Go.ChangeShapes Go.WideShapes Go.ChangeAt Go.RowKit

theorem M4.eq_of {a b : M4} (h : (a.kind == b.kind && (a.key == b.key && (a.value == b.value && a.cap == b.cap))) = true) : a = b := by
  obtain ⟨a0, a1, a2, a3⟩ := a
  obtain ⟨b0, b1, b2, b3⟩ := b
  simp at h
  obtain ⟨rfl, rfl, rfl, rfl⟩ := h
  rfl
def mEq (a b : M4) : Bool := a.kind == b.kind && (a.key == b.key && (a.value == b.value && a.cap == b.cap))
def iEq (a b : I5) : Bool := a.op == b.op && (a.dst == b.dst && (a.src == b.src && (a.off == b.off && a.imm == b.imm)))
theorem mEq_iff (a b : M4) : mEq a b = true ↔ a = b := by
  refine ⟨M4.eq_of, ?_⟩
  rintro rfl
  simp [mEq]
theorem iEq_iff (a b : I5) : iEq a b = true ↔ a = b := by
  obtain ⟨a0, a1, a2, a3, a4⟩ := a
  obtain ⟨b0, b1, b2, b3, b4⟩ := b
  simp [iEq]
theorem neq_map (a b : M4) (W : World) : (binOp .neq 48 a.V b.V).run Try.prog W = .ok (.bool (!mEq a b)) W := by
  unfold M4.V mEq
  cases h0 : (a.kind == b.kind) <;> cases h1 : (a.key == b.key) <;> cases h2 : (a.value == b.value) <;> cases h3 : (a.cap == b.cap) <;> simp [go_sem, h0, h1, h2, h3]
theorem eql_map (a b : M4) (W : World) : (binOp .eql 48 a.V b.V).run Try.prog W = .ok (.bool (mEq a b)) W := by
  unfold M4.V mEq
  cases h0 : (a.kind == b.kind) <;> cases h1 : (a.key == b.key) <;> cases h2 : (a.value == b.value) <;> cases h3 : (a.cap == b.cap) <;> simp [go_sem, h0, h1, h2, h3]
theorem neq_insn (a b : I5) (W : World) : (binOp .neq 51 a.V b.V).run Try.prog W = .ok (.bool (!iEq a b)) W := by
  unfold I5.V iEq
  cases h0 : (a.op == b.op) <;> cases h1 : (a.dst == b.dst) <;> cases h2 : (a.src == b.src) <;> cases h3 : (a.off == b.off) <;> cases h4 : (a.imm == b.imm) <;> simp [go_sem, h0, h1, h2, h3, h4]
theorem ext_mp {l l' : List M4} (hl : l.length = l'.length) (h : ∀ j, j < l.length → mpA l j = mpA l' j) : l = l' := by
  refine List.ext_getElem hl fun j h1 h2 => ?_
  have := h j h1
  unfold mpA at this
  rwa [List.getD_eq_getElem?_getD, List.getD_eq_getElem?_getD, List.getElem?_eq_getElem h1, List.getElem?_eq_getElem h2] at this
theorem ext_cd {l l' : List I5} (hl : l.length = l'.length) (h : ∀ j, j < l.length → at5 l j = at5 l' j) : l = l' := by
  refine List.ext_getElem hl fun j h1 h2 => ?_
  have := h j h1
  unfold at5 at this
  rwa [List.getD_eq_getElem?_getD, List.getD_eq_getElem?_getD, List.getElem?_eq_getElem h1, List.getElem?_eq_getElem h2] at this
theorem ext_by {l l' : List Int} (hl : l.length = l'.length) (h : ∀ j, j < l.length → l.getD j 0 = l'.getD j 0) : l = l' := by
  refine List.ext_getElem hl fun j h1 h2 => ?_
  have := h j h1
  rwa [List.getD_eq_getElem?_getD, List.getD_eq_getElem?_getD, List.getElem?_eq_getElem h1, List.getElem?_eq_getElem h2] at this
instance : DecidableEq M4 := fun a b => if h : mEq a b = true then .isTrue ((mEq_iff a b).1 h) else .isFalse (fun e => h ((mEq_iff a b).2 e))
set_option maxHeartbeats 3200000 in
theorem eqMaps (p q : Option Addr) (c d n₀ : Nat) (l l' : List M4) (w : World) (hn : n₀ ≤ w.heap.size) (h1 : MpSl n₀ w p l.length l) (h2 : MpSl n₀ w q l'.length l') :
    Calls Try.prog 25 #[.slice p l.length c, .slice q l'.length d] w fun e w' => e = .returned (.bool (decide (l = l'))) ∧ Below w.heap.size w w' := by
  by_cases hne : l.length = l'.length
  rotate_left
  · have d0 : ((l.length : Int) != (l'.length : Int)) = true := by simp; omega
    have d1 : (l.length != l'.length) = true := by simpa using hne
    have hr : decide (l = l') = false := decide_eq_false (fun e => hne (by rw [e]))
    rw [hr]
    clear hne h1 h2 hr
    go_enter Try.func25, Try.ntmps25
    go_wp2
    go_ret
    exact ⟨rfl, Below.refl _ _⟩
  have hc1 : ∀ k, k < l.length → ∃ b off, p = some ⟨b, off, none⟩ ∧ b < w.heap.size ∧ MapAt w b (off + k * 4) (mpA l k) := by
    intro k hk
    obtain ⟨b, off, e, hb, hc⟩ := h1.2.2.resolve_left (by omega)
    exact ⟨b, off, e, by omega, hc k hk⟩
  have hc2 : ∀ k, k < l.length → ∃ b off, q = some ⟨b, off, none⟩ ∧ b < w.heap.size ∧ MapAt w b (off + k * 4) (mpA l' k) := by
    intro k hk
    obtain ⟨b, off, e, hb, hc⟩ := h2.2.2.resolve_left (by omega)
    exact ⟨b, off, e, by omega, hc k (by omega)⟩
  have H1 := hid hc1
  have H2 := hid hc2
  have HN := hid hne
  have d0 : ((l.length : Int) != (l'.length : Int)) = false := by simp; omega
  have d1 : (l.length != l'.length) = false := by simpa using hne
  have HEX := hid (fun (h : ∀ j, j < l.length → mpA l j = mpA l' j) => decide_eq_true (ext_mp hne h))
  have HNE := hid (fun (k : Nat) (h : mpA l k ≠ mpA l' k) => (decide_eq_false (fun (e : l = l') => h (by rw [e]))))
  have hln : l.length < 4611686018427387904 := by have := h1.2.1; omega
  generalize decide (l = l') = r at *
  rw [← hne]
  clear hc1 hc2 h1 h2 hne d0 d1
  have d0 : ((l.length : Int) != (l.length : Int)) = false := by simp
  have d1 : (l.length != l.length) = false := by simp
  go_enter Try.func25, Try.ntmps25
  go_wp2
  go_loopw [13] (fun i wr => ∃ k : Nat, k ≤ l.length ∧ i = .int .i64 k ∧ Hid (Below w.heap.size w wr) ∧ Hid (∀ j, j < k → mpA l j = mpA l' j)) (fun i _ => l.length - (intOf i).toNat)
  case atStart => exact ⟨0, Nat.zero_le _, rfl, hid (Below.refl _ _), hid (fun j hj => absurd hj (Nat.not_lt_zero _))⟩
  case round =>
    obtain ⟨k, hk, rfl, HB, HE⟩ := hrel
    by_cases hlt : k < l.length
    · have hli : (k : Int) < (l.length : Int) := by omega
      have hl0 : 0 ≤ (k : Int) := by omega
      have hbr := HB.out
      obtain ⟨b1, off1, rfl, hb1, rm0, rm1, rm2, rm3⟩ := H1.out k hlt
      obtain ⟨b2, off2, rfl, hb2, sm0, sm1, sm2, sm3⟩ := H2.out k hlt
      have r0 := (hbr.cell (p := ⟨b1, off1 + k * 4, none⟩) hb1).trans rm0
      have r1 := (hbr.cell (p := ⟨b1, off1 + k * 4 + 1, none⟩) hb1).trans rm1
      have r2 := (hbr.cell (p := ⟨b1, off1 + k * 4 + 2, none⟩) hb1).trans rm2
      have r3 := (hbr.cell (p := ⟨b1, off1 + k * 4 + 3, none⟩) hb1).trans rm3
      have s0 := (hbr.cell (p := ⟨b2, off2 + k * 4, none⟩) hb2).trans sm0
      have s1 := (hbr.cell (p := ⟨b2, off2 + k * 4 + 1, none⟩) hb2).trans sm1
      have s2 := (hbr.cell (p := ⟨b2, off2 + k * 4 + 2, none⟩) hb2).trans sm2
      have s3 := (hbr.cell (p := ⟨b2, off2 + k * 4 + 3, none⟩) hb2).trans sm3
      clear rm0 rm1 rm2 rm3 sm0 sm1 sm2 sm3
      have EQ := hid (fun W => neq_map (mpA l k) (mpA l' k) W)
      have HN1 := hid (HNE.out k)
      have HI := hid (mEq_iff (mpA l k) (mpA l' k))
      have HE2 := hid (fun (h : mpA l k = mpA l' k) (j : Nat) (hj : j < k + 1) => (if e : j = k then by rw [e]; exact h else HE.out j (by omega) : mpA l j = mpA l' j))
      generalize mpA l k = x at *
      generalize mpA l' k = y at *
      cases hxy : mEq x y
      · have hr : r = false := HN1.out (fun e => by rw [(HI.out).2 e] at hxy; exact absurd hxy (by decide))
        have EQ' : ∀ W, (binOp .neq 48 x.V y.V).run Try.prog W = .ok (.bool true) W := fun W => by rw [EQ.out W, hxy]; rfl
        subst hr
        clear EQ HN1 HI HE2 HEX HNE HE hxy hbr
        unfold M4.V at EQ'
        obtain ⟨x0, x1, x2, x3⟩ := x
        obtain ⟨y0, y1, y2, y3⟩ := y
        dsimp only at EQ' r0 r1 r2 r3 s0 s1 s2 s3
        go_wp2
        go_quiet (fail)
        go_wp2
        go_ret
        exact ⟨rfl, below_dn HB.out _⟩
      · have hE := hid (HE2.out (HI.out.1 hxy))
        have EQ' : ∀ W, (binOp .neq 48 x.V y.V).run Try.prog W = .ok (.bool false) W := fun W => by rw [EQ.out W, hxy]; rfl
        clear EQ HN1 HI HE2 HEX HNE HE hxy hbr
        unfold M4.V at EQ'
        obtain ⟨x0, x1, x2, x3⟩ := x
        obtain ⟨y0, y1, y2, y3⟩ := y
        dsimp only at EQ' r0 r1 r2 r3 s0 s1 s2 s3
        go_wp2
        go_quiet (fail)
        go_wp2
        exact ⟨⟨k + 1, by omega, by go_num, hid (below_dn HB.out _), hE⟩, by simp [intOf]; omega⟩
    · obtain rfl : k = l.length := by omega
      have hr : r = true := HEX.out HE.out
      subst hr
      clear hlt HEX HNE HE
      go_wp2
      go_ret
      exact ⟨rfl, HB.out⟩
set_option maxHeartbeats 3200000 in
theorem eqCode (p q : Option Addr) (c d n₀ : Nat) (l l' : List I5) (w : World) (hn : n₀ ≤ w.heap.size) (h1 : CdSl n₀ w p l.length l) (h2 : CdSl n₀ w q l'.length l') :
    Calls Try.prog 26 #[.slice p l.length c, .slice q l'.length d] w fun e w' => e = .returned (.bool (decide (l = l'))) ∧ Below w.heap.size w w' := by
  by_cases hne : l.length = l'.length
  rotate_left
  · have d0 : ((l.length : Int) != (l'.length : Int)) = true := by simp; omega
    have d1 : (l.length != l'.length) = true := by simpa using hne
    have hr : decide (l = l') = false := decide_eq_false (fun e => hne (by rw [e]))
    rw [hr]
    clear hne h1 h2 hr
    go_enter Try.func26, Try.ntmps26
    go_wp2
    go_ret
    exact ⟨rfl, Below.refl _ _⟩
  have hc1 : ∀ k, k < l.length → ∃ b off, p = some ⟨b, off, none⟩ ∧ b < w.heap.size ∧ InsAt w b (off + k * 5) (at5 l k) := by
    intro k hk
    obtain ⟨b, off, e, hb, hc⟩ := h1.2.2.2.resolve_left (by omega)
    exact ⟨b, off, e, by omega, hc k hk⟩
  have hc2 : ∀ k, k < l.length → ∃ b off, q = some ⟨b, off, none⟩ ∧ b < w.heap.size ∧ InsAt w b (off + k * 5) (at5 l' k) := by
    intro k hk
    obtain ⟨b, off, e, hb, hc⟩ := h2.2.2.2.resolve_left (by omega)
    exact ⟨b, off, e, by omega, hc k (by omega)⟩
  have H1 := hid hc1
  have H2 := hid hc2
  have HN := hid hne
  have d0 : ((l.length : Int) != (l'.length : Int)) = false := by simp; omega
  have d1 : (l.length != l'.length) = false := by simpa using hne
  have HEX := hid (fun (h : ∀ j, j < l.length → at5 l j = at5 l' j) => decide_eq_true (ext_cd hne h))
  have HNE := hid (fun (k : Nat) (h : at5 l k ≠ at5 l' k) => (decide_eq_false (fun (e : l = l') => h (by rw [e]))))
  have hln : l.length < 4611686018427387904 := by have := h1.2.2.1; omega
  generalize decide (l = l') = r at *
  rw [← hne]
  clear hc1 hc2 h1 h2 hne d0 d1
  have d0 : ((l.length : Int) != (l.length : Int)) = false := by simp
  have d1 : (l.length != l.length) = false := by simp
  go_enter Try.func26, Try.ntmps26
  go_wp2
  go_loopw [13] (fun i wr => ∃ k : Nat, k ≤ l.length ∧ i = .int .i64 k ∧ Hid (Below w.heap.size w wr) ∧ Hid (∀ j, j < k → at5 l j = at5 l' j)) (fun i _ => l.length - (intOf i).toNat)
  case atStart => exact ⟨0, Nat.zero_le _, rfl, hid (Below.refl _ _), hid (fun j hj => absurd hj (Nat.not_lt_zero _))⟩
  case round =>
    obtain ⟨k, hk, rfl, HB, HE⟩ := hrel
    by_cases hlt : k < l.length
    · have hli : (k : Int) < (l.length : Int) := by omega
      have hl0 : 0 ≤ (k : Int) := by omega
      have hbr := HB.out
      obtain ⟨b1, off1, rfl, hb1, rm0, rm1, rm2, rm3, rm4⟩ := H1.out k hlt
      obtain ⟨b2, off2, rfl, hb2, sm0, sm1, sm2, sm3, sm4⟩ := H2.out k hlt
      have r0 := (hbr.cell (p := ⟨b1, off1 + k * 5, none⟩) hb1).trans rm0
      have r1 := (hbr.cell (p := ⟨b1, off1 + k * 5 + 1, none⟩) hb1).trans rm1
      have r2 := (hbr.cell (p := ⟨b1, off1 + k * 5 + 2, none⟩) hb1).trans rm2
      have r3 := (hbr.cell (p := ⟨b1, off1 + k * 5 + 3, none⟩) hb1).trans rm3
      have r4 := (hbr.cell (p := ⟨b1, off1 + k * 5 + 4, none⟩) hb1).trans rm4
      have s0 := (hbr.cell (p := ⟨b2, off2 + k * 5, none⟩) hb2).trans sm0
      have s1 := (hbr.cell (p := ⟨b2, off2 + k * 5 + 1, none⟩) hb2).trans sm1
      have s2 := (hbr.cell (p := ⟨b2, off2 + k * 5 + 2, none⟩) hb2).trans sm2
      have s3 := (hbr.cell (p := ⟨b2, off2 + k * 5 + 3, none⟩) hb2).trans sm3
      have s4 := (hbr.cell (p := ⟨b2, off2 + k * 5 + 4, none⟩) hb2).trans sm4
      clear rm0 rm1 rm2 rm3 rm4 sm0 sm1 sm2 sm3 sm4
      have EQ := hid (fun W => neq_insn (at5 l k) (at5 l' k) W)
      have HN1 := hid (HNE.out k)
      have HI := hid (iEq_iff (at5 l k) (at5 l' k))
      have HE2 := hid (fun (h : at5 l k = at5 l' k) (j : Nat) (hj : j < k + 1) => (if e : j = k then by rw [e]; exact h else HE.out j (by omega) : at5 l j = at5 l' j))
      generalize at5 l k = x at *
      generalize at5 l' k = y at *
      cases hxy : iEq x y
      · have hr : r = false := HN1.out (fun e => by rw [(HI.out).2 e] at hxy; exact absurd hxy (by decide))
        have EQ' : ∀ W, (binOp .neq 51 x.V y.V).run Try.prog W = .ok (.bool true) W := fun W => by rw [EQ.out W, hxy]; rfl
        subst hr
        clear EQ HN1 HI HE2 HEX HNE HE hxy hbr
        unfold I5.V at EQ'
        obtain ⟨x0, x1, x2, x3, x4⟩ := x
        obtain ⟨y0, y1, y2, y3, y4⟩ := y
        dsimp only at EQ' r0 r1 r2 r3 r4 s0 s1 s2 s3 s4
        go_wp2
        go_quiet (fail)
        go_wp2
        go_ret
        exact ⟨rfl, below_dn HB.out _⟩
      · have hE := hid (HE2.out (HI.out.1 hxy))
        have EQ' : ∀ W, (binOp .neq 51 x.V y.V).run Try.prog W = .ok (.bool false) W := fun W => by rw [EQ.out W, hxy]; rfl
        clear EQ HN1 HI HE2 HEX HNE HE hxy hbr
        unfold I5.V at EQ'
        obtain ⟨x0, x1, x2, x3, x4⟩ := x
        obtain ⟨y0, y1, y2, y3, y4⟩ := y
        dsimp only at EQ' r0 r1 r2 r3 r4 s0 s1 s2 s3 s4
        go_wp2
        go_quiet (fail)
        go_wp2
        exact ⟨⟨k + 1, by omega, by go_num, hid (below_dn HB.out _), hE⟩, by simp [intOf]; omega⟩
    · obtain rfl : k = l.length := by omega
      have hr : r = true := HEX.out HE.out
      subst hr
      clear hlt HEX HNE HE
      go_wp2
      go_ret
      exact ⟨rfl, HB.out⟩
end Go.Proofs.Ytolpgcoebmboeaa
