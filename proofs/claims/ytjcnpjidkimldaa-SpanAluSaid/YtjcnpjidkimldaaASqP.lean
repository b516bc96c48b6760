/-
  Plain: the least and the greatest result of Or, And, Xor, found bit by bit from the highest one on, as the document does it.
-/
import Derived.Test.YtjcnpjidkimldaaASpQ
namespace Go.Proofs.Ytjcnpjidkimldaa
set_option linter.unusedSimpArgs false
set_option linter.unusedVariables false
set_option maxRecDepth 100000
open Go.RowKit

namespace Sq
/-- What is known of one number behind its bit. -/
def mkOk (s lo hi x : Nat) : Bool := !((s % 2 == 1 && decide (x < lo)) || (s / 2 % 2 == 1 && decide (hi < x)))
def mkS (s lo hi x : Nat) : Nat := (if x = lo then s % 2 else 0) + (if x = hi then 2 * (s / 2 % 2) else 0)
def bitN (n i : Nat) : Nat := n / 2 ^ i % 2
/-- Way j (a state and two bits) goes on. -/
def okJ (now : Nat → Bool) (g : Nat → Nat → Nat) (a b : Nat × Nat) (i want j : Nat) : Bool :=
  now (j / 4) && (g (j % 4 % 2) (j % 4 / 2) == want && (mkOk (j / 4 % 4) (bitN a.1 i) (bitN a.2 i) (j % 4 % 2) && mkOk (j / 4 / 4) (bitN b.1 i) (bitN b.2 i) (j % 4 / 2)))
def toJ (a b : Nat × Nat) (i j : Nat) : Nat := mkS (j / 4 % 4) (bitN a.1 i) (bitN a.2 i) (j % 4 % 2) + 4 * mkS (j / 4 / 4) (bitN b.1 i) (bitN b.2 i) (j % 4 / 2)
def nextN (now : Nat → Bool) (g : Nat → Nat → Nat) (a b : Nat × Nat) (i want k t : Nat) : Bool := (List.range k).any fun j => okJ now g a b i want j && t == toJ a b i j
def someN (now : Nat → Bool) (g : Nat → Nat → Nat) (a b : Nat × Nat) (i want k : Nat) : Bool := (List.range k).any fun j => okJ now g a b i want j
theorem nextN_succ {now g a b i want k t} : nextN now g a b i want (k + 1) t = (nextN now g a b i want k t || (okJ now g a b i want k && t == toJ a b i k)) := by
  unfold nextN; rw [List.range_succ, List.any_append]; simp
theorem someN_succ {now g a b i want k} : someN now g a b i want (k + 1) = (someN now g a b i want k || okJ now g a b i want k) := by
  unfold someN; rw [List.range_succ, List.any_append]; simp
theorem nextN_skip {now g a b i want s t} (h : now s = false) : nextN now g a b i want (4 * s + 4) t = nextN now g a b i want (4 * s) t := by
  have : ∀ v, v < 4 → okJ now g a b i want (4 * s + v) = false := fun v hv => by
    unfold okJ
    rw [show (4 * s + v) / 4 = s by omega, h]; rfl
  rw [show 4 * s + 4 = 4 * s + 3 + 1 by omega, nextN_succ, this 3 (by omega), show 4 * s + 3 = 4 * s + 2 + 1 by omega, nextN_succ, this 2 (by omega), show 4 * s + 2 = 4 * s + 1 + 1 by omega, nextN_succ, this 1 (by omega), nextN_succ, show okJ now g a b i want (4 * s) = false from this 0 (by omega)]
  simp
theorem someN_skip {now g a b i want s} (h : now s = false) : someN now g a b i want (4 * s + 4) = someN now g a b i want (4 * s) := by
  have : ∀ v, v < 4 → okJ now g a b i want (4 * s + v) = false := fun v hv => by
    unfold okJ
    rw [show (4 * s + v) / 4 = s by omega, h]; rfl
  rw [show 4 * s + 4 = 4 * s + 3 + 1 by omega, someN_succ, this 3 (by omega), show 4 * s + 3 = 4 * s + 2 + 1 by omega, someN_succ, this 2 (by omega), show 4 * s + 2 = 4 * s + 1 + 1 by omega, someN_succ, this 1 (by omega), someN_succ, show okJ now g a b i want (4 * s) = false from this 0 (by omega)]
  simp
/-- A step: the bit that is wanted, if any way goes there; else the other one. -/
def stN (g : Nat → Nat → Nat) (a b : Nat × Nat) (want i : Nat) (p : (Nat → Bool) × Nat) : (Nat → Bool) × Nat :=
  if someN p.1 g a b i want 64 = true then (nextN p.1 g a b i want 64, 2 * p.2 + want) else (nextN p.1 g a b i (1 - want) 64, 2 * p.2 + (1 - want))
def lstN (g : Nat → Nat → Nat) (a b : Nat × Nat) (want : Nat) : Nat → (Nat → Bool) × Nat
  | 0 => (fun s => s == 15, 0)
  | k + 1 => stN g a b want (63 - k) (lstN g a b want k)

/-- A number's highest bits, and where they stand in a span. -/
def Rng (a : Nat × Nat) (i x : Nat) : Prop := a.1 / 2 ^ i ≤ x ∧ x ≤ a.2 / 2 ^ i
def Stt (a : Nat × Nat) (i x : Nat) : Nat := (if x = a.1 / 2 ^ i then 1 else 0) + (if x = a.2 / 2 ^ i then 2 else 0)
theorem half_bit (n i : Nat) : n / 2 ^ i = 2 * (n / 2 ^ (i + 1)) + bitN n i := by
  unfold bitN
  rw [Nat.pow_succ, ← Nat.div_div_eq_div_mul]; omega
theorem bitN_lt (n i : Nat) : bitN n i < 2 := Nat.mod_lt _ (by decide)
theorem Stt_lt (a : Nat × Nat) (i x : Nat) : Stt a i x < 4 := by unfold Stt; split <;> split <;> omega
/-- One bit more. -/
theorem rng_step {a : Nat × Nat} {i x b : Nat} (hb : b < 2) : Rng a i (2 * x + b) ↔ Rng a (i + 1) x ∧ mkOk (Stt a (i + 1) x) (bitN a.1 i) (bitN a.2 i) b = true := by
  unfold Rng mkOk Stt
  rw [half_bit a.1 i, half_bit a.2 i]
  have h1 := bitN_lt a.1 i
  have h2 := bitN_lt a.2 i
  generalize bitN a.1 i = l at *
  generalize bitN a.2 i = h at *
  generalize a.1 / 2 ^ (i + 1) = L
  generalize a.2 / 2 ^ (i + 1) = M
  have key : ∀ s : Nat, (!((s % 2 == 1 && decide (b < l)) || (s / 2 % 2 == 1 && decide (h < b)))) = true ↔ ((s % 2 = 1 → l ≤ b) ∧ (s / 2 % 2 = 1 → b ≤ h)) := by
    intro s
    simp only [Bool.not_eq_true', Bool.or_eq_false_iff, Bool.and_eq_false_imp, beq_iff_eq, decide_eq_false_iff_not, Nat.not_lt]
  rw [key]
  by_cases e1 : x = L
  · by_cases e2 : x = M
    · rw [if_pos e1, if_pos e2]; omega
    · rw [if_pos e1, if_neg e2]; omega
  · by_cases e2 : x = M
    · rw [if_neg e1, if_pos e2]; omega
    · rw [if_neg e1, if_neg e2]; omega
theorem stt_step {a : Nat × Nat} {i x b : Nat} (hb : b < 2) : Stt a i (2 * x + b) = mkS (Stt a (i + 1) x) (bitN a.1 i) (bitN a.2 i) b := by
  unfold mkS Stt
  rw [half_bit a.1 i, half_bit a.2 i]
  have h1 := bitN_lt a.1 i
  have h2 := bitN_lt a.2 i
  generalize bitN a.1 i = l at *
  generalize bitN a.2 i = h at *
  generalize a.1 / 2 ^ (i + 1) = L
  generalize a.2 / 2 ^ (i + 1) = M
  have c1 : 2 * x + b = 2 * L + l ↔ x = L ∧ b = l := by omega
  have c2 : 2 * x + b = 2 * M + h ↔ x = M ∧ b = h := by omega
  by_cases e1 : x = L <;> by_cases e2 : x = M <;> by_cases e3 : b = l <;> by_cases e4 : b = h
  all_goals (
    first | rw [if_pos (c1.2 ⟨e1, e3⟩)] | rw [if_neg (fun h => e1 (c1.1 h).1)] | rw [if_neg (fun h => e3 (c1.1 h).2)]
    first | rw [if_pos (c2.2 ⟨e2, e4⟩)] | rw [if_neg (fun h => e2 (c2.1 h).1)] | rw [if_neg (fun h => e4 (c2.1 h).2)]
    first | rw [if_pos e1] | rw [if_neg e1]
    first | rw [if_pos e2] | rw [if_neg e2]
    first | rw [if_pos e3] | rw [if_neg e3]
    first | rw [if_pos e4] | rw [if_neg e4])
/-- What is known of both numbers so far. -/
def NowOk (g : Nat → Nat → Nat) (a b : Nat × Nat) (i : Nat) (p : (Nat → Bool) × Nat) : Prop :=
  ∀ s, p.1 s = true ↔ ∃ x y, Rng a i x ∧ Rng b i y ∧ g x y = p.2 ∧ s = Stt a i x + 4 * Stt b i y
theorem next_ok {g : Nat → Nat → Nat} (hg : IsOp g) {a b : Nat × Nat} {i want : Nat} (hw : want < 2) {p : (Nat → Bool) × Nat} (h : NowOk g a b (i + 1) p) :
    NowOk g a b i (nextN p.1 g a b i want 64, 2 * p.2 + want) := by
  intro t
  have hbit := hg.bw.bit
  have g2 : ∀ u v, u < 2 → v < 2 → g u v < 2 := fun u v hu hv => (Bw.zero hg 0 u v hu hv).2
  unfold nextN
  rw [List.any_eq_true]
  constructor
  · rintro ⟨j, hj, hh⟩
    have hj64 := List.mem_range.1 hj
    unfold okJ toJ at hh
    simp only [Bool.and_eq_true, beq_iff_eq] at hh
    obtain ⟨⟨h1, h2, h3, h4⟩, h5⟩ := hh
    obtain ⟨x, y, rx, ry, hxy, hs⟩ := (h _).1 h1
    have lx := Stt_lt a (i + 1) x
    have ly := Stt_lt b (i + 1) y
    have ex : j / 4 % 4 = Stt a (i + 1) x := by omega
    have ey : j / 4 / 4 = Stt b (i + 1) y := by omega
    rw [ex] at h3 h5
    rw [ey] at h4 h5
    refine ⟨2 * x + j % 4 % 2, 2 * y + j % 4 / 2, (rng_step (by omega)).2 ⟨rx, h3⟩, (rng_step (by omega)).2 ⟨ry, h4⟩, ?_, ?_⟩
    · rw [hbit _ _ _ _ (by omega) (by omega), hxy, h2]
    · rw [stt_step (by omega), stt_step (by omega)]; exact h5
  · rintro ⟨x, y, rx, ry, hxy, hs⟩
    obtain ⟨x', u, rfl, hu⟩ : ∃ x' u, x = 2 * x' + u ∧ u < 2 := ⟨x / 2, x % 2, by omega, by omega⟩
    obtain ⟨y', v, rfl, hv⟩ : ∃ y' v, y = 2 * y' + v ∧ v < 2 := ⟨y / 2, y % 2, by omega, by omega⟩
    obtain ⟨rx', ox⟩ := (rng_step hu).1 rx
    obtain ⟨ry', oy⟩ := (rng_step hv).1 ry
    rw [hbit _ _ _ _ hu hv] at hxy
    have := g2 u v hu hv
    have lx := Stt_lt a (i + 1) x'
    have ly := Stt_lt b (i + 1) y'
    refine ⟨4 * (Stt a (i + 1) x' + 4 * Stt b (i + 1) y') + (u + 2 * v), List.mem_range.2 (by omega), ?_⟩
    unfold okJ toJ
    have e1 : (4 * (Stt a (i + 1) x' + 4 * Stt b (i + 1) y') + (u + 2 * v)) / 4 = Stt a (i + 1) x' + 4 * Stt b (i + 1) y' := by omega
    have e2 : (4 * (Stt a (i + 1) x' + 4 * Stt b (i + 1) y') + (u + 2 * v)) % 4 = u + 2 * v := by omega
    have e3 : (Stt a (i + 1) x' + 4 * Stt b (i + 1) y') % 4 = Stt a (i + 1) x' := by omega
    have e4 : (Stt a (i + 1) x' + 4 * Stt b (i + 1) y') / 4 = Stt b (i + 1) y' := by omega
    have e5 : (u + 2 * v) % 2 = u := by omega
    have e6 : (u + 2 * v) / 2 = v := by omega
    rw [e1, e2, e3, e4, e5, e6]
    simp only [Bool.and_eq_true, beq_iff_eq]
    refine ⟨⟨(h _).2 ⟨x', y', rx', ry', by omega, rfl⟩, by omega, ox, oy⟩, ?_⟩
    rw [hs, stt_step hu, stt_step hv]
theorem some_iff {g : Nat → Nat → Nat} {a b : Nat × Nat} {i want k : Nat} {now : Nat → Bool} : someN now g a b i want k = true ↔ ∃ t, nextN now g a b i want k t = true := by
  unfold someN nextN
  simp only [List.any_eq_true, Bool.and_eq_true, beq_iff_eq]
  constructor
  · rintro ⟨j, hj, h⟩; exact ⟨_, j, hj, h, rfl⟩
  · rintro ⟨t, j, hj, h, -⟩; exact ⟨j, hj, h⟩
/-- A bit below those of a number of a span that stays in it. -/
theorem child {a : Nat × Nat} (ha : a.1 ≤ a.2) {i x : Nat} (h : Rng a (i + 1) x) : ∃ u, u < 2 ∧ Rng a i (2 * x + u) := by
  have hle : a.1 / 2 ^ i ≤ a.2 / 2 ^ i := Nat.div_le_div_right ha
  unfold Rng at *
  rw [half_bit a.1 i, half_bit a.2 i] at *
  have h1 := bitN_lt a.1 i
  have h2 := bitN_lt a.2 i
  by_cases e : x = a.1 / 2 ^ (i + 1)
  · exact ⟨bitN a.1 i, h1, by omega, by omega⟩
  · exact ⟨0, by omega, by omega, by omega⟩
def Ext (g : Nat → Nat → Nat) (a b : Nat × Nat) (want i out : Nat) : Prop :=
  (∃ x y, Rng a i x ∧ Rng b i y ∧ g x y = out) ∧ ∀ x y, Rng a i x → Rng b i y → (want = 0 → out ≤ g x y) ∧ (want = 1 → g x y ≤ out)
theorem ext_step {g : Nat → Nat → Nat} (hg : IsOp g) {a b : Nat × Nat} (ha : a.1 ≤ a.2) (hb : b.1 ≤ b.2) {i want : Nat} (hw : want < 2) {p : (Nat → Bool) × Nat}
    (h : NowOk g a b (i + 1) p) (he : Ext g a b want (i + 1) p.2) : NowOk g a b i (stN g a b want i p) ∧ Ext g a b want i (stN g a b want i p).2 := by
  have hbit := hg.bw.bit
  have g2 : ∀ u v, u < 2 → v < 2 → g u v < 2 := fun u v hu hv => (Bw.zero hg 0 u v hu hv).2
  have down : ∀ {a : Nat × Nat} {x : Nat}, Rng a i x → Rng a (i + 1) (x / 2) := fun {a} {x} hx => by
    have e : x = 2 * (x / 2) + x % 2 := by omega
    rw [e] at hx
    exact ((rng_step (by omega)).1 hx).1
  have split : ∀ x y, g x y = 2 * g (x / 2) (y / 2) + g (x % 2) (y % 2) ∧ g (x % 2) (y % 2) < 2 := fun x y => by
    refine ⟨?_, g2 _ _ (by omega) (by omega)⟩
    rw [← hbit _ _ _ _ (by omega) (by omega)]
    congr 1 <;> omega
  unfold stN
  split
  · rename_i hs
    refine ⟨next_ok hg hw h, ?_, fun x y hx hy => ?_⟩
    · obtain ⟨t, ht⟩ := some_iff.1 hs
      obtain ⟨x, y, hx, hy, hxy, -⟩ := (next_ok hg hw h t).1 ht
      exact ⟨x, y, hx, hy, hxy⟩
    · obtain ⟨h1, h2⟩ := he.2 _ _ (down hx) (down hy)
      obtain ⟨e, l⟩ := split x y
      dsimp only
      constructor
      · intro e0; have := h1 e0; omega
      · intro e0; have := h2 e0; omega
  · rename_i hs
    have hno : ∀ x y, Rng a i x → Rng b i y → g x y ≠ 2 * p.2 + want := fun x y hx hy e => hs (some_iff.2 ⟨_, (next_ok hg hw h _).2 ⟨x, y, hx, hy, e, rfl⟩⟩)
    refine ⟨next_ok hg (by omega) h, ?_, fun x y hx hy => ?_⟩
    · obtain ⟨x, y, hx, hy, hxy⟩ := he.1
      obtain ⟨u, hu, hx'⟩ := child ha hx
      obtain ⟨v, hv, hy'⟩ := child hb hy
      refine ⟨_, _, hx', hy', ?_⟩
      have := hno _ _ hx' hy'
      have := g2 u v hu hv
      rw [hbit _ _ _ _ hu hv] at *
      dsimp only
      omega
    · obtain ⟨h1, h2⟩ := he.2 _ _ (down hx) (down hy)
      obtain ⟨e, l⟩ := split x y
      have := hno x y hx hy
      dsimp only
      constructor
      · intro e0; have := h1 e0; omega
      · intro e0; have := h2 e0; omega
theorem lst_ok {g : Nat → Nat → Nat} (hg : IsOp g) {a b : Nat × Nat} (ha : a.1 ≤ a.2) (hb : b.1 ≤ b.2) (ha' : a.2 < 2 ^ 64) (hb' : b.2 < 2 ^ 64) {want : Nat} (hw : want < 2) :
    ∀ k, k ≤ 64 → NowOk g a b (64 - k) (lstN g a b want k) ∧ Ext g a b want (64 - k) (lstN g a b want k).2 ∧ (lstN g a b want k).2 < 2 ^ k
  | 0, _ => by
    have g0 : g 0 0 = 0 := by rcases hg with rfl | rfl | rfl <;> rfl
    have z : ∀ n, n < 2 ^ 64 → n / 2 ^ (64 - 0) = 0 := fun n h => Nat.div_eq_of_lt h
    have r : ∀ {c : Nat × Nat} {x : Nat}, c.1 ≤ c.2 → c.2 < 2 ^ 64 → (Rng c (64 - 0) x ↔ x = 0) := fun {c} {x} h1 h2 => by
      unfold Rng; rw [z _ (by omega), z _ h2]; omega
    have s : ∀ {c : Nat × Nat}, c.1 ≤ c.2 → c.2 < 2 ^ 64 → Stt c (64 - 0) 0 = 3 := fun {c} h1 h2 => by
      unfold Stt; rw [z _ (by omega), z _ h2]; rfl
    refine ⟨fun t => ?_, ⟨⟨0, 0, (r ha ha').2 rfl, (r hb hb').2 rfl, g0⟩, fun x y hx hy => ?_⟩, Nat.zero_lt_one⟩
    · show (t == 15) = true ↔ _
      rw [beq_iff_eq]
      constructor
      · rintro rfl; exact ⟨0, 0, (r ha ha').2 rfl, (r hb hb').2 rfl, g0, by rw [s ha ha', s hb hb']⟩
      · rintro ⟨x, y, hx, hy, -, e⟩
        rw [(r ha ha').1 hx, (r hb hb').1 hy, s ha ha', s hb hb'] at e
        exact e
    · rw [(r ha ha').1 hx, (r hb hb').1 hy, g0]
      exact ⟨fun _ => Nat.le_refl _, fun _ => Nat.le_refl _⟩
  | k + 1, hk => by
    obtain ⟨h1, h2, h3⟩ := lst_ok hg ha hb ha' hb' hw k (by omega)
    rw [show 64 - k = (64 - (k + 1)) + 1 by omega] at h1 h2
    obtain ⟨k1, k2⟩ := ext_step hg ha hb hw h1 h2
    have e : 63 - k = 64 - (k + 1) := by omega
    show NowOk g a b (64 - (k + 1)) (stN g a b want (63 - k) (lstN g a b want k)) ∧ Ext g a b want (64 - (k + 1)) (stN g a b want (63 - k) (lstN g a b want k)).2 ∧ (stN g a b want (63 - k) (lstN g a b want k)).2 < 2 ^ (k + 1)
    rw [e]
    refine ⟨k1, k2, ?_⟩
    rw [Nat.pow_succ]
    unfold stN
    split <;> dsimp only <;> omega
/-- What Least comes to. -/
def leastN (g : Nat → Nat → Nat) (a b : Nat × Nat) (want : Nat) : Nat := (lstN g a b want 64).2
theorem least_ok {g : Nat → Nat → Nat} (hg : IsOp g) {a b : Nat × Nat} (ha : a.1 ≤ a.2) (hb : b.1 ≤ b.2) (ha' : a.2 < 2 ^ 64) (hb' : b.2 < 2 ^ 64) {want : Nat} (hw : want < 2) :
    (∃ x y, inN a x ∧ inN b y ∧ g x y = leastN g a b want) ∧ (∀ x y, inN a x → inN b y → (want = 0 → leastN g a b want ≤ g x y) ∧ (want = 1 → g x y ≤ leastN g a b want)) ∧ leastN g a b want < 2 ^ 64 := by
  obtain ⟨-, h2, h3⟩ := lst_ok hg ha hb ha' hb' hw 64 (Nat.le_refl _)
  have r : ∀ {c : Nat × Nat} {x : Nat}, Rng c (64 - 64) x ↔ inN c x := fun {c} {x} => by
    unfold Rng inN; rw [show 2 ^ (64 - 64) = 1 by rfl, Nat.div_one, Nat.div_one]
  refine ⟨?_, fun x y hx hy => h2.2 x y (r.2 hx) (r.2 hy), h3⟩
  obtain ⟨x, y, hx, hy, e⟩ := h2.1
  exact ⟨x, y, r.1 hx, r.1 hy, e⟩
/-- There is one least, and one greatest. -/
theorem least_is {g : Nat → Nat → Nat} (hg : IsOp g) {a b : Nat × Nat} (ha : a.1 ≤ a.2) (hb : b.1 ≤ b.2) (ha' : a.2 < 2 ^ 64) (hb' : b.2 < 2 ^ 64) {r : Nat}
    (h1 : ∃ x y, inN a x ∧ inN b y ∧ g x y = r) (h2 : ∀ x y, inN a x → inN b y → r ≤ g x y) : leastN g a b 0 = r := by
  obtain ⟨⟨x, y, hx, hy, e⟩, k2, -⟩ := least_ok hg ha hb ha' hb' (show 0 < 2 by decide)
  obtain ⟨x', y', hx', hy', e'⟩ := h1
  have i1 := (k2 x' y' hx' hy').1 rfl
  have i2 := h2 x y hx hy
  omega
theorem great_is {g : Nat → Nat → Nat} (hg : IsOp g) {a b : Nat × Nat} (ha : a.1 ≤ a.2) (hb : b.1 ≤ b.2) (ha' : a.2 < 2 ^ 64) (hb' : b.2 < 2 ^ 64) {r : Nat}
    (h1 : ∃ x y, inN a x ∧ inN b y ∧ g x y = r) (h2 : ∀ x y, inN a x → inN b y → g x y ≤ r) : leastN g a b 1 = r := by
  obtain ⟨⟨x, y, hx, hy, e⟩, k2, -⟩ := least_ok hg ha hb ha' hb' (show 1 < 2 by decide)
  obtain ⟨x', y', hx', hy', e'⟩ := h1
  have i1 := (k2 x' y' hx' hy').2 rfl
  have i2 := h2 x y hx hy
  omega
end Sq
end Go.Proofs.Ytjcnpjidkimldaa
