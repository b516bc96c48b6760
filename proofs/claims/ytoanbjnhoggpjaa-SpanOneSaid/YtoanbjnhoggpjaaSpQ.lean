/-
  Plain: what the operations make of spans holds all results; both ends are results where the document says so: no program.
-/
import Derived.Test.YtoanbjnhoggpjaaSpP
namespace Go.Proofs.Ytoanbjnhoggpjaa
set_option linter.unusedSimpArgs false
set_option linter.unusedVariables false
set_option maxRecDepth 100000
open Go.RowKit

/-- The greatest number of the bits of an operation. -/
def topW (w : Bool) : B64 := if w then 18446744073709551615#64 else 4294967295#64
def modW (w : Bool) : Nat := if w then 18446744073709551616 else 4294967296
def sizeW (w : Bool) : Nat := if w then 64 else 32
theorem topW_toNat (w : Bool) : (topW w).toNat = modW w - 1 := by cases w <;> rfl
theorem and_top (x : B64) (w : Bool) : (x &&& topW w).toNat = x.toNat % modW w := by
  cases w
  · show (x &&& 4294967295#64).toNat = x.toNat % 4294967296
    rw [BitVec.toNat_and]; exact Nat.and_two_pow_sub_one_eq_mod x.toNat 32
  · show (x &&& 18446744073709551615#64).toNat = x.toNat % 18446744073709551616
    rw [BitVec.toNat_and]; exact Nat.and_two_pow_sub_one_eq_mod x.toNat 64
theorem modW_two (w : Bool) : modW w = 4294967296 ∨ modW w = 18446744073709551616 := by cases w <;> simp [modW]
/-- What the code makes of sums, products and the like. -/
def sumS (w : Bool) (a b : Tn) : Tn :=
  if 18446744073709551616 ≤ (a.2 - a.1).toNat + (b.2 - b.1).toNat ∨ (topW w - ((a.1 + b.1) &&& topW w)).toNat < ((a.2 - a.1) + (b.2 - b.1)).toNat then (0#64, topW w)
  else ((a.1 + b.1) &&& topW w, ((a.1 + b.1) &&& topW w) + ((a.2 - a.1) + (b.2 - b.1)))
def negS (b : Tn) : Tn := (0#64 - b.2, 0#64 - b.1)
def prodS (w : Bool) (a b : Tn) : Tn :=
  if 18446744073709551616 ≤ a.2.toNat * b.2.toNat ∨ (topW w).toNat < (a.2 * b.2).toNat then (0#64, topW w) else (a.1 * b.1, a.2 * b.2)
def quotS (a b : Tn) : Tn := if b.2 = 0#64 then (0#64, 0#64) else if b.1 = 0#64 then (0#64, a.2) else (a.1 / b.2, a.2 / b.1)
def restS (a b : Tn) : Tn :=
  if b.2 = 0#64 ∨ a.2.toNat < b.1.toNat then a
  else if b.1 = b.2 ∧ a.1 / b.2 = a.2 / b.2 then (a.1 % b.2, a.2 % b.2)
  else if b.1 = 0#64 then (0#64, a.2)
  else (0#64, bmin a.2 (b.2 - 1#64))
def sizeB (w : Bool) : B64 := if w then 64#64 else 32#64
def countS (w : Bool) (b : Tn) : Tn :=
  if (sizeB w - 1#64).toNat ≤ (b.2 - b.1).toNat ∨ (b.2 % sizeB w).toNat < (b.1 % sizeB w).toNat then (0#64, sizeB w - 1#64) else (b.1 % sizeB w, b.2 % sizeB w)
def powS (b : Tn) : Tn := (1#64 <<< b.1.toNat, 1#64 <<< b.2.toNat)
/-- A number shifted right with its sign, by one count if it is not below 0, and else by another one. -/
def drawB (w : Bool) (n : B64) (below above : Nat) : B64 :=
  if w then (if n.toInt < 0 then (n.sshiftRight above) &&& topW w else n >>> below)
  else (if ((n <<< 32).sshiftRight 32).toInt < 0 then (((n <<< 32).sshiftRight 32).sshiftRight above) &&& topW w else n >>> below)
def signS (w : Bool) (a c : Tn) : Tn := (drawB w a.1 c.2.toNat c.1.toNat, drawB w a.2 c.1.toNat c.2.toNat)
def bitwS (op : Nat) (a b : Tn) : Tn :=
  if op = 4 then (leastS (· ||| ·) a b, ~~~(leastS (· &&& ·) (turnS a) (turnS b)))
  else if op = 5 then (leastS (· &&& ·) a b, ~~~(leastS (· ||| ·) (turnS a) (turnS b)))
  else (leastS (· ^^^ ·) a b, ~~~(leastS (· ^^^ ·) (turnS a) b))
def resS (op : Nat) (w : Bool) (a b : Tn) : Tn :=
  match op with
  | 0 => sumS w a b
  | 1 => sumS w a (negS b)
  | 2 => prodS w a b
  | 3 => quotS a b
  | 6 => prodS w a (powS (countS w b))
  | 7 => quotS a (powS (countS w b))
  | 8 => sumS w (0#64, 0#64) (negS a)
  | 9 => restS a b
  | 11 => b
  | 12 => signS w a (countS w b)
  | _ => bitwS op a b
def drawN (w : Bool) (x k : Nat) : Nat := if x < modW w / 2 then x / 2 ^ k else modW w - 1 - (modW w - 1 - x) / 2 ^ k
/-- An operation of two numbers that are cut already. -/
def opN (op : Nat) (w : Bool) (x y : Nat) : Nat :=
  match op with
  | 0 => (x + y) % modW w
  | 1 => (x + modW w - y) % modW w
  | 2 => x * y % modW w
  | 3 => x / y
  | 4 => x ||| y
  | 5 => x &&& y
  | 6 => x * 2 ^ (y % sizeW w) % modW w
  | 7 => x / 2 ^ (y % sizeW w)
  | 8 => (modW w - x) % modW w
  | 9 => x % y
  | 10 => x ^^^ y
  | 11 => y
  | _ => drawN w x (y % sizeW w)
def Lies (s : Tn) (x : Nat) : Prop := s.1.toNat ≤ x ∧ x ≤ s.2.toNat
theorem negS_toNat (b : Tn) : (negS b).1.toNat = (18446744073709551616 - b.2.toNat) % 18446744073709551616 ∧ (negS b).2.toNat = (18446744073709551616 - b.1.toNat) % 18446744073709551616 := by
  unfold negS
  constructor
  · show (0#64 - b.2).toNat = _
    rw [BitVec.toNat_sub]; show (18446744073709551616 - b.2.toNat + 0) % 18446744073709551616 = _; omega
  · show (0#64 - b.1).toNat = _
    rw [BitVec.toNat_sub]; show (18446744073709551616 - b.1.toNat + 0) % 18446744073709551616 = _; omega
theorem sub64 (x y : B64) : (x - y).toNat = (x.toNat + 18446744073709551616 - y.toNat) % 18446744073709551616 := by
  rw [BitVec.toNat_sub]; have := y.isLt; omega
theorem add64 (x y : B64) : (x + y).toNat = (x.toNat + y.toNat) % 18446744073709551616 := BitVec.toNat_add ..
/-- Sums: from the first one on, as many as there are, unless they wrap. -/
theorem sum_both (w : Bool) (a b : Tn) : (∀ e : Nat, e ≤ (a.2 - a.1).toNat + (b.2 - b.1).toNat → Lies (sumS w a b) ((a.1.toNat + b.1.toNat + e) % modW w)) ∧
    (∃ e : Nat, e ≤ (a.2 - a.1).toNat + (b.2 - b.1).toNat ∧ (a.1.toNat + b.1.toNat + e) % modW w = (sumS w a b).1.toNat) ∧
    (∃ e : Nat, e ≤ (a.2 - a.1).toNat + (b.2 - b.1).toNat ∧ (a.1.toNat + b.1.toNat + e) % modW w = (sumS w a b).2.toNat) ∧ (sumS w a b).2.toNat < modW w := by
  have hT := topW_toNat w
  have hF : ((a.1 + b.1) &&& topW w).toNat = (a.1.toNat + b.1.toNat) % modW w := by
    rw [and_top, add64]; cases w
    · show _ % 4294967296 = _ % 4294967296; omega
    · show _ % 18446744073709551616 = _ % 18446744073709551616; omega
  have hD : (topW w - ((a.1 + b.1) &&& topW w)).toNat = modW w - 1 - (a.1.toNat + b.1.toNat) % modW w := by
    rw [sub64, hT, hF]
    cases w
    · show (4294967296 - 1 + 18446744073709551616 - _ % 4294967296) % 18446744073709551616 = 4294967296 - 1 - _ % 4294967296; omega
    · show (18446744073709551616 - 1 + 18446744073709551616 - _ % 18446744073709551616) % 18446744073709551616 = 18446744073709551616 - 1 - _ % 18446744073709551616; omega
  have l1 := (a.2 - a.1).isLt
  have l2 := (b.2 - b.1).isLt
  have hm : ((a.2 - a.1) + (b.2 - b.1)).toNat = ((a.2 - a.1).toNat + (b.2 - b.1).toNat) % 18446744073709551616 := add64 ..
  have hL : ((a.1 + b.1 &&& topW w) + (a.2 - a.1 + (b.2 - b.1))).toNat = ((a.1.toNat + b.1.toNat) % modW w + ((a.2 - a.1).toNat + (b.2 - b.1).toNat) % 18446744073709551616) % 18446744073709551616 := by
    rw [add64, hF, hm]
  unfold sumS Lies
  rw [hD, hm]
  generalize (a.2 - a.1).toNat = p at *
  generalize (b.2 - b.1).toNat = q at *
  by_cases hc : 18446744073709551616 ≤ p + q ∨ modW w - 1 - (a.1.toNat + b.1.toNat) % modW w < (p + q) % 18446744073709551616
  · rw [if_pos hc]
    dsimp only
    rw [hT]
    have z : (0#64 : B64).toNat = 0 := rfl
    rw [z]
    generalize a.1.toNat + b.1.toNat = s at *
    have hw := modW_two w
    clear hL hF hm hD
    generalize modW w = M at *
    rcases hw with rfl | rfl
    · refine ⟨fun e he => ⟨Nat.zero_le _, by omega⟩, ⟨4294967296 - s % 4294967296, by omega, by omega⟩, ⟨4294967296 - 1 - s % 4294967296, by omega, by omega⟩, by omega⟩
    · refine ⟨fun e he => ⟨Nat.zero_le _, by omega⟩, ⟨18446744073709551616 - s % 18446744073709551616, by omega, by omega⟩, ⟨18446744073709551616 - 1 - s % 18446744073709551616, by omega, by omega⟩, by omega⟩
  · rw [if_neg hc]
    dsimp only
    rw [hL, hF]
    generalize a.1.toNat + b.1.toNat = s at *
    have hw := modW_two w
    clear hL hF hm hD
    generalize modW w = M at *
    rcases hw with rfl | rfl
    · refine ⟨fun e he => ⟨by omega, by omega⟩, ⟨0, by omega, by omega⟩, ⟨p + q, by omega, by omega⟩, by omega⟩
    · refine ⟨fun e he => ⟨by omega, by omega⟩, ⟨0, by omega, by omega⟩, ⟨p + q, by omega, by omega⟩, by omega⟩
/-- What is told holds all results of a pair of spans; both its ends are results. -/
def Sound (op : Nat) (w : Bool) (a b r : Tn) : Prop := ∀ x y, Lies a x → Lies b y → Lies r (opN op w x y)
def Tight (op : Nat) (w : Bool) (a b r : Tn) : Prop := (∃ x y, Lies a x ∧ Lies b y ∧ opN op w x y = r.1.toNat) ∧ (∃ x y, Lies a x ∧ Lies b y ∧ opN op w x y = r.2.toNat)
theorem width (a : Tn) (h : a.1.toNat ≤ a.2.toNat) : (a.2 - a.1).toNat = a.2.toNat - a.1.toNat := by
  rw [sub64]; have := a.2.isLt; omega
theorem width_neg (a : Tn) (h : a.1.toNat ≤ a.2.toNat) : ((negS a).2 - (negS a).1).toNat = a.2.toNat - a.1.toNat := by
  rw [sub64, (negS_toNat a).1, (negS_toNat a).2]; have := a.2.isLt; omega
theorem add_both (w : Bool) (a b : Tn) (ha : a.1.toNat ≤ a.2.toNat) (hb : b.1.toNat ≤ b.2.toNat) : Sound 0 w a b (sumS w a b) ∧ Tight 0 w a b (sumS w a b) ∧ (sumS w a b).2.toNat < modW w := by
  obtain ⟨h1, h2, h3, h4⟩ := sum_both w a b
  rw [width a ha, width b hb] at h1 h2 h3
  have real : ∀ e, e ≤ a.2.toNat - a.1.toNat + (b.2.toNat - b.1.toNat) → ∃ x y, Lies a x ∧ Lies b y ∧ x + y = a.1.toNat + b.1.toNat + e := by
    intro e he
    refine ⟨a.1.toNat + min e (a.2.toNat - a.1.toNat), b.1.toNat + (e - min e (a.2.toNat - a.1.toNat)), ⟨by omega, by omega⟩, ⟨by omega, by omega⟩, by omega⟩
  refine ⟨?_, ⟨?_, ?_⟩, h4⟩
  · intro x y hx hy
    have := h1 (x - a.1.toNat + (y - b.1.toNat)) (by unfold Lies at hx hy; omega)
    rw [show a.1.toNat + b.1.toNat + (x - a.1.toNat + (y - b.1.toNat)) = x + y by unfold Lies at hx hy; omega] at this
    exact this
  · obtain ⟨e, he, hv⟩ := h2
    obtain ⟨x, y, hx, hy, hs⟩ := real e he
    exact ⟨x, y, hx, hy, by show (x + y) % modW w = _; rw [hs, hv]⟩
  · obtain ⟨e, he, hv⟩ := h3
    obtain ⟨x, y, hx, hy, hs⟩ := real e he
    exact ⟨x, y, hx, hy, by show (x + y) % modW w = _; rw [hs, hv]⟩
theorem sub_both (w : Bool) (a b : Tn) (ha : a.1.toNat ≤ a.2.toNat) (hb : b.1.toNat ≤ b.2.toNat) (hm : b.2.toNat < modW w) :
    Sound 1 w a b (sumS w a (negS b)) ∧ Tight 1 w a b (sumS w a (negS b)) ∧ (sumS w a (negS b)).2.toNat < modW w := by
  obtain ⟨h1, h2, h3, h4⟩ := sum_both w a (negS b)
  rw [width a ha, width_neg b hb, (negS_toNat b).1] at h1 h2 h3
  have same : ∀ x y e, Lies a x → Lies b y → e = x - a.1.toNat + (b.2.toNat - y) → (a.1.toNat + (18446744073709551616 - b.2.toNat) % 18446744073709551616 + e) % modW w = (x + modW w - y) % modW w := by
    rintro x y e hx hy rfl
    unfold Lies at hx hy
    have l1 := b.2.isLt
    have hw := modW_two w
    clear h1 h2 h3 h4
    generalize modW w = M at *
    rcases hw with rfl | rfl
    · omega
    · omega
  have real : ∀ e, e ≤ a.2.toNat - a.1.toNat + (b.2.toNat - b.1.toNat) → ∃ x y, Lies a x ∧ Lies b y ∧ e = x - a.1.toNat + (b.2.toNat - y) := by
    intro e he
    refine ⟨a.1.toNat + min e (a.2.toNat - a.1.toNat), b.2.toNat - (e - min e (a.2.toNat - a.1.toNat)), ⟨by omega, by omega⟩, ⟨by omega, by omega⟩, by omega⟩
  refine ⟨?_, ⟨?_, ?_⟩, h4⟩
  · intro x y hx hy
    have := h1 _ (by unfold Lies at hx hy; omega : x - a.1.toNat + (b.2.toNat - y) ≤ _)
    rw [same x y _ hx hy rfl] at this
    exact this
  · obtain ⟨e, he, hv⟩ := h2
    obtain ⟨x, y, hx, hy, hs⟩ := real e he
    exact ⟨x, y, hx, hy, by show (x + modW w - y) % modW w = _; rw [← same x y e hx hy hs, hv]⟩
  · obtain ⟨e, he, hv⟩ := h3
    obtain ⟨x, y, hx, hy, hs⟩ := real e he
    exact ⟨x, y, hx, hy, by show (x + modW w - y) % modW w = _; rw [← same x y e hx hy hs, hv]⟩
theorem neg_both (w : Bool) (a b : Tn) (ha : a.1.toNat ≤ a.2.toNat) (hb : b.1.toNat ≤ b.2.toNat) (hm : a.2.toNat < modW w) :
    Sound 8 w a b (sumS w (0#64, 0#64) (negS a)) ∧ Tight 8 w a b (sumS w (0#64, 0#64) (negS a)) ∧ (sumS w (0#64, 0#64) (negS a)).2.toNat < modW w := by
  obtain ⟨h1, ⟨⟨x1, y1, hx1, hy1, e1⟩, ⟨x2, y2, hx2, hy2, e2⟩⟩, h4⟩ := sub_both w (0#64, 0#64) a (Nat.le_refl _) ha hm
  have z : ∀ x, Lies (0#64, 0#64) x → x = 0 := fun x h => Nat.le_zero.1 h.2
  obtain rfl := z _ hx1
  obtain rfl := z _ hx2
  have o : ∀ y, opN 1 w 0 y = opN 8 w y 0 := by intro y; show (0 + modW w - y) % modW w = (modW w - y) % modW w; rw [Nat.zero_add]
  refine ⟨?_, ⟨⟨y1, b.1.toNat, hy1, ⟨Nat.le_refl _, hb⟩, (o y1).symm.trans e1⟩, ⟨y2, b.1.toNat, hy2, ⟨Nat.le_refl _, hb⟩, (o y2).symm.trans e2⟩⟩, h4⟩
  intro x y hx hy
  have := h1 0 x ⟨Nat.le_refl _, Nat.le_refl _⟩ hx
  rw [o] at this
  exact this
theorem mod_of_lt_or (M a : Nat) (h : 0 < M) : a % M < M := Nat.mod_lt _ h
theorem modW_pos (w : Bool) : 0 < modW w := by rcases modW_two w with h | h <;> omega
theorem modW_le (w : Bool) : modW w ≤ 18446744073709551616 := by rcases modW_two w with h | h <;> omega
theorem prod_view (w : Bool) (a b : Tn) (ha : a.1.toNat ≤ a.2.toNat) (hb : b.1.toNat ≤ b.2.toNat) :
    (modW w ≤ a.2.toNat * b.2.toNat ∧ prodS w a b = (0#64, topW w)) ∨ (a.2.toNat * b.2.toNat < modW w ∧ (prodS w a b).1.toNat = a.1.toNat * b.1.toNat ∧ (prodS w a b).2.toNat = a.2.toNat * b.2.toNat) := by
  have hm : (a.2 * b.2).toNat = a.2.toNat * b.2.toNat % 18446744073709551616 := BitVec.toNat_mul ..
  have hl : a.1.toNat * b.1.toNat ≤ a.2.toNat * b.2.toNat := Nat.mul_le_mul ha hb
  have hm1 : (a.1 * b.1).toNat = a.1.toNat * b.1.toNat % 18446744073709551616 := BitVec.toNat_mul ..
  have hT := topW_toNat w
  have hw := modW_two w
  unfold prodS
  rw [hm, hT]
  generalize a.2.toNat * b.2.toNat = P at *
  generalize a.1.toNat * b.1.toNat = Q at *
  by_cases hc : 18446744073709551616 ≤ P ∨ modW w - 1 < P % 18446744073709551616
  · rw [if_pos hc]
    left
    refine ⟨?_, rfl⟩
    omega
  · rw [if_neg hc]
    right
    refine ⟨by omega, ?_, ?_⟩
    · dsimp only; omega
    · dsimp only; omega
theorem full_lies (w : Bool) (x : Nat) (h : x < modW w) : Lies (0#64, topW w) x := by
  refine ⟨Nat.zero_le _, ?_⟩
  show x ≤ (topW w).toNat
  rw [topW_toNat]; omega
theorem prod_sound (w : Bool) (a b : Tn) (ha : a.1.toNat ≤ a.2.toNat) (hb : b.1.toNat ≤ b.2.toNat) :
    (∀ x y, Lies a x → Lies b y → Lies (prodS w a b) (x * y % modW w)) ∧ (prodS w a b).2.toNat < modW w := by
  have hp := modW_pos w
  rcases prod_view w a b ha hb with ⟨h1, h2⟩ | ⟨h1, h2, h3⟩
  · rw [h2]
    refine ⟨fun x y _ _ => full_lies w _ (Nat.mod_lt _ hp), ?_⟩
    show (topW w).toNat < _
    rw [topW_toNat]; omega
  · refine ⟨fun x y hx hy => ?_, by omega⟩
    have l1 := Nat.mul_le_mul hx.1 hy.1
    have l2 := Nat.mul_le_mul hx.2 hy.2
    unfold Lies
    rw [h2, h3, Nat.mod_eq_of_lt (by omega)]
    exact ⟨l1, l2⟩
theorem count_ok (w : Bool) (b : Tn) (hb : b.1.toNat ≤ b.2.toNat) :
    (∀ y, Lies b y → Lies (countS w b) (y % sizeW w)) ∧ (countS w b).2.toNat < sizeW w ∧ (countS w b).1.toNat ≤ (countS w b).2.toNat := by
  have hwd := width b hb
  have h1 : (b.1 % sizeB w).toNat = b.1.toNat % sizeW w := by rw [BitVec.toNat_umod]; cases w <;> rfl
  have h2 : (b.2 % sizeB w).toNat = b.2.toNat % sizeW w := by rw [BitVec.toNat_umod]; cases w <;> rfl
  have h3 : (sizeB w - 1#64).toNat = sizeW w - 1 := by cases w <;> rfl
  have hz : sizeW w = 64 ∨ sizeW w = 32 := by cases w <;> simp [sizeW]
  unfold countS
  rw [h1, h2, h3, hwd]
  generalize sizeW w = S at *
  by_cases hc : S - 1 ≤ b.2.toNat - b.1.toNat ∨ b.2.toNat % S < b.1.toNat % S
  · rw [if_pos hc]
    have z : (0#64 : B64).toNat = 0 := rfl
    refine ⟨fun y _ => ?_, ?_, ?_⟩
    · unfold Lies
      dsimp only
      rw [h3, z]
      rcases hz with rfl | rfl <;> omega
    · dsimp only; omega
    · dsimp only; omega
  · rw [if_neg hc]
    refine ⟨fun y hy => ?_, ?_, ?_⟩
    · unfold Lies at hy ⊢
      dsimp only
      rw [h1, h2]
      rcases hz with rfl | rfl <;> omega
    · dsimp only; rcases hz with rfl | rfl <;> omega
    · dsimp only; omega
theorem powS_toNat (b : Tn) (h1 : b.1.toNat < 64) (h2 : b.2.toNat < 64) : (powS b).1.toNat = 2 ^ b.1.toNat ∧ (powS b).2.toNat = 2 ^ b.2.toNat :=
  ⟨toNat_bit _ h1, toNat_bit _ h2⟩
theorem sizeW_le (w : Bool) : sizeW w ≤ 64 := by cases w <;> decide
theorem lsh_sound (w : Bool) (a b : Tn) (ha : a.1.toNat ≤ a.2.toNat) (hb : b.1.toNat ≤ b.2.toNat) :
    Sound 6 w a b (prodS w a (powS (countS w b))) ∧ (prodS w a (powS (countS w b))).2.toNat < modW w := by
  obtain ⟨c1, c2, c3⟩ := count_ok w b hb
  have hs := sizeW_le w
  obtain ⟨p1, p2⟩ := powS_toNat (countS w b) (by omega) (by omega)
  have hle : (powS (countS w b)).1.toNat ≤ (powS (countS w b)).2.toNat := by rw [p1, p2]; exact Nat.pow_le_pow_right (by decide) c3
  obtain ⟨h1, h2⟩ := prod_sound w a (powS (countS w b)) ha hle
  refine ⟨fun x y hx hy => h1 x (2 ^ (y % sizeW w)) hx ?_, h2⟩
  obtain ⟨k1, k2⟩ := c1 y hy
  refine ⟨?_, ?_⟩
  · rw [p1]; exact Nat.pow_le_pow_right (by decide) k1
  · rw [p2]; exact Nat.pow_le_pow_right (by decide) k2
theorem div_mono {a b c d : Nat} (h1 : a ≤ b) (h2 : d ≤ c) (h3 : 0 < d) : a / c ≤ b / d :=
  Nat.le_trans (Nat.div_le_div_right h1) (Nat.div_le_div_left h2 h3)
theorem toNat_zero_iff (x : B64) : x = 0#64 ↔ x.toNat = 0 := by
  constructor
  · rintro rfl; rfl
  · intro h; exact BitVec.eq_of_toNat_eq h
theorem quot_sound (a b : Tn) (ha : a.1.toNat ≤ a.2.toNat) (hb : b.1.toNat ≤ b.2.toNat) :
    (∀ x y, Lies a x → Lies b y → Lies (quotS a b) (x / y)) ∧ (quotS a b).2.toNat ≤ a.2.toNat ∧
    (∃ x y, Lies a x ∧ Lies b y ∧ x / y = (quotS a b).1.toNat) ∧ (∃ x y, Lies a x ∧ Lies b y ∧ x / y = (quotS a b).2.toNat) := by
  have A1 : Lies a a.1.toNat := ⟨Nat.le_refl _, ha⟩
  have A2 : Lies a a.2.toNat := ⟨ha, Nat.le_refl _⟩
  have B1 : Lies b b.1.toNat := ⟨Nat.le_refl _, hb⟩
  have B2 : Lies b b.2.toNat := ⟨hb, Nat.le_refl _⟩
  have z : (0#64 : B64).toNat = 0 := rfl
  unfold quotS
  by_cases h : b.2 = 0#64
  · rw [if_pos h]
    have h' := (toNat_zero_iff _).1 h
    have y0 : ∀ y, Lies b y → y = 0 := fun y hy => by unfold Lies at hy; omega
    refine ⟨fun x y hx hy => ?_, Nat.zero_le _, ⟨_, _, A1, B1, ?_⟩, ⟨_, _, A1, B1, ?_⟩⟩
    · rw [y0 y hy, Nat.div_zero]; exact ⟨Nat.le_refl _, Nat.le_refl _⟩
    · rw [y0 _ B1, Nat.div_zero]; rfl
    · rw [y0 _ B1, Nat.div_zero]; rfl
  · rw [if_neg h]
    have h' : b.2.toNat ≠ 0 := fun e => h ((toNat_zero_iff _).2 e)
    by_cases h2 : b.1 = 0#64
    · rw [if_pos h2]
      have h2' := (toNat_zero_iff _).1 h2
      refine ⟨fun x y hx hy => ⟨Nat.zero_le _, Nat.le_trans (Nat.div_le_self _ _) hx.2⟩, Nat.le_refl _, ⟨_, _, A1, B1, ?_⟩, ⟨a.2.toNat, 1, A2, ⟨by omega, by omega⟩, Nat.div_one _⟩⟩
      rw [h2', Nat.div_zero]; rfl
    · rw [if_neg h2]
      have h2' : b.1.toNat ≠ 0 := fun e => h2 ((toNat_zero_iff _).2 e)
      have d1 : (a.1 / b.2).toNat = a.1.toNat / b.2.toNat := BitVec.toNat_udiv
      have d2 : (a.2 / b.1).toNat = a.2.toNat / b.1.toNat := BitVec.toNat_udiv
      unfold Lies at *
      dsimp only
      rw [d1, d2]
      exact ⟨fun x y hx hy => ⟨div_mono hx.1 hy.2 (by omega), div_mono hx.2 hy.1 (by omega)⟩, Nat.div_le_self _ _, ⟨_, _, A1, B2, rfl⟩, ⟨_, _, A2, B1, rfl⟩⟩
theorem rsh_sound (w : Bool) (a b : Tn) (ha : a.1.toNat ≤ a.2.toNat) (hb : b.1.toNat ≤ b.2.toNat) :
    Sound 7 w a b (quotS a (powS (countS w b))) ∧ (quotS a (powS (countS w b))).2.toNat ≤ a.2.toNat := by
  obtain ⟨c1, c2, c3⟩ := count_ok w b hb
  have hs := sizeW_le w
  obtain ⟨p1, p2⟩ := powS_toNat (countS w b) (by omega) (by omega)
  have hle : (powS (countS w b)).1.toNat ≤ (powS (countS w b)).2.toNat := by rw [p1, p2]; exact Nat.pow_le_pow_right (by decide) c3
  obtain ⟨h1, h2, _⟩ := quot_sound a (powS (countS w b)) ha hle
  refine ⟨fun x y hx hy => h1 x (2 ^ (y % sizeW w)) hx ?_, h2⟩
  obtain ⟨k1, k2⟩ := c1 y hy
  refine ⟨?_, ?_⟩
  · rw [p1]; exact Nat.pow_le_pow_right (by decide) k1
  · rw [p2]; exact Nat.pow_le_pow_right (by decide) k2
theorem rest_sound (a b : Tn) (ha : a.1.toNat ≤ a.2.toNat) (hb : b.1.toNat ≤ b.2.toNat) :
    (∀ x y, Lies a x → Lies b y → Lies (restS a b) (x % y)) ∧ (restS a b).2.toNat ≤ a.2.toNat := by
  have z : (0#64 : B64).toNat = 0 := rfl
  have e0 := toNat_zero_iff b.2
  have e1 := toNat_zero_iff b.1
  unfold restS
  by_cases h : b.2 = 0#64 ∨ a.2.toNat < b.1.toNat
  · rw [if_pos h]
    refine ⟨fun x y hx hy => ?_, Nat.le_refl _⟩
    have : x % y = x := by
      rcases h with h | h
      · have : y = 0 := by have := e0.1 h; unfold Lies at hy; omega
        rw [this, Nat.mod_zero]
      · exact Nat.mod_eq_of_lt (by unfold Lies at hx hy; omega)
    rw [this]; exact hx
  · rw [if_neg h]
    have h0 : b.2.toNat ≠ 0 := fun e => h (.inl (e0.2 e))
    by_cases h2 : b.1 = b.2 ∧ a.1 / b.2 = a.2 / b.2
    · rw [if_pos h2]
      obtain ⟨h3, h4⟩ := h2
      have m1 : (a.1 % b.2).toNat = a.1.toNat % b.2.toNat := BitVec.toNat_umod
      have m2 : (a.2 % b.2).toNat = a.2.toNat % b.2.toNat := BitVec.toNat_umod
      have h4' : a.1.toNat / b.2.toNat = a.2.toNat / b.2.toNat := by rw [← BitVec.toNat_udiv, ← BitVec.toNat_udiv, h4]
      have h3' : b.1.toNat = b.2.toNat := by rw [h3]
      refine ⟨fun x y hx hy => ?_, by dsimp only; rw [m2]; exact Nat.mod_le _ _⟩
      obtain rfl : y = b.2.toNat := by unfold Lies at hy; omega
      have q1 : a.1.toNat / b.2.toNat ≤ x / b.2.toNat := Nat.div_le_div_right hx.1
      have q2 : x / b.2.toNat ≤ a.2.toNat / b.2.toNat := Nat.div_le_div_right hx.2
      have x1 := Nat.div_add_mod x b.2.toNat
      have x2 := Nat.div_add_mod a.1.toNat b.2.toNat
      have x3 := Nat.div_add_mod a.2.toNat b.2.toNat
      have q : x / b.2.toNat = a.2.toNat / b.2.toNat := by omega
      rw [q] at x1
      rw [h4'] at x2
      unfold Lies at hx ⊢
      dsimp only
      rw [m1, m2]
      omega
    · rw [if_neg h2]
      by_cases h5 : b.1 = 0#64
      · rw [if_pos h5]
        exact ⟨fun x y hx hy => ⟨Nat.zero_le _, Nat.le_trans (Nat.mod_le _ _) hx.2⟩, Nat.le_refl _⟩
      · rw [if_neg h5]
        have h5' : b.1.toNat ≠ 0 := fun e => h5 (e1.2 e)
        have hp : (b.2 - 1#64).toNat = b.2.toNat - 1 := by
          rw [sub64, show (1#64 : B64).toNat = 1 from rfl]; have := b.2.isLt; omega
        have hM : (bmin a.2 (b.2 - 1#64)).toNat = min a.2.toNat (b.2.toNat - 1) := by rw [bmin_toNat, hp]
        refine ⟨fun x y hx hy => ⟨Nat.zero_le _, ?_⟩, by dsimp only; omega⟩
        dsimp only
        rw [hM]
        have := Nat.mod_le x y
        have := Nat.mod_lt x (y := y) (by unfold Lies at hy; omega)
        unfold Lies at hx hy
        omega
/-- A number shifted right with its sign. -/
theorem draw_view (w : Bool) (n : B64) (below above : Nat) (hn : n.toNat < modW w) (h1 : below < 64) (h2 : above < 64) :
    (drawB w n below above).toNat = if n.toNat < modW w / 2 then n.toNat / 2 ^ below else modW w - 1 - (modW w - 1 - n.toNat) / 2 ^ above := by
  have sr : ∀ (x : B64) s, 9223372036854775808 ≤ x.toNat → (x.sshiftRight s).toNat = 18446744073709551615 - (18446744073709551615 - x.toNat) / 2 ^ s := by
    intro x s hx
    have hm : x.msb = true := by rw [BitVec.msb_eq_decide]; exact decide_eq_true hx
    rw [BitVec.sshiftRight_eq_of_msb_true hm, BitVec.toNat_not, BitVec.toNat_ushiftRight, BitVec.toNat_not, Nat.shiftRight_eq_div_pow]
  have neg : ∀ x : B64, x.toInt < 0 ↔ 9223372036854775808 ≤ x.toNat := by
    intro x; rw [BitVec.toInt_eq_toNat_cond]; have := x.isLt; split <;> omega
  have ur : (n >>> below).toNat = n.toNat / 2 ^ below := by rw [BitVec.toNat_ushiftRight, Nat.shiftRight_eq_div_pow]
  cases w
  · have hM : modW false = 4294967296 := rfl
    rw [hM] at hn ⊢
    have hx : (n <<< 32).toNat = n.toNat * 4294967296 := by
      rw [BitVec.toNat_shiftLeft, Nat.shiftLeft_eq]; omega
    unfold drawB
    rw [if_neg (by decide)]
    by_cases hs : n.toNat < 4294967296 / 2
    · have hm : (n <<< 32).msb = false := by rw [BitVec.msb_eq_decide, hx]; exact decide_eq_false (by omega)
      have e : ((n <<< 32).sshiftRight 32).toNat = n.toNat := by
        rw [BitVec.sshiftRight_eq_of_msb_false hm, BitVec.toNat_ushiftRight, hx, Nat.shiftRight_eq_div_pow]; omega
      rw [if_pos hs, if_neg (by rw [neg, e]; omega), ur]
    · have e : ((n <<< 32).sshiftRight 32).toNat = 18446744069414584320 + n.toNat := by
        rw [sr _ _ (by rw [hx]; omega), hx]; omega
      rw [if_neg hs, if_pos (by rw [neg, e]; omega), and_top _ false, sr _ _ (by omega), e]
      show (18446744073709551615 - (18446744073709551615 - (18446744069414584320 + n.toNat)) / 2 ^ above) % 4294967296 = 4294967296 - 1 - (4294967296 - 1 - n.toNat) / 2 ^ above
      rw [show 18446744073709551615 - (18446744069414584320 + n.toNat) = 4294967296 - 1 - n.toNat by omega]
      have := Nat.div_le_self (4294967296 - 1 - n.toNat) (2 ^ above)
      generalize (4294967296 - 1 - n.toNat) / 2 ^ above = z at *
      omega
  · have hM : modW true = 18446744073709551616 := rfl
    rw [hM] at hn ⊢
    unfold drawB
    rw [if_pos rfl]
    by_cases hs : n.toNat < 18446744073709551616 / 2
    · rw [if_pos hs, if_neg (by rw [neg]; omega), ur]
    · rw [if_neg hs, if_pos (by rw [neg]; omega), and_top _ true, sr _ _ (by omega)]
      show (18446744073709551615 - (18446744073709551615 - n.toNat) / 2 ^ above) % 18446744073709551616 = 18446744073709551615 - (18446744073709551615 - n.toNat) / 2 ^ above
      generalize (18446744073709551615 - n.toNat) / 2 ^ above = z at *
      omega
theorem arsh_sound (w : Bool) (a b : Tn) (ha : a.1.toNat ≤ a.2.toNat) (hb : b.1.toNat ≤ b.2.toNat) (hm : a.2.toNat < modW w) :
    Sound 12 w a b (signS w a (countS w b)) ∧ (signS w a (countS w b)).2.toNat < modW w := by
  obtain ⟨c1, c2, c3⟩ := count_ok w b hb
  have hs := sizeW_le w
  have v1 := draw_view w a.1 (countS w b).2.toNat (countS w b).1.toNat (by omega) (by omega) (by omega)
  have v2 := draw_view w a.2 (countS w b).1.toNat (countS w b).2.toNat (by omega) (by omega) (by omega)
  generalize countS w b = c at *
  have hp := modW_pos w
  refine ⟨fun x y hx hy => ?_, ?_⟩
  · obtain ⟨k1, k2⟩ := c1 y hy
    show Lies _ (drawN w x (y % sizeW w))
    generalize y % sizeW w = k at *
    unfold Lies signS drawN
    dsimp only
    rw [v1, v2]
    have p0 := Nat.two_pow_pos k
    have p1 : 2 ^ c.1.toNat ≤ 2 ^ k := Nat.pow_le_pow_right (by decide) k1
    have p2 : 2 ^ k ≤ 2 ^ c.2.toNat := Nat.pow_le_pow_right (by decide) k2
    have pc := Nat.two_pow_pos c.1.toNat
    obtain ⟨x1, x2⟩ := hx
    constructor
    · by_cases q : a.1.toNat < modW w / 2
      · rw [if_pos q]
        by_cases q2 : x < modW w / 2
        · rw [if_pos q2]; exact div_mono x1 p2 p0
        · rw [if_neg q2]
          have d1 := Nat.div_le_self a.1.toNat (2 ^ c.2.toNat)
          have d2 := Nat.div_le_self (modW w - 1 - x) (2 ^ k)
          omega
      · rw [if_neg q, if_neg (by omega)]
        have := div_mono (show modW w - 1 - x ≤ modW w - 1 - a.1.toNat by omega) p1 pc
        omega
    · by_cases q : a.2.toNat < modW w / 2
      · rw [if_pos q, if_pos (by omega)]; exact div_mono x2 p1 pc
      · rw [if_neg q]
        by_cases q2 : x < modW w / 2
        · rw [if_pos q2]
          have d1 := Nat.div_le_self x (2 ^ k)
          have d2 := Nat.div_le_self (modW w - 1 - a.2.toNat) (2 ^ c.2.toNat)
          omega
        · rw [if_neg q2]
          have := div_mono (show modW w - 1 - a.2.toNat ≤ modW w - 1 - x by omega) p2 p0
          omega
  · show (drawB w a.2 c.1.toNat c.2.toNat).toNat < _
    rw [v2]
    have d1 := Nat.div_le_self a.2.toNat (2 ^ c.1.toNat)
    split
    · exact Nat.lt_of_le_of_lt d1 (by omega)
    · exact Nat.lt_of_le_of_lt (Nat.sub_le _ _) (by omega)
/-- Or, And and Xor: from the least of all results to the greatest. -/
theorem turn_mem (s : Tn) (x : Nat) (h : Lies s x) : Lies (turnS s) (18446744073709551615 - x) := by
  unfold Lies turnS at *
  dsimp only
  rw [BitVec.toNat_not, BitVec.toNat_not]
  have := s.2.isLt
  omega
theorem turn_back (s : Tn) (x : Nat) (h : Lies (turnS s) x) : Lies s (18446744073709551615 - x) := by
  unfold Lies turnS at *
  dsimp only at h
  rw [BitVec.toNat_not, BitVec.toNat_not] at h
  have := s.1.isLt
  have := s.2.isLt
  omega
theorem nat64 (x : Nat) (h : x < 18446744073709551616) : (BitVec.ofNat 64 x).toNat = x := by rw [BitVec.toNat_ofNat]; exact Nat.mod_eq_of_lt h
theorem not64 (x : Nat) (h : x < 18446744073709551616) : (~~~BitVec.ofNat 64 x).toNat = 18446744073709551615 - x := by rw [BitVec.toNat_not, nat64 x h]
theorem demorgan_or (x y : Nat) (hx : x < 18446744073709551616) (hy : y < 18446744073709551616) : (18446744073709551615 - x) &&& (18446744073709551615 - y) = 18446744073709551615 - (x ||| y) := by
  rw [← not64 x hx, ← not64 y hy, ← BitVec.toNat_and, ← BitVec.not_or, BitVec.toNat_not, BitVec.toNat_or, nat64 x hx, nat64 y hy]
theorem demorgan_and (x y : Nat) (hx : x < 18446744073709551616) (hy : y < 18446744073709551616) : (18446744073709551615 - x) ||| (18446744073709551615 - y) = 18446744073709551615 - (x &&& y) := by
  rw [← not64 x hx, ← not64 y hy, ← BitVec.toNat_or, ← BitVec.not_and, BitVec.toNat_not, BitVec.toNat_and, nat64 x hx, nat64 y hy]
theorem demorgan_xor (x y : Nat) (hx : x < 18446744073709551616) (hy : y < 18446744073709551616) : (18446744073709551615 - x) ^^^ y = 18446744073709551615 - (x ^^^ y) := by
  have e : (~~~BitVec.ofNat 64 x) ^^^ BitVec.ofNat 64 y = ~~~(BitVec.ofNat 64 x ^^^ BitVec.ofNat 64 y) := by
    rw [BitVec.not_xor_left]
  rw [← not64 x hx, ← nat64 y hy, ← BitVec.toNat_xor, nat64 y hy, e, BitVec.toNat_not, BitVec.toNat_xor, nat64 x hx, nat64 y hy]
theorem lies_lt {s : Tn} {x : Nat} (h : Lies s x) : x < 18446744073709551616 := Nat.lt_of_le_of_lt h.2 s.2.isLt
/-- The least is a result and no result is below it; so with the greatest. -/
theorem ends {f g} (h : OpB f g) {f' g'} (h' : OpB f' g') (a b b' : Tn) (ha : a.1.toNat ≤ a.2.toNat) (hb : b.1.toNat ≤ b.2.toNat) (hb' : b'.1.toNat ≤ b'.2.toNat) (tb : Nat → Nat)
    (t1 : ∀ y, Lies b y → Lies b' (tb y)) (t2 : ∀ y, Lies b' y → ∃ z, Lies b z ∧ y = tb z)
    (dm : ∀ x y, Lies a x → Lies b y → g' (18446744073709551615 - x) (tb y) = 18446744073709551615 - g x y) (hg : ∀ x y, Lies a x → Lies b y → g x y < 18446744073709551616) :
    (∀ x y, Lies a x → Lies b y → Lies (leastS f a b, ~~~(leastS f' (turnS a) b')) (g x y)) ∧
    (∃ x y, Lies a x ∧ Lies b y ∧ g x y = (leastS f a b).toNat) ∧ (∃ x y, Lies a x ∧ Lies b y ∧ g x y = (~~~(leastS f' (turnS a) b')).toNat) := by
  obtain ⟨m1, m2⟩ := leastS_min h a b ha hb
  have hta : (turnS a).1.toNat ≤ (turnS a).2.toNat := by
    unfold turnS; dsimp only; rw [BitVec.toNat_not, BitVec.toNat_not]; omega
  obtain ⟨n1, n2⟩ := leastS_min h' (turnS a) b' hta hb'
  refine ⟨fun x y hx hy => ⟨m2 x y hx hy, ?_⟩, m1, ?_⟩
  · have k := n2 _ _ (turn_mem a x hx) (t1 y hy)
    rw [dm x y hx hy] at k
    have := hg x y hx hy
    show g x y ≤ (~~~(leastS f' (turnS a) b')).toNat
    rw [BitVec.toNat_not]
    omega
  · obtain ⟨x, y, hx, hy, e⟩ := n1
    obtain ⟨z, hz, rfl⟩ := t2 y hy
    have hx' := turn_back a x hx
    have lx := lies_lt hx
    have d := dm _ z hx' hz
    rw [show 18446744073709551615 - (18446744073709551615 - x) = x by omega, e] at d
    refine ⟨_, z, hx', hz, ?_⟩
    have := hg _ z hx' hz
    rw [BitVec.toNat_not, d]
    omega
theorem turn_span {s : Tn} (h : s.1.toNat ≤ s.2.toNat) : (turnS s).1.toNat ≤ (turnS s).2.toNat := by
  unfold turnS; dsimp only; rw [BitVec.toNat_not, BitVec.toNat_not]; omega
theorem op_lt (w : Bool) {g} (hg : IsOp g) {x y : Nat} (hx : x < modW w) (hy : y < modW w) : g x y < modW w := by
  obtain ⟨n, hn⟩ : ∃ n, modW w = 2 ^ n := by cases w; exact ⟨32, rfl⟩; exact ⟨64, rfl⟩
  rw [hn] at hx hy ⊢
  rcases hg with rfl | rfl | rfl
  · exact Nat.or_lt_two_pow hx hy
  · exact Nat.and_lt_two_pow x hy
  · exact Nat.xor_lt_two_pow hx hy
theorem turn_there {b : Tn} (y : Nat) (hy : Lies (turnS b) y) : ∃ z, Lies b z ∧ y = 18446744073709551615 - z :=
  ⟨_, turn_back b y hy, by have := lies_lt hy; omega⟩
theorem bitw_ends (op : Nat) (ho : op = 4 ∨ op = 5 ∨ op = 10) (w : Bool) (a b : Tn) (ha : a.1.toNat ≤ a.2.toNat) (hb : b.1.toNat ≤ b.2.toNat) :
    Sound op w a b (bitwS op a b) ∧ Tight op w a b (bitwS op a b) := by
  have lt : ∀ {g}, IsOp g → ∀ x y, Lies a x → Lies b y → g x y < 18446744073709551616 := fun hg x y hx hy => op_lt true hg (lies_lt hx) (lies_lt hy)
  rcases ho with rfl | rfl | rfl
  · obtain ⟨h1, h2, h3⟩ := ends opb_or opb_and a b (turnS b) ha hb (turn_span hb) (fun y => 18446744073709551615 - y) (turn_mem b) turn_there (fun x y hx hy => demorgan_or x y (lies_lt hx) (lies_lt hy)) (lt opb_or.1)
    exact ⟨h1, h2, h3⟩
  · obtain ⟨h1, h2, h3⟩ := ends opb_and opb_or a b (turnS b) ha hb (turn_span hb) (fun y => 18446744073709551615 - y) (turn_mem b) turn_there (fun x y hx hy => demorgan_and x y (lies_lt hx) (lies_lt hy)) (lt opb_and.1)
    exact ⟨h1, h2, h3⟩
  · obtain ⟨h1, h2, h3⟩ := ends opb_xor opb_xor a b b ha hb hb (fun y => y) (fun _ h => h) (fun y hy => ⟨y, hy, rfl⟩) (fun x y hx hy => demorgan_xor x y (lies_lt hx) (lies_lt hy)) (lt opb_xor.1)
    exact ⟨h1, h2, h3⟩
theorem opN_lt (op : Nat) (w : Bool) (x y : Nat) (hx : x < modW w) (hy : y < modW w) (ho : op = 4 ∨ op = 5 ∨ op = 10) : opN op w x y < modW w := by
  rcases ho with rfl | rfl | rfl
  · exact op_lt w opb_or.1 hx hy
  · exact op_lt w opb_and.1 hx hy
  · exact op_lt w opb_xor.1 hx hy
theorem twelve {op : Nat} (h : op ≤ 12) : op = 0 ∨ op = 1 ∨ op = 2 ∨ op = 3 ∨ op = 4 ∨ op = 5 ∨ op = 6 ∨ op = 7 ∨ op = 8 ∨ op = 9 ∨ op = 10 ∨ op = 11 ∨ op = 12 := by omega
/-- NO RESULT IS LEFT OUT. -/
theorem res_sound (op : Nat) (hop : op ≤ 12) (w : Bool) (a b : Tn) (ha : a.1.toNat ≤ a.2.toNat) (hb : b.1.toNat ≤ b.2.toNat) (la : a.2.toNat < modW w) (lb : b.2.toNat < modW w) :
    Sound op w a b (resS op w a b) ∧ (resS op w a b).2.toNat < modW w := by
  have bw : ∀ op, op = 4 ∨ op = 5 ∨ op = 10 → Sound op w a b (bitwS op a b) ∧ (bitwS op a b).2.toNat < modW w := by
    intro op ho
    obtain ⟨h1, h2, x, y, hx, hy, e⟩ := bitw_ends op ho w a b ha hb
    refine ⟨h1, ?_⟩
    rw [← e]
    exact opN_lt op w x y (Nat.lt_of_le_of_lt hx.2 la) (Nat.lt_of_le_of_lt hy.2 lb) ho
  rcases twelve hop with rfl | rfl | rfl | rfl | rfl | rfl | rfl | rfl | rfl | rfl | rfl | rfl | rfl
  · exact ⟨(add_both w a b ha hb).1, (add_both w a b ha hb).2.2⟩
  · exact ⟨(sub_both w a b ha hb lb).1, (sub_both w a b ha hb lb).2.2⟩
  · exact prod_sound w a b ha hb
  · exact ⟨(quot_sound a b ha hb).1, Nat.lt_of_le_of_lt (quot_sound a b ha hb).2.1 la⟩
  · exact bw 4 (by decide)
  · exact bw 5 (by decide)
  · exact lsh_sound w a b ha hb
  · exact ⟨(rsh_sound w a b ha hb).1, Nat.lt_of_le_of_lt (rsh_sound w a b ha hb).2 la⟩
  · exact ⟨(neg_both w a b ha hb la).1, (neg_both w a b ha hb la).2.2⟩
  · exact ⟨(rest_sound a b ha hb).1, Nat.lt_of_le_of_lt (rest_sound a b ha hb).2 la⟩
  · exact bw 10 (by decide)
  · exact ⟨fun x y _ hy => hy, lb⟩
  · exact arsh_sound w a b ha hb la
/-- Both ends are results. -/
theorem res_tight (op : Nat) (hop : op ≤ 11) (w : Bool) (a b : Tn) (ha : a.1.toNat ≤ a.2.toNat) (hb : b.1.toNat ≤ b.2.toNat) (la : a.2.toNat < modW w) (lb : b.2.toNat < modW w)
    (hn : op ≠ 2 ∧ op ≠ 6 ∧ op ≠ 7 ∧ op ≠ 9) : Tight op w a b (resS op w a b) := by
  rcases twelve (Nat.le_succ_of_le hop) with rfl | rfl | rfl | rfl | rfl | rfl | rfl | rfl | rfl | rfl | rfl | rfl | rfl
  · exact (add_both w a b ha hb).2.1
  · exact (sub_both w a b ha hb lb).2.1
  · omega
  · exact (quot_sound a b ha hb).2.2
  · exact (bitw_ends 4 (by decide) w a b ha hb).2
  · exact (bitw_ends 5 (by decide) w a b ha hb).2
  · omega
  · omega
  · exact (neg_both w a b ha hb la).2.1
  · omega
  · exact (bitw_ends 10 (by decide) w a b ha hb).2
  · exact ⟨⟨_, _, ⟨Nat.le_refl _, ha⟩, ⟨Nat.le_refl _, hb⟩, rfl⟩, ⟨_, _, ⟨Nat.le_refl _, ha⟩, ⟨hb, Nat.le_refl _⟩, rfl⟩⟩
  · omega
end Go.Proofs.Ytoanbjnhoggpjaa
