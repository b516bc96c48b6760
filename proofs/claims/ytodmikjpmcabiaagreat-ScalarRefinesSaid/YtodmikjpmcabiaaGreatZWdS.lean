import Derived.Test.YtodmikjpmcabiaaGreatRows
import Derived.WalkKit
import Derived.ProofKit
import Derived.OpenShut
import Derived.Carry
import Derived.Below
import Derived.Laws.BitsAllLaws
import Derived.Laws.Bits64
import Derived.Deep.QuietTactic
import Derived.BigQuiet
import Derived.Outline
namespace Go.Proofs.YtodmikjpmcabiaaGreat.Wd
set_option maxRecDepth 100000
open Go.ChangeShapes Go.WideShapes Go.ChangeAt Go.RowKit

theorem hid {p : Prop} (h : p) : Hid p := h

theorem below_next {a b c : World} (h : Below a.heap.size a b) (k : Below b.heap.size b c) : Below a.heap.size a c := h.trans (k.mono h.size)

theorem own : ownKnob Tryz.prog.godebug = none := by kernel_rfl
theorem laid : laidOutB Tryz.prog = true := by kernel_rfl

section
variable {H : Type} {enc : TypeId × Value → H} {P : Program}

theorem trodAll_below (hl : laidOutB P = true) {W W' : World} (hb : Below W.heap.size W W') {sp : Nat → Bool} :
    ∀ {ts : List TypeId} {vs : List Value} {ds : List (DataW H)} {ps : List MemPlace}, (ts.all fun t => P.readableRec t && decide (t < P.types.size)) = true →
      DataW.TrodAll enc P W 0 (fun _ => true) true ts vs ds ps → (∀ x ∈ ps, x.block < W.heap.size ∧ sp x.block = true) → DataW.TrodAll enc P W' 0 sp true ts vs ds ps
  | [], [], [], _, _, h, _ => h
  | t :: ts, v :: vs, d :: ds, ps, hr, h, hlt => by
    obtain ⟨p, q, h1, h2, rfl⟩ := h
    rw [List.all_cons, Bool.and_eq_true, Bool.and_eq_true, decide_eq_true_eq] at hr
    exact ⟨p, q, WideElems.Trod_stays hl hr.1.1 hr.1.2 h1 (fun x hx => hb.same (hlt x (List.mem_append_left _ hx)).1) (fun x hx => (hlt x (List.mem_append_left _ hx)).2),
      trodAll_below hl hb hr.2 h2 (fun x hx => hlt x (List.mem_append_right _ hx)), rfl⟩
  | [], [], _ :: _, _, _, h, _ => h.elim
  | [], _ :: _, _, _, _, h, _ => h.elim
  | _ :: _, [], _, _, _, h, _ => h.elim
  | _ :: _, _ :: _, [], _, _, h, _ => h.elim

theorem law_shut (hl : laidOutB P = true) {f : Func} {s : ChangeSpec} {apart fresh handsOn : Bool} {tb : TypeId} {W W' : World} {args : Array Value} {ds gs : List (DataW H)} {before : List MemPlace}
    (hW : DataW.Whole enc P f.params.toList s.vars apart W args.toList ds gs before) (hv : s.vars = []) (hf : f.resultTypes = #[tb]) (ht : P.underlying tb = some .bool)
    (hr : (f.params.toList.all fun t => P.readableRec t && decide (t < P.types.size)) = true)
    (hs1 : (s.fn H (ds ++ gs)).results = [.lit (.bool true)]) (hs2 : (s.fn H (ds ++ gs)).args = ds) (hs3 : (s.fn H (ds ++ gs)).vars = [])
    (hb : Below W.heap.size W W') : s.post enc P f apart fresh handsOn false W args (.bool true) W' := by
  have hW' := hW
  have hlt := hW.lt
  obtain ⟨p, q, hA, hV, rfl, _, _⟩ := hW
  rw [hv] at hV
  cases gs with
  | cons g gs => exact hV.elim
  | nil =>
    obtain rfl : q = [] := hV
    rw [List.append_nil] at hlt
    refine ⟨ds, [], p ++ [], [], p, [], hW', ?_, ?_, ?_, hb.frame _, fun h => by cases h⟩
    · rw [hf, hs1]
      exact trodAll_cons_mk (p := []) (shut_bool ht _) trodAll_mk0
    · rw [hs2]
      exact trodAll_below hl hb hr hA (fun x hx => ⟨hlt x hx, by simpa using hlt x hx⟩)
    · rw [hs3, hv]
      rfl


end
end Go.Proofs.YtodmikjpmcabiaaGreat.Wd

namespace Go.Proofs.YtodmikjpmcabiaaGreat.Wd
set_option maxRecDepth 100000
open Go.RowKit

def SZ (wide : Bool) : Int := if wide then 64 else 32
def MD (wide : Bool) : Int := if wide then 18446744073709551616 else 4294967296
def sgnI (wide : Bool) (x : Int) : Int := if 2 * x < MD wide then x else x - MD wide

theorem MD_true : MD true = 18446744073709551616 := rfl
theorem MD_false : MD false = 4294967296 := rfl
theorem SZ_true : SZ true = 64 := rfl
theorem SZ_false : SZ false = 32 := rfl
theorem MD_pos (wide : Bool) : 0 < MD wide := by cases wide <;> decide
theorem MD_le (wide : Bool) : MD wide ≤ 18446744073709551616 := by cases wide <;> decide
def ansI (op : Int) (wide : Bool) (x y : Int) : Int :=
  if op = 0 then (x + y) % 18446744073709551616
  else if op = 1 then (x - y) % 18446744073709551616
  else if op = 2 then (x * y) % 18446744073709551616
  else if op = 3 then (if y = 0 then 0 else x / y)
  else if op = 4 then bits .or .u64 x y
  else if op = 5 then bits .and .u64 x y
  else if op = 6 then (x * 2 ^ (y % SZ wide).toNat) % 18446744073709551616
  else if op = 7 then x / 2 ^ (y % SZ wide).toNat
  else if op = 8 then (-x) % 18446744073709551616
  else if op = 9 then (if y = 0 then x else x % y)
  else if op = 10 then bits .xor .u64 x y
  else if op = 11 then y
  else if op = 12 then (sgnI wide x / 2 ^ (y % SZ wide).toNat) % 18446744073709551616
  else 0
def aluE (op : Int) : Int := if 0 ≤ op ∧ op ≤ 12 then 0 else 20
def aluI (op : Int) (wide : Bool) (a b : Int) : Int := ansI op wide (a % MD wide) (b % MD wide) % MD wide

theorem wrap_u64 (n : Int) : IntKind.u64.wrap n = n % 18446744073709551616 := IntKind.wrap_u64 n
theorem wrap64_eq (n : Int) : wrap64 n = (n + 9223372036854775808) % 18446744073709551616 - 9223372036854775808 := by
  have := IntKind.wrap_i64 n
  first | exact this | (unfold wrap64; exact this) | (unfold wrap64; omega)
theorem mask_fit (wide : Bool) (n : Int) (h0 : 0 ≤ n) (h1 : n < 18446744073709551616) : bits .and .u64 n (MD wide - 1) = n % MD wide := by
  rw [u64_and n (MD wide - 1) h0 h1 (by have := MD_pos wide; omega) (by have := MD_le wide; omega)]
  cases wide
  · show ((n.toNat &&& (4294967296 - 1) : Nat) : Int) = _
    rw [show (4294967296 - 1 : Nat) = 2 ^ 32 - 1 from rfl, Nat.and_two_pow_sub_one_eq_mod]
    simp only [MD_false]; omega
  · show ((n.toNat &&& (18446744073709551616 - 1) : Nat) : Int) = _
    rw [show (18446744073709551616 - 1 : Nat) = 2 ^ 64 - 1 from rfl, Nat.and_two_pow_sub_one_eq_mod]
    simp only [MD_true]; omega

theorem bits_bd (op : BinOp) (x y : Int) : 0 ≤ bits op .u64 x y ∧ bits op .u64 x y < 18446744073709551616 := by
  unfold bits
  split <;> rw [wrap_u64] <;> omega
theorem pow_pos (n : Nat) : (0 : Int) < 2 ^ n := Int.pow_pos (by decide)
theorem div_bd (x m : Int) (h0 : 0 ≤ x) (h1 : x < 18446744073709551616) (hm : 0 < m) : 0 ≤ x / m ∧ x / m < 18446744073709551616 :=
  ⟨Int.ediv_nonneg h0 (by omega), by
    have := Int.ediv_le_self m h0
    omega⟩

theorem mod_bd (x m : Int) (h0 : 0 ≤ x) (h1 : x < 18446744073709551616) (hm : 0 < m) : 0 ≤ x % m ∧ x % m < 18446744073709551616 := by
  have h := Int.emod_nonneg x (b := m) (by omega)
  have h3 := Int.mul_ediv_add_emod x m
  have h4 := (div_bd x m h0 h1 hm).1
  have h5 : 0 ≤ m * (x / m) := Int.mul_nonneg (by omega) h4
  omega
theorem m64_bd (x : Int) : 0 ≤ x % 18446744073709551616 ∧ x % 18446744073709551616 < 18446744073709551616 := by omega

theorem ite_bd {c : Prop} [Decidable c] {a b : Int} (h1 : c → 0 ≤ a ∧ a < 18446744073709551616) (h2 : ¬ c → 0 ≤ b ∧ b < 18446744073709551616) :
    0 ≤ (if c then a else b) ∧ (if c then a else b) < 18446744073709551616 := by
  split
  · exact h1 ‹_›
  · exact h2 ‹_›
theorem ansI_bd (op : Int) (wide : Bool) (x y : Int) (h0 : 0 ≤ x) (h1 : x < 18446744073709551616) (g0 : 0 ≤ y) (g1 : y < 18446744073709551616) :
    0 ≤ ansI op wide x y ∧ ansI op wide x y < 18446744073709551616 := by
  unfold ansI
  repeat' (first | (refine ite_bd (fun _ => ?_) (fun _ => ?_)))
  · exact m64_bd _
  · exact m64_bd _
  · exact m64_bd _
  · omega
  · exact div_bd _ _ h0 h1 (by omega)
  · exact bits_bd _ _ _
  · exact bits_bd _ _ _
  · exact m64_bd _
  · exact div_bd _ _ h0 h1 (pow_pos _)
  · exact m64_bd _
  · exact ⟨h0, h1⟩
  · exact mod_bd _ _ h0 h1 (by omega)
  · exact bits_bd _ _ _
  · exact ⟨g0, g1⟩
  · exact m64_bd _
  · omega

theorem fit_bd (wide : Bool) (a : Int) : 0 ≤ a % MD wide ∧ a % MD wide < MD wide :=
  ⟨Int.emod_nonneg _ (by have := MD_pos wide; omega), Int.emod_lt_of_pos _ (MD_pos wide)⟩
theorem fit_bd64 (wide : Bool) (a : Int) : 0 ≤ a % MD wide ∧ a % MD wide < 18446744073709551616 :=
  ⟨(fit_bd wide a).1, Int.lt_of_lt_of_le (fit_bd wide a).2 (MD_le wide)⟩

def cndB (op : Int) (wide : Bool) (x y : Int) : Bool :=
  if op = 1 then x == y
  else if op = 5 then x != y
  else if op = 2 then decide (y < x)
  else if op = 3 then decide (y ≤ x)
  else if op = 10 then decide (x < y)
  else if op = 11 then decide (x ≤ y)
  else if op = 4 then bits .and .u64 x y != 0
  else if op = 6 then decide (sgnI wide y < sgnI wide x)
  else if op = 7 then decide (sgnI wide y ≤ sgnI wide x)
  else if op = 12 then decide (sgnI wide x < sgnI wide y)
  else if op = 13 then decide (sgnI wide x ≤ sgnI wide y)
  else false
def isCond (op : Int) : Bool := op == 1 || op == 5 || op == 2 || op == 3 || op == 10 || op == 11 || op == 4 || op == 6 || op == 7 || op == 12 || op == 13
def condE (op : Int) : Int := if isCond op then 0 else 20
def condI (op : Int) (wide : Bool) (a b : Int) : Bool := cndB op wide (a % MD wide) (b % MD wide)
theorem cnd_at1 {op : Int} (h : (op == 1) = true) (wide : Bool) (x y : Int) : (x == y) = cndB op wide x y := by
  obtain rfl : op = 1 := by simpa using h
  rfl
theorem cnd_at5 {op : Int} (h : (op == 5) = true) (wide : Bool) (x y : Int) : (x != y) = cndB op wide x y := by
  obtain rfl : op = 5 := by simpa using h
  rfl
theorem cnd_at2 {op : Int} (h : (op == 2) = true) (wide : Bool) (x y : Int) : (decide (y < x)) = cndB op wide x y := by
  obtain rfl : op = 2 := by simpa using h
  rfl
theorem cnd_at3 {op : Int} (h : (op == 3) = true) (wide : Bool) (x y : Int) : (decide (y ≤ x)) = cndB op wide x y := by
  obtain rfl : op = 3 := by simpa using h
  rfl
theorem cnd_at10 {op : Int} (h : (op == 10) = true) (wide : Bool) (x y : Int) : (decide (x < y)) = cndB op wide x y := by
  obtain rfl : op = 10 := by simpa using h
  rfl
theorem cnd_at11 {op : Int} (h : (op == 11) = true) (wide : Bool) (x y : Int) : (decide (x ≤ y)) = cndB op wide x y := by
  obtain rfl : op = 11 := by simpa using h
  rfl
theorem cnd_at4 {op : Int} (h : (op == 4) = true) (wide : Bool) (x y : Int) : (bits .and .u64 x y != 0) = cndB op wide x y := by
  obtain rfl : op = 4 := by simpa using h
  rfl
theorem cnd_at6 {op : Int} (h : (op == 6) = true) (wide : Bool) (x y : Int) : (decide (sgnI wide y < sgnI wide x)) = cndB op wide x y := by
  obtain rfl : op = 6 := by simpa using h
  rfl
theorem cnd_at7 {op : Int} (h : (op == 7) = true) (wide : Bool) (x y : Int) : (decide (sgnI wide y ≤ sgnI wide x)) = cndB op wide x y := by
  obtain rfl : op = 7 := by simpa using h
  rfl
theorem cnd_at12 {op : Int} (h : (op == 12) = true) (wide : Bool) (x y : Int) : (decide (sgnI wide x < sgnI wide y)) = cndB op wide x y := by
  obtain rfl : op = 12 := by simpa using h
  rfl
theorem cnd_at13 {op : Int} (h : (op == 13) = true) (wide : Bool) (x y : Int) : (decide (sgnI wide x ≤ sgnI wide y)) = cndB op wide x y := by
  obtain rfl : op = 13 := by simpa using h
  rfl
theorem condE_is {op : Int} {k : Int} (h : (op == k) = true) (hk : isCond k = true) : 0 = condE op := by
  obtain rfl : op = k := by simpa using h
  exact (if_pos hk).symm
theorem cnd_none {op : Int} (h : isCond op = false) (wide : Bool) (x y : Int) : cndB op wide x y = false := by
  simp only [isCond, Bool.or_eq_false_iff, beq_eq_false_iff_ne, ne_eq] at h
  obtain ⟨⟨⟨⟨⟨⟨⟨⟨⟨⟨h1, h2⟩, h3⟩, h4⟩, h5⟩, h6⟩, h7⟩, h8⟩, h9⟩, h10⟩, h11⟩ := h
  unfold cndB
  rw [if_neg h1, if_neg h2, if_neg h3, if_neg h4, if_neg h5, if_neg h6, if_neg h7, if_neg h8, if_neg h9, if_neg h10, if_neg h11]
theorem condE_none {op : Int} (h : isCond op = false) : condE op = 20 := by
  unfold condE
  rw [h]
  rfl

theorem sgnI_false (n : Int) : sgnI false n = if 2 * n < 4294967296 then n else n - 4294967296 := rfl
theorem sgnI_true (n : Int) : sgnI true n = if 2 * n < 18446744073709551616 then n else n - 18446744073709551616 := rfl
/-! ### The sign's bit -/
def TP (wide : Bool) : Int := if wide then 9223372036854775808 else 2147483648
theorem TP_true : TP true = 9223372036854775808 := rfl
theorem TP_false : TP false = 2147483648 := rfl
theorem TP_two (wide : Bool) : 2 * TP wide = MD wide := by cases wide <;> rfl
theorem and_top (wide : Bool) (r : Int) (h0 : 0 ≤ r) (h1 : r < MD wide) : bits .and .u64 r (TP wide) = if r < TP wide then 0 else TP wide := by
  have hm := MD_le wide
  have ht := TP_two wide
  rw [u64_and r (TP wide) h0 (by omega) (by omega) (by omega)]
  cases wide
  · show ((r.toNat &&& 2 ^ 31 : Nat) : Int) = _
    rw [nat_bit]
    split <;> simp only [TP_false, MD_false] at * <;> omega
  · show ((r.toNat &&& 2 ^ 63 : Nat) : Int) = _
    rw [nat_bit]
    split <;> simp only [TP_true, MD_true] at * <;> omega
theorem sgn_bd (wide : Bool) (x : Int) (h0 : 0 ≤ x) (h1 : x < MD wide) : - TP wide ≤ sgnI wide x ∧ sgnI wide x < TP wide := by
  have ht := TP_two wide
  unfold sgnI
  split <;> omega
theorem tb_add (i j d : Nat) (hd : d < 2 ^ i) (hj : i ≠ j) : (2 ^ i + d).testBit j = d.testBit j := by
  rcases Nat.lt_or_gt_of_ne hj with h | h
  · have h1 : 2 ^ (i + 1) ≤ 2 ^ j := Nat.pow_le_pow_right (by decide) h
    have h2 : 2 ^ (i + 1) = 2 ^ i * 2 := Nat.pow_succ _ _
    rw [Nat.testBit_lt_two_pow (show 2 ^ i + d < 2 ^ j by omega), Nat.testBit_lt_two_pow (by omega)]
  · exact Nat.testBit_two_pow_add_gt h d
theorem xor_top (wide : Bool) (x : Int) (h0 : 0 ≤ x) (h1 : x < MD wide) : bits .xor .u64 x (TP wide) = sgnI wide x + TP wide := by
  have hm := MD_le wide
  have ht := TP_two wide
  rw [u64_xor x (TP wide) h0 (by omega) (by omega) (by omega)]
  have key : ∀ (i r : Nat), r < 2 ^ (i + 1) → r ^^^ 2 ^ i = if r < 2 ^ i then r + 2 ^ i else r - 2 ^ i := by
    intro i r hr
    have hp : (2 : Nat) ^ (i + 1) = 2 ^ i * 2 := Nat.pow_succ _ _
    split
    · rename_i hlt
      apply Nat.eq_of_testBit_eq
      intro j
      rw [Nat.testBit_xor, Nat.add_comm, Nat.testBit_two_pow]
      by_cases hj : i = j
      · subst hj
        rw [Nat.testBit_two_pow_add_eq, Nat.testBit_lt_two_pow hlt]
        simp
      · rw [tb_add i j _ (by omega) hj]
        simp [hj]
    · rename_i hge
      apply Nat.eq_of_testBit_eq
      intro j
      obtain ⟨d, rfl⟩ : ∃ d, r = 2 ^ i + d := ⟨r - 2 ^ i, by omega⟩
      rw [Nat.add_sub_cancel_left, Nat.testBit_xor, Nat.testBit_two_pow]
      have hd : d < 2 ^ i := by omega
      by_cases hj : i = j
      · subst hj
        rw [Nat.testBit_two_pow_add_eq, Nat.testBit_lt_two_pow hd]
        simp
      · rw [tb_add i j _ (by omega) hj]
        simp [hj]
  cases wide
  · show ((x.toNat ^^^ 2 ^ 31 : Nat) : Int) = _
    rw [sgnI_false]
    simp only [TP_false, MD_false] at h1 hm ⊢
    rw [key 31 x.toNat (by omega)]
    split <;> split <;> omega
  · show ((x.toNat ^^^ 2 ^ 63 : Nat) : Int) = _
    rw [sgnI_true]
    simp only [TP_true, MD_true] at h1 hm ⊢
    rw [key 63 x.toNat (by omega)]
    split <;> split <;> omega
end Go.Proofs.YtodmikjpmcabiaaGreat.Wd

namespace Go.Proofs.YtodmikjpmcabiaaGreat.Wd
set_option maxRecDepth 100000
open Go.ChangeShapes Go.WideShapes Go.ChangeAt Go.RowKit

theorem below_drewN (B : Nat) (w : World) (n : Nat) : Below B w (w.drewN n) := ⟨rfl, rfl, rfl, Nat.le_refl _, fun _ _ => rfl⟩

theorem sizeOf_any (wide : Bool) (w : World) : Calls Tryz.prog 89 #[.bool wide] w fun e w' => e = .returned (.int .u64 (SZ wide)) ∧ w = w' := by
  cases wide
  all_goals
    go_enter Tryz.func89, Tryz.ntmps89
    go_wp2
    go_ret
    exact ⟨rfl, rfl⟩

def masked (wide : Bool) (w : World) : World := w.alloc (.cells #[.int .u64 (MD wide - 1)] 22)
theorem masked_below (wide : Bool) (w : World) : Below w.heap.size w (masked wide w) := (Below.refl _ _).alloc (Nat.le_refl _) _

theorem fitter_any (wide : Bool) (w : World) : Calls Tryz.prog 90 #[.int .u64 (SZ wide)] w fun e w' =>
    e = .returned (.func (.func 126) #[] #[.pointer (some ⟨w.heap.size, 0, none⟩)]) ∧ masked wide w = w' := by
  cases wide
  all_goals
    simp only [SZ_true, SZ_false]
    go_enter Tryz.func90, Tryz.ntmps90
    go_wp2
    go_ret
    exact ⟨rfl, rfl⟩

theorem fit_any (wide : Bool) (n : Int) (p : Addr) (w : World) (h0 : 0 ≤ n) (h1 : n < 18446744073709551616) (hm : w.cell? p = some (.int .u64 (MD wide - 1))) :
    Calls Tryz.prog 126 #[.int .u64 n, .pointer (some p)] w fun e w' => e = .returned (.int .u64 (n % MD wide)) ∧ w = w' := by
  have H := hid (mask_fit wide n h0 h1)
  go_enter Tryz.func126, Tryz.ntmps126
  go_wp2
  go_ret
  exact ⟨by rw [← H.out]; rfl, rfl⟩

theorem ret_int {k : IntKind} {a b : Int} (h : a = b) : Ending.returned (.int k a) = .returned (.int k b) := by rw [h]
theorem ret_two {k l : IntKind} {a b c d : Int} (h : a = b) (g : c = d) : Ending.returned (.tuple #[.int k a, .int l c]) = .returned (.tuple #[.int k b, .int l d]) := by rw [h, g]

theorem signed_num_f (n : Int) (h0 : 0 ≤ n) (h1 : n < MD false) : wrap64 (IntKind.u64.wrap (n * 4294967296)) / 4294967296 = sgnI false n := by
  rw [wrap_u64, wrap64_eq, sgnI_false]
  simp only [MD_false] at h1
  split <;> omega
theorem signed_num_t (n : Int) (h0 : 0 ≤ n) (h1 : n < MD true) : wrap64 (IntKind.u64.wrap n) = sgnI true n := by
  rw [wrap_u64, wrap64_eq, sgnI_true]
  simp only [MD_true] at h1
  split <;> omega

theorem signed_any (wide : Bool) (n : Int) (w : World) (h0 : 0 ≤ n) (h1 : n < MD wide) :
    Calls Tryz.prog 91 #[.int .u64 (SZ wide), .int .u64 n] w fun e w' => e = .returned (.int .i64 (sgnI wide n)) ∧ w = w' := by
  cases wide
  · have H := hid (signed_num_f n h0 h1)
    simp only [SZ_false]
    go_enter Tryz.func91, Tryz.ntmps91
    go_wp2
    go_ret
    exact ⟨ret_int H.out, rfl⟩
  · have H := hid (signed_num_t n h0 h1)
    simp only [SZ_true]
    go_enter Tryz.func91, Tryz.ntmps91
    go_wp2
    go_ret
    exact ⟨ret_int H.out, rfl⟩

def plainOp (op : Int) : Bool := op == 0 || op == 1 || op == 2 || op == 4 || op == 5 || op == 6 || op == 7 || op == 8 || op == 10 || op == 11

theorem answer_plain (op : Int) (wide : Bool) (x y : Int) (w : World) (g0 : 0 ≤ y) (g1 : y < 18446744073709551616) (hp : plainOp op = true) :
    Calls Tryz.prog 99 #[.int .i64 op, .int .u64 (SZ wide), .int .u64 x, .int .u64 y] w fun e w' => e = .returned (.tuple #[.int .u64 (ansI op wide x y), .int .i64 0]) ∧ w = w' := by
  have hc : op = 0 ∨ op = 1 ∨ op = 2 ∨ op = 4 ∨ op = 5 ∨ op = 6 ∨ op = 7 ∨ op = 8 ∨ op = 10 ∨ op = 11 := by
    simp only [plainOp, Bool.or_eq_true, beq_iff_eq] at hp
    omega
  clear hp
  rcases hc with rfl | rfl | rfl | rfl | rfl | rfl | rfl | rfl | rfl | rfl
  all_goals
    cases wide
    all_goals
      simp only [SZ_true, SZ_false]
      go_enter Tryz.func99, Tryz.ntmps99
      go_wp2
      go_ret2
      first
        | exact ⟨rfl, rfl⟩
        | exact ⟨ret_two (by unfold ansI; simp [wrap_u64, SZ]) rfl, rfl⟩

theorem answer_div (wide : Bool) (x y : Int) (w : World) (h0 : 0 ≤ x) (h1 : x < 18446744073709551616) (g0 : 0 ≤ y) :
    Calls Tryz.prog 99 #[.int .i64 3, .int .u64 (SZ wide), .int .u64 x, .int .u64 y] w fun e w' => e = .returned (.tuple #[.int .u64 (ansI 3 wide x y), .int .i64 0]) ∧ w = w' := by
  by_cases hy : y = 0
  · subst hy
    go_enter Tryz.func99, Tryz.ntmps99
    go_wp2
    go_ret2
    exact ⟨rfl, rfl⟩
  · have H := hid (show x / y = ansI 3 wide x y by
      show _ = if y = 0 then 0 else x / y
      rw [if_neg hy])
    have hp : 0 < y := by omega
    go_enter Tryz.func99, Tryz.ntmps99
    go_wp2
    go_ret2
    exact ⟨ret_two H.out rfl, rfl⟩

theorem answer_mod (wide : Bool) (x y : Int) (w : World) (h0 : 0 ≤ x) (g0 : 0 ≤ y) :
    Calls Tryz.prog 99 #[.int .i64 9, .int .u64 (SZ wide), .int .u64 x, .int .u64 y] w fun e w' => e = .returned (.tuple #[.int .u64 (ansI 9 wide x y), .int .i64 0]) ∧ w = w' := by
  by_cases hy : y = 0
  · subst hy
    go_enter Tryz.func99, Tryz.ntmps99
    go_wp2
    go_ret2
    exact ⟨rfl, rfl⟩
  · have H := hid (show x % y = ansI 9 wide x y by
      show _ = if y = 0 then x else x % y
      rw [if_neg hy])
    have hp : 0 < y := by omega
    go_enter Tryz.func99, Tryz.ntmps99
    go_wp2
    go_ret2
    exact ⟨ret_two H.out rfl, rfl⟩

theorem answer_none (op : Int) (wide : Bool) (x y : Int) (w : World) (ho : ¬ (0 ≤ op ∧ op ≤ 12)) :
    Calls Tryz.prog 99 #[.int .i64 op, .int .u64 (SZ wide), .int .u64 x, .int .u64 y] w fun e w' => e = .returned (.tuple #[.int .u64 0, .int .i64 20]) ∧ w = w' := by
  have e0 : (op == 0) = false := by simp; omega
  have e1 : (op == 1) = false := by simp; omega
  have e2 : (op == 2) = false := by simp; omega
  have e3 : (op == 3) = false := by simp; omega
  have e4 : (op == 4) = false := by simp; omega
  have e5 : (op == 5) = false := by simp; omega
  have e6 : (op == 6) = false := by simp; omega
  have e7 : (op == 7) = false := by simp; omega
  have e8 : (op == 8) = false := by simp; omega
  have e9 : (op == 9) = false := by simp; omega
  have e10 : (op == 10) = false := by simp; omega
  have e11 : (op == 11) = false := by simp; omega
  have e12 : (op == 12) = false := by simp; omega
  clear ho
  go_enter Tryz.func99, Tryz.ntmps99
  go_wp2
  go_ret2
  exact ⟨rfl, rfl⟩

theorem answer_arsh (wide : Bool) (x y : Int) (w : World) (h0 : 0 ≤ x) (h1 : x < MD wide) (g0 : 0 ≤ y) (g1 : y < 18446744073709551616) :
    Calls Tryz.prog 99 #[.int .i64 12, .int .u64 (SZ wide), .int .u64 x, .int .u64 y] w fun e w' => e = .returned (.tuple #[.int .u64 (ansI 12 wide x y), .int .i64 0]) ∧ Below w.heap.size w w' := by
  have hs := fun W => signed_any wide x W h0 h1
  have H := hid (show IntKind.u64.wrap (sgnI wide x / 2 ^ (y % SZ wide).toNat) = ansI 12 wide x y by rw [wrap_u64]; rfl)
  cases wide
  all_goals
    simp only [SZ_true, SZ_false] at hs H ⊢
    have Hs := hid hs
    clear hs
    go_enter Tryz.func99, Tryz.ntmps99
    go_wp2
    go_quiet ((go_at_call 91; exact Calls.quiet_of_same ((Hs.out _).mono fun _ _ h => ⟨h.1, h.2.symm⟩)))
    go_wp2
    go_ret2
    exact ⟨ret_two H.out rfl, below_drewN _ _ _⟩

theorem answer_any (op : Int) (wide : Bool) (x y : Int) (w : World) (h0 : 0 ≤ x) (h1 : x < MD wide) (g0 : 0 ≤ y) (g1 : y < MD wide) :
    Calls Tryz.prog 99 #[.int .i64 op, .int .u64 (SZ wide), .int .u64 x, .int .u64 y] w fun e w' => e = .returned (.tuple #[.int .u64 (ansI op wide x y), .int .i64 (aluE op)]) ∧ Below w.heap.size w w' := by
  have hx : x < 18446744073709551616 := Int.lt_of_lt_of_le h1 (MD_le wide)
  have hy : y < 18446744073709551616 := Int.lt_of_lt_of_le g1 (MD_le wide)
  by_cases ho : 0 ≤ op ∧ op ≤ 12
  · have he : aluE op = 0 := if_pos ho
    rw [he]
    have hc : plainOp op = true ∨ op = 3 ∨ op = 9 ∨ op = 12 := by
      simp only [plainOp, Bool.or_eq_true, beq_iff_eq]
      omega
    rcases hc with hc | rfl | rfl | rfl
    · exact (answer_plain op wide x y w g0 hy hc).mono fun e w' h => ⟨h.1, h.2 ▸ Below.refl _ _⟩
    · exact (answer_div wide x y w h0 hx g0).mono fun e w' h => ⟨h.1, h.2 ▸ Below.refl _ _⟩
    · exact (answer_mod wide x y w h0 g0).mono fun e w' h => ⟨h.1, h.2 ▸ Below.refl _ _⟩
    · exact answer_arsh wide x y w h0 h1 g0 hy
  · have he : aluE op = 20 := if_neg ho
    have ha : ansI op wide x y = 0 := by
      unfold ansI
      rw [if_neg (by omega), if_neg (by omega), if_neg (by omega), if_neg (by omega), if_neg (by omega), if_neg (by omega), if_neg (by omega), if_neg (by omega), if_neg (by omega), if_neg (by omega), if_neg (by omega), if_neg (by omega), if_neg (by omega)]
    rw [he, ha]
    exact (answer_none op wide x y w ho).mono fun e w' h => ⟨h.1, h.2 ▸ Below.refl _ _⟩

end Go.Proofs.YtodmikjpmcabiaaGreat.Wd

namespace Go.Proofs.YtodmikjpmcabiaaGreat.Wd
set_option maxRecDepth 100000
open Go.ChangeShapes Go.WideShapes Go.ChangeAt Go.RowKit

theorem masked_cell (wide : Bool) (w : World) : (masked wide w).cell? ⟨w.heap.size, 0, none⟩ = some (.int .u64 (MD wide - 1)) := by
  unfold masked
  simp

theorem masked_size (wide : Bool) (w : World) : w.heap.size < (masked wide w).heap.size := by
  unfold masked
  simp

theorem alu_any (op : Int) (wide : Bool) (a b : Int) (w : World) (h0 : 0 ≤ a) (h1 : a < 18446744073709551616) (g0 : 0 ≤ b) (g1 : b < 18446744073709551616) :
    Calls Tryz.prog 69 #[.int .i64 op, .bool wide, .int .u64 a, .int .u64 b] w fun e w' => e = .returned (.tuple #[.int .u64 (aluI op wide a b), .int .i64 (aluE op)]) ∧ Below w.heap.size w w' := by
  go_enter Tryz.func69, Tryz.ntmps69
  go_wp2_with fail
  refine (sizeOf_any wide _).mono ?_
  rintro e w' ⟨rfl, rfl⟩
  go_wp2_with fail
  refine (fitter_any wide _).mono ?_
  rintro e w' ⟨rfl, rfl⟩
  have hc := masked_cell wide w
  go_wp2_with fail
  refine (fit_any wide a _ _ h0 h1 hc).mono ?_
  rintro e w' ⟨rfl, rfl⟩
  go_wp2_with fail
  refine (fit_any wide b _ _ g0 g1 hc).mono ?_
  rintro e w' ⟨rfl, rfl⟩
  go_wp2_with fail
  refine (answer_any op wide _ _ _ (fit_bd wide a).1 (fit_bd wide a).2 (fit_bd wide b).1 (fit_bd wide b).2).mono ?_
  rintro e w1 ⟨rfl, hb⟩
  have hb1 : Below w.heap.size w w1 := (masked_below wide w).trans (hb.mono (Nat.le_of_lt (masked_size wide w)))
  have hc1 : w1.cell? ⟨w.heap.size, 0, none⟩ = some (.int .u64 (MD wide - 1)) := (hb.cell (p := ⟨w.heap.size, 0, none⟩) (masked_size wide w)).trans hc
  clear hc hb
  go_wp2_with fail
  refine (fit_any wide _ _ _ (ansI_bd op wide _ _ (fit_bd wide a).1 (fit_bd64 wide a).2 (fit_bd wide b).1 (fit_bd64 wide b).2).1 (ansI_bd op wide _ _ (fit_bd wide a).1 (fit_bd64 wide a).2 (fit_bd wide b).1 (fit_bd64 wide b).2).2 hc1).mono ?_
  rintro e w' ⟨rfl, rfl⟩
  go_wp2
  go_ret2
  exact ⟨rfl, hb1⟩

theorem ret_bi {k : IntKind} {a b : Bool} {c d : Int} (h : a = b) (g : c = d) : Ending.returned (.tuple #[.bool a, .int k c]) = .returned (.tuple #[.bool b, .int k d]) := by rw [h, g]

set_option maxHeartbeats 1000000 in
theorem cond_any (op : Int) (wide : Bool) (a b : Int) (w : World) (h0 : 0 ≤ a) (h1 : a < 18446744073709551616) (g0 : 0 ≤ b) (g1 : b < 18446744073709551616) :
    Calls Tryz.prog 60 #[.int .i64 op, .bool wide, .int .u64 a, .int .u64 b] w fun e w' => e = .returned (.tuple #[.bool (condI op wide a b), .int .i64 (condE op)]) ∧ Below w.heap.size w w' := by
  have hb := masked_below wide w
  have hc := masked_cell wide w
  have fa := hid (fit_bd wide a)
  have fb := hid (fit_bd wide b)
  go_enter Tryz.func60, Tryz.ntmps60
  go_wp2_with fail
  refine (sizeOf_any wide _).mono ?_
  rintro e w' ⟨rfl, rfl⟩
  go_wp2_with fail
  refine (fitter_any wide _).mono ?_
  rintro e w' ⟨rfl, rfl⟩
  go_wp2_with fail
  refine (fit_any wide a _ _ h0 h1 hc).mono ?_
  rintro e w' ⟨rfl, rfl⟩
  go_wp2_with fail
  refine (fit_any wide b _ _ g0 g1 hc).mono ?_
  rintro e w' ⟨rfl, rfl⟩
  go_wp2_with fail
  refine (signed_any wide _ _ fa.out.1 fa.out.2).mono ?_
  rintro e w' ⟨rfl, rfl⟩
  go_wp2_with fail
  refine (signed_any wide _ _ fb.out.1 fb.out.2).mono ?_
  rintro e w' ⟨rfl, rfl⟩
  go_wp2
  all_goals go_ret2
  all_goals refine ⟨?_, hb⟩
  all_goals first
    | exact ret_bi (cnd_at1 (by assumption) wide _ _) (condE_is (k := 1) (by assumption) rfl)
    | exact ret_bi (cnd_at5 (by assumption) wide _ _) (condE_is (k := 5) (by assumption) rfl)
    | exact ret_bi (cnd_at2 (by assumption) wide _ _) (condE_is (k := 2) (by assumption) rfl)
    | exact ret_bi (cnd_at3 (by assumption) wide _ _) (condE_is (k := 3) (by assumption) rfl)
    | exact ret_bi (cnd_at10 (by assumption) wide _ _) (condE_is (k := 10) (by assumption) rfl)
    | exact ret_bi (cnd_at11 (by assumption) wide _ _) (condE_is (k := 11) (by assumption) rfl)
    | exact ret_bi (cnd_at4 (by assumption) wide _ _) (condE_is (k := 4) (by assumption) rfl)
    | exact ret_bi (cnd_at6 (by assumption) wide _ _) (condE_is (k := 6) (by assumption) rfl)
    | exact ret_bi (cnd_at7 (by assumption) wide _ _) (condE_is (k := 7) (by assumption) rfl)
    | exact ret_bi (cnd_at12 (by assumption) wide _ _) (condE_is (k := 12) (by assumption) rfl)
    | exact ret_bi (cnd_at13 (by assumption) wide _ _) (condE_is (k := 13) (by assumption) rfl)
    | exact ret_bi (cnd_none (by simp only [isCond, *]; rfl) wide _ _).symm (condE_none (by simp only [isCond, *]; rfl)).symm
end Go.Proofs.YtodmikjpmcabiaaGreat.Wd

namespace Go.Proofs.YtodmikjpmcabiaaGreat.Wd
set_option maxRecDepth 100000
open Go.ChangeShapes Go.WideShapes Go.ChangeAt Go.RowKit

end Go.Proofs.YtodmikjpmcabiaaGreat.Wd

namespace Go.Proofs.YtodmikjpmcabiaaGreat.Wd
set_option maxRecDepth 100000
open Go.ChangeShapes Go.WideShapes Go.ChangeAt Go.RowKit

theorem rfit_any (wide : Bool) (a : Int) (w : World) (h0 : 0 ≤ a) (h1 : a < 18446744073709551616) :
    Calls Tryz.prog 97 #[.bool wide, .int .u64 a] w fun e w' => e = .returned (.int .u64 (a % MD wide)) ∧ w = w' := by
  cases wide
  · go_enter Tryz.func97, Tryz.ntmps97
    go_wp2
    go_ret
    exact ⟨rfl, rfl⟩
  · have H := hid (show a = a % MD true from (Int.emod_eq_of_lt h0 h1).symm)
    go_enter Tryz.func97, Tryz.ntmps97
    go_wp2
    go_ret
    exact ⟨ret_int H.out, rfl⟩
theorem rsize_any (wide : Bool) (w : World) : Calls Tryz.prog 127 #[.bool wide] w fun e w' => e = .returned (.int .u64 (SZ wide)) ∧ w = w' := by
  cases wide
  all_goals
    go_enter Tryz.func127, Tryz.ntmps127
    go_wp2
    go_ret
    exact ⟨rfl, rfl⟩
theorem rturned_any (wide : Bool) (a : Int) (w : World) (h0 : 0 ≤ a) (h1 : a < 18446744073709551616) :
    Calls Tryz.prog 98 #[.bool wide, .int .u64 a] w fun e w' => e = .returned (.int .u64 (sgnI wide (a % MD wide) + TP wide)) ∧ w = w' := by
  have H := hid (xor_top wide (a % MD wide) (fit_bd wide a).1 (fit_bd wide a).2)
  cases wide
  all_goals
    go_enter Tryz.func98, Tryz.ntmps98
    go_wp2_with fail
    refine (rfit_any _ a _ h0 h1).mono ?_
    rintro e w' ⟨rfl, rfl⟩
    go_wp2_with fail
    refine (rsize_any _ _).mono ?_
    rintro e w' ⟨rfl, rfl⟩
    simp only [SZ_true, SZ_false]
    go_wp2
    go_ret
    exact ⟨ret_int H.out, rfl⟩

end Go.Proofs.YtodmikjpmcabiaaGreat.Wd

namespace Go.Proofs.YtodmikjpmcabiaaGreat.Wd
set_option maxRecDepth 100000
open Go.ChangeShapes Go.WideShapes Go.ChangeAt Go.RowKit

theorem dec_add_lt (p q c : Int) : decide (p + c < q + c) = decide (p < q) := by simp
theorem dec_add_le (p q c : Int) : decide (p + c ≤ q + c) = decide (p ≤ q) := by simp
theorem and_pos (x y : Int) : decide (0 < bits .and .u64 x y) = (bits .and .u64 x y != 0) := by
  have h := (bits_bd .and x y).1
  generalize bits .and .u64 x y = z at *
  rw [Bool.eq_iff_iff]
  simp
  omega
set_option maxHeartbeats 1000000 in
theorem rcond_any (op : Int) (wide : Bool) (a b : Int) (w : World) (h0 : 0 ≤ a) (h1 : a < 18446744073709551616) (g0 : 0 ≤ b) (g1 : b < 18446744073709551616) :
    Calls Tryz.prog 63 #[.int .i64 op, .bool wide, .int .u64 a, .int .u64 b] w fun e w' => e = .returned (.tuple #[.bool (condI op wide a b), .int .i64 (condE op)]) ∧ w = w' := by
  have hx := fit_bd64 wide a
  have hy := fit_bd64 wide b
  have sx := hid (sgn_bd wide _ (fit_bd wide a).1 (fit_bd wide a).2)
  have sy := hid (sgn_bd wide _ (fit_bd wide b).1 (fit_bd wide b).2)
  have hz := hid (show condI op wide a b = cndB op wide (a % MD wide) (b % MD wide) from rfl)
  generalize hX : a % MD wide = x at *
  generalize hY : b % MD wide = y at *
  have HX := hid hX
  have HY := hid hY
  clear hX hY
  obtain ⟨x0, x1⟩ := hx
  obtain ⟨y0, y1⟩ := hy
  go_enter Tryz.func63, Tryz.ntmps63
  go_wp2_with fail
  refine (rfit_any _ a _ h0 h1).mono ?_
  rintro e w' ⟨rfl, rfl⟩
  rw [HX.out]
  go_wp2_with fail
  refine (rfit_any _ b _ g0 g1).mono ?_
  rintro e w' ⟨rfl, rfl⟩
  rw [HY.out]
  go_wp2_with fail
  refine (rturned_any _ a _ h0 h1).mono ?_
  rintro e w' ⟨rfl, rfl⟩
  rw [HX.out]
  go_wp2_with fail
  refine (rturned_any _ b _ g0 g1).mono ?_
  rintro e w' ⟨rfl, rfl⟩
  rw [HY.out]
  go_wp2
  all_goals go_ret2
  all_goals refine ⟨?_, rfl⟩
  all_goals rw [hz.out]
  all_goals first
    | exact ret_bi (cnd_at1 (by assumption) wide _ _) (condE_is (k := 1) (by assumption) rfl)
    | exact ret_bi (cnd_at5 (by assumption) wide _ _) (condE_is (k := 5) (by assumption) rfl)
    | exact ret_bi (cnd_at2 (by assumption) wide _ _) (condE_is (k := 2) (by assumption) rfl)
    | exact ret_bi (cnd_at3 (by assumption) wide _ _) (condE_is (k := 3) (by assumption) rfl)
    | exact ret_bi (cnd_at10 (by assumption) wide _ _) (condE_is (k := 10) (by assumption) rfl)
    | exact ret_bi (cnd_at11 (by assumption) wide _ _) (condE_is (k := 11) (by assumption) rfl)
    | exact ret_bi (cnd_at4 (by assumption) wide _ _) (condE_is (k := 4) (by assumption) rfl)
    | exact ret_bi (cnd_at6 (by assumption) wide _ _) (condE_is (k := 6) (by assumption) rfl)
    | exact ret_bi (cnd_at7 (by assumption) wide _ _) (condE_is (k := 7) (by assumption) rfl)
    | exact ret_bi (cnd_at12 (by assumption) wide _ _) (condE_is (k := 12) (by assumption) rfl)
    | exact ret_bi (cnd_at13 (by assumption) wide _ _) (condE_is (k := 13) (by assumption) rfl)
    | exact ret_bi ((dec_add_lt _ _ _).trans (cnd_at6 (by assumption) wide _ _)) (condE_is (k := 6) (by assumption) rfl)
    | exact ret_bi ((dec_add_le _ _ _).trans (cnd_at7 (by assumption) wide _ _)) (condE_is (k := 7) (by assumption) rfl)
    | exact ret_bi ((dec_add_lt _ _ _).trans (cnd_at12 (by assumption) wide _ _)) (condE_is (k := 12) (by assumption) rfl)
    | exact ret_bi ((dec_add_le _ _ _).trans (cnd_at13 (by assumption) wide _ _)) (condE_is (k := 13) (by assumption) rfl)
    | exact ret_bi ((and_pos x y).trans (cnd_at4 (by assumption) wide _ _)) (condE_is (k := 4) (by assumption) rfl)
    | exact ret_bi (cnd_none (by simp only [isCond, *]; rfl) wide _ _).symm (condE_none (by simp only [isCond, *]; rfl)).symm
end Go.Proofs.YtodmikjpmcabiaaGreat.Wd

namespace Go.Proofs.YtodmikjpmcabiaaGreat.Wd
set_option maxRecDepth 100000
open Go.ChangeShapes Go.WideShapes Go.ChangeAt Go.RowKit

end Go.Proofs.YtodmikjpmcabiaaGreat.Wd
