/-
  Law WordOrders: of below, equal, above just one holds, plainly and with signs; the others are their opposites; the signed order is that of the numbers with the highest bit turned. No condition.
-/
import Derived.Test.YtgemnkaiajdcfaaAwake
import Derived.Test.YtgemnkaiajdcfaaNumB
import Derived.Deep.DeepCutAuto
namespace Go.Proofs.Ytgemnkaiajdcfaa
open Go.ChangeShapes Go.WideShapes Go.ChangeAt Go.RowKit

/-- What the table holds behind k rounds. -/
def isAt (wide : Bool) (a b : Int) (k i : Nat) : Bool := ([1, 2, 3, 4, 5, 6, 7, 10, 11, 12, 13].take k).contains i && condI i wide a b
/-- The table in memory. -/
def Table (wide : Bool) (a b : Int) (k : Nat) (B : Nat) (w : World) : Prop := ∀ i : Nat, i < 14 → w.cell? ⟨B, i, none⟩ = some (.bool (isAt wide a b k i)) ∧ w.frozen? ⟨B, i, none⟩ = false
theorem Table.later {wide : Bool} {a b : Int} {k B : Nat} {w w1 : World} (h : Table wide a b k B w) (hb : Below w.heap.size w w1) (hB : B < w.heap.size) : Table wide a b k B w1 := fun i hi =>
  ⟨(hb.cell (p := ⟨B, i, none⟩) hB).trans (h i hi).1, (hb.frozen (p := ⟨B, i, none⟩) hB).trans (h i hi).2⟩
theorem Table.put {wide : Bool} {a b : Int} {k B : Nat} {w : World} (h : Table wide a b k B w) (o : Nat) (ho : o < 14) (hk : ∀ i, i < 14 → isAt wide a b (k + 1) i = if i = o then condI o wide a b else isAt wide a b k i) :
    Table wide a b (k + 1) B (w.setCell ⟨B, o, none⟩ (.bool (condI o wide a b))) := by
  intro i hi
  rw [hk i hi, World.frozen?_setCell]
  refine ⟨?_, (h i hi).2⟩
  by_cases e : i = o
  · subst e
    rw [if_pos rfl]
    exact World.cell?_setCell_same' _ _ _ (by rw [(h i hi).1]; rfl)
  · rw [if_neg e, ← (h i hi).1]
    exact World.cell?_setCell_other _ _ _ _ (fun h => e (by cases h; rfl))
theorem table_start (wide : Bool) (a b : Int) (w : World) (t : TypeId) : Table wide a b 0 w.heap.size (w.alloc (.cells #[.bool false, .bool false, .bool false, .bool false, .bool false, .bool false, .bool false, .bool false, .bool false, .bool false, .bool false, .bool false, .bool false, .bool false] t)) := by
  intro i hi
  have hc : i = 0 ∨ i = 1 ∨ i = 2 ∨ i = 3 ∨ i = 4 ∨ i = 5 ∨ i = 6 ∨ i = 7 ∨ i = 8 ∨ i = 9 ∨ i = 10 ∨ i = 11 ∨ i = 12 ∨ i = 13 := by omega
  rcases hc with rfl | rfl | rfl | rfl | rfl | rfl | rfl | rfl | rfl | rfl | rfl | rfl | rfl | rfl <;> simp [isAt]

theorem vals_cell {w : World} {B i : Nat} {x y : Bool} (h : w.cell? ⟨B, i, none⟩ = some (.bool x)) (e : x = y) : w.cell? ⟨B, i, none⟩ = some (.bool y) := e ▸ h
/-- What the table holds at last, by the plain and the signed order. -/
structure Vals (wide : Bool) (a b : Int) (lt eq gt slt sgt : Bool) : Prop where
  at1 : isAt wide a b 11 1 = eq
  at2 : isAt wide a b 11 2 = gt
  at3 : isAt wide a b 11 3 = !lt
  at5 : isAt wide a b 11 5 = !eq
  at6 : isAt wide a b 11 6 = sgt
  at7 : isAt wide a b 11 7 = !slt
  at10 : isAt wide a b 11 10 = lt
  at11 : isAt wide a b 11 11 = !gt
  at12 : isAt wide a b 11 12 = slt
  at13 : isAt wide a b 11 13 = !sgt
theorem vals_of (wide : Bool) (a b : Int) (lt eq gt slt sgt : Bool) (h1 : (a % MD wide == b % MD wide) = eq) (h2 : decide (b % MD wide < a % MD wide) = gt) (h3 : decide (a % MD wide < b % MD wide) = lt)
    (h4 : decide (sgnI wide (b % MD wide) < sgnI wide (a % MD wide)) = sgt) (h5 : decide (sgnI wide (a % MD wide) < sgnI wide (b % MD wide)) = slt) : Vals wide a b lt eq gt slt sgt := by
  have n1 : ∀ x y : Int, decide (y ≤ x) = !decide (x < y) := fun x y => by
    rw [Bool.eq_iff_iff]; simp
  constructor
  · rw [← h1]; rfl
  · rw [← h2]; rfl
  · rw [← h3, ← n1]; rfl
  · rw [← h1]; rfl
  · rw [← h4]; rfl
  · rw [← h5, ← n1]; rfl
  · rw [← h3]; rfl
  · rw [← h2, ← n1]; rfl
  · rw [← h5]; rfl
  · rw [← h4, ← n1]; rfl
theorem five (wide : Bool) (a b : Int) : Vals wide a b true false false true false ∨ Vals wide a b true false false false true ∨ Vals wide a b false true false false false ∨ Vals wide a b false false true true false ∨ Vals wide a b false false true false true := by
  have ha := fit_bd wide a
  have hb := fit_bd wide b
  have hs : sgnI wide (a % MD wide) = sgnI wide (b % MD wide) → a % MD wide = b % MD wide := by
    unfold sgnI
    split <;> split <;> omega
  rcases Int.lt_trichotomy (a % MD wide) (b % MD wide) with h | h | h
  · rcases Int.lt_trichotomy (sgnI wide (a % MD wide)) (sgnI wide (b % MD wide)) with g | g | g
    · exact Or.inl (vals_of _ _ _ _ _ _ _ _ (by simp; omega) (by simp; omega) (by simp; omega) (by simp; omega) (by simp; omega))
    · exact absurd (hs g) (by omega)
    · exact Or.inr (Or.inl (vals_of _ _ _ _ _ _ _ _ (by simp; omega) (by simp; omega) (by simp; omega) (by simp; omega) (by simp; omega)))
  · exact Or.inr (Or.inr (Or.inl (vals_of _ _ _ _ _ _ _ _ (by simp [h]) (by simp [h]) (by simp [h]) (by simp [h]) (by simp [h]))))
  · rcases Int.lt_trichotomy (sgnI wide (a % MD wide)) (sgnI wide (b % MD wide)) with g | g | g
    · exact Or.inr (Or.inr (Or.inr (Or.inl (vals_of _ _ _ _ _ _ _ _ (by simp; omega) (by simp; omega) (by simp; omega) (by simp; omega) (by simp; omega)))))
    · exact absurd (hs g) (by omega)
    · exact Or.inr (Or.inr (Or.inr (Or.inr (vals_of _ _ _ _ _ _ _ _ (by simp; omega) (by simp; omega) (by simp; omega) (by simp; omega) (by simp; omega)))))
theorem cell_on {w w1 : World} {B i : Nat} {v : Value} (hb : Below w.heap.size w w1) (hB : B < w.heap.size) (h : w.cell? ⟨B, i, none⟩ = some v) : w1.cell? ⟨B, i, none⟩ = some v := (hb.cell (p := ⟨B, i, none⟩) hB).trans h
theorem holds_is (op : Int) (wide : Bool) (a b : Int) (r : Bool) (hr : condI op wide a b = r) (w : World) (h0 : 0 ≤ a) (h1 : a < 18446744073709551616) (g0 : 0 ≤ b) (g1 : b < 18446744073709551616) (hc : isCond op = true) :
    Calls Try.prog 26 #[.int .i64 op, .bool wide, .int .u64 a, .int .u64 b] w fun e w' => e = .returned (.tuple #[.bool r, .bool true]) ∧ Below w.heap.size w w' := hr ▸ holds_any op wide a b w h0 h1 g0 g1 hc
theorem xor_fit (wide : Bool) (a : Int) (h0 : 0 ≤ a) (h1 : a < 18446744073709551616) : bits .xor .u64 a (TP wide) % MD wide = bits .xor .u64 (a % MD wide) (TP wide) := by
  have hf := fit_bd64 wide a
  have ht := TP_two wide
  have hm := MD_le wide
  have hp := MD_pos wide
  rw [u64_xor a (TP wide) h0 h1 (by omega) (by omega), u64_xor _ (TP wide) hf.1 hf.2 (by omega) (by omega)]
  cases wide
  · rw [show MD false = ((2 ^ 32 : Nat) : Int) from rfl, ← Int.natCast_emod, Nat.xor_mod_two_pow]
    rw [show TP false = 2147483648 from rfl]
    congr 2 <;> omega
  · rw [show MD true = ((2 ^ 64 : Nat) : Int) from rfl, ← Int.natCast_emod, Nat.xor_mod_two_pow]
    rw [show TP true = 9223372036854775808 from rfl]
    congr 2 <;> omega
theorem and_fit (wide : Bool) (x b : Int) (h0 : 0 ≤ x) (h1 : x < MD wide) (g0 : 0 ≤ b) (g1 : b < 18446744073709551616) : bits .and .u64 x b = bits .and .u64 x (b % MD wide) := by
  have hf := fit_bd64 wide b
  have hm := MD_le wide
  rw [u64_and x b h0 (by omega) g0 g1, u64_and x _ h0 (by omega) hf.1 hf.2]
  cases wide
  · rw [MD_false] at *
    have h2 : x.toNat &&& b.toNat < 2 ^ 32 := Nat.lt_of_le_of_lt Nat.and_le_left (by omega)
    have h3 := Nat.and_mod_two_pow (n := 32) (a := x.toNat) (b := b.toNat)
    rw [Nat.mod_eq_of_lt h2] at h3
    rw [h3]
    congr 2 <;> omega
  · rw [MD_true] at *
    rw [Int.emod_eq_of_lt g0 g1]
theorem set_is (wide : Bool) (a b : Int) (_h0 : 0 ≤ a) (_h1 : a < 18446744073709551616) (g0 : 0 ≤ b) (g1 : b < 18446744073709551616) : isAt wide a b 11 4 = (bits .and .u64 (a % MD wide) b != 0) := by
  rw [and_fit wide _ b (fit_bd wide a).1 (fit_bd wide a).2 g0 g1]
  rfl
theorem less_is (wide : Bool) (a b : Int) (h0 : 0 ≤ a) (h1 : a < 18446744073709551616) (g0 : 0 ≤ b) (g1 : b < 18446744073709551616) (slt : Bool) (h : isAt wide a b 11 12 = slt) :
    condI 10 wide (bits .xor .u64 a (TP wide)) (bits .xor .u64 b (TP wide)) = slt := by
  rw [← h]
  show decide (bits .xor .u64 a (TP wide) % MD wide < bits .xor .u64 b (TP wide) % MD wide) = decide (sgnI wide (a % MD wide) < sgnI wide (b % MD wide))
  rw [xor_fit wide a h0 h1, xor_fit wide b g0 g1, xor_top wide _ (fit_bd wide a).1 (fit_bd wide a).2, xor_top wide _ (fit_bd wide b).1 (fit_bd wide b).2]
  rw [Bool.eq_iff_iff]
  simp
theorem holds_at (o : Nat) (op : Int) (ho : ((o : Nat) : Int) = op) (wide : Bool) (a b : Int) (w : World) (h0 : 0 ≤ a) (h1 : a < 18446744073709551616) (g0 : 0 ≤ b) (g1 : b < 18446744073709551616) (hc : isCond op = true) :
    Calls Try.prog 26 #[.int .i64 op, .bool wide, .int .u64 a, .int .u64 b] w fun e w' => e = .returned (.tuple #[.bool (condI (o : Int) wide a b), .bool true]) ∧ Below w.heap.size w w' := by
  subst ho
  exact holds_any _ wide a b w h0 h1 g0 g1 hc
set_option maxRecDepth 100000 in
set_option maxHeartbeats 4000000 in
theorem wordOrders_walk (wide : Bool) (a b : Int) (h0 : 0 ≤ a) (h1 : a < 18446744073709551616) (g0 : 0 ≤ b) (g1 : b < 18446744073709551616) (w : World) :
    Calls Try.prog 10 #[.bool wide, .int .u64 a, .int .u64 b] w fun e w' => e = .returned (.bool true) ∧ Below w.heap.size w w' := by
  go_enter Try.func10, Try.ntmps10
  go_wp2_with fail
  refine (awake_any _).mono ?_
  rintro e w0 ⟨rfl, b0⟩
  go_wp2_with fail
  have hT := table_start wide a b w0 48
  have hB : Below w.heap.size w (w0.alloc (.cells #[.bool false, .bool false, .bool false, .bool false, .bool false, .bool false, .bool false, .bool false, .bool false, .bool false, .bool false, .bool false, .bool false, .bool false] 48)) := b0.alloc b0.size _
  have hS : w0.heap.size < (w0.alloc (.cells #[.bool false, .bool false, .bool false, .bool false, .bool false, .bool false, .bool false, .bool false, .bool false, .bool false, .bool false, .bool false, .bool false, .bool false] 48)).heap.size := by simp
  have hS0 := b0.size
  clear b0
  go_loopw [24] (fun vk wr => ∃ k : Nat, k ≤ 11 ∧ vk = .int .i64 k ∧ Table wide a b k w0.heap.size wr ∧ Below w.heap.size w wr ∧ w0.heap.size < wr.heap.size) (fun vk _ => 11 - (intOf vk).toNat)
  case atStart => exact ⟨0, by omega, rfl, hT, hB, hS⟩
  case round =>
    clear hT hB hS
    obtain ⟨k, hk, rfl, hT, hB, hS⟩ := hrel
    have hc : k = 0 ∨ k = 1 ∨ k = 2 ∨ k = 3 ∨ k = 4 ∨ k = 5 ∨ k = 6 ∨ k = 7 ∨ k = 8 ∨ k = 9 ∨ k = 10 ∨ k = 11 := by omega
    clear hk
    have HT := hid hT
    have HB := hid hB
    clear hT hB
    rcases hc with rfl | rfl | rfl | rfl | rfl | rfl | rfl | rfl | rfl | rfl | rfl | rfl
    · have ix : ∀ w, (Instr.index 49 (.agg #[.int .i64 1, .int .i64 2, .int .i64 3, .int .i64 4, .int .i64 5, .int .i64 6, .int .i64 7, .int .i64 10, .int .i64 11, .int .i64 12, .int .i64 13]) (.int .i64 0)).run Try.prog w = .ok (.int .i64 1) w := fun _ => by kernel_rfl
      go_wp2_with fail
      refine (holds_at 1 1 rfl wide a b _ h0 h1 g0 g1 rfl).mono ?_
      rintro e w1 ⟨rfl, b1⟩
      have T1 := HT.out.later b1 hS
      have c1 := T1 1 (by decide)
      obtain ⟨c1a, c1b⟩ := c1
      have T2 := hid (T1.put 1 (by decide) (fun i hi => by
        have hi' : i = 0 ∨ i = 1 ∨ i = 2 ∨ i = 3 ∨ i = 4 ∨ i = 5 ∨ i = 6 ∨ i = 7 ∨ i = 8 ∨ i = 9 ∨ i = 10 ∨ i = 11 ∨ i = 12 ∨ i = 13 := by omega
        rcases hi' with rfl | rfl | rfl | rfl | rfl | rfl | rfl | rfl | rfl | rfl | rfl | rfl | rfl | rfl <;> simp [isAt]))
      have B2 := hid ((HB.out.trans (b1.mono HB.out.size)).setCell (p := ⟨w0.heap.size, 1, none⟩) hS0 (.bool (condI ((1 : Nat) : Int) wide a b)))
      have S2 := hid (Nat.lt_of_lt_of_le hS b1.size)
      clear T1 b1 HT HB hS ix
      go_wp2
      exact ⟨⟨1, by decide, rfl, T2.out, B2.out, by simpa [World.setCell] using S2.out⟩, by decide⟩
    · have ix : ∀ w, (Instr.index 49 (.agg #[.int .i64 1, .int .i64 2, .int .i64 3, .int .i64 4, .int .i64 5, .int .i64 6, .int .i64 7, .int .i64 10, .int .i64 11, .int .i64 12, .int .i64 13]) (.int .i64 1)).run Try.prog w = .ok (.int .i64 2) w := fun _ => by kernel_rfl
      go_wp2_with fail
      refine (holds_at 2 2 rfl wide a b _ h0 h1 g0 g1 rfl).mono ?_
      rintro e w1 ⟨rfl, b1⟩
      have T1 := HT.out.later b1 hS
      have c1 := T1 2 (by decide)
      obtain ⟨c1a, c1b⟩ := c1
      have T2 := hid (T1.put 2 (by decide) (fun i hi => by
        have hi' : i = 0 ∨ i = 1 ∨ i = 2 ∨ i = 3 ∨ i = 4 ∨ i = 5 ∨ i = 6 ∨ i = 7 ∨ i = 8 ∨ i = 9 ∨ i = 10 ∨ i = 11 ∨ i = 12 ∨ i = 13 := by omega
        rcases hi' with rfl | rfl | rfl | rfl | rfl | rfl | rfl | rfl | rfl | rfl | rfl | rfl | rfl | rfl <;> simp [isAt]))
      have B2 := hid ((HB.out.trans (b1.mono HB.out.size)).setCell (p := ⟨w0.heap.size, 2, none⟩) hS0 (.bool (condI ((2 : Nat) : Int) wide a b)))
      have S2 := hid (Nat.lt_of_lt_of_le hS b1.size)
      clear T1 b1 HT HB hS ix
      go_wp2
      exact ⟨⟨2, by decide, rfl, T2.out, B2.out, by simpa [World.setCell] using S2.out⟩, by decide⟩
    · have ix : ∀ w, (Instr.index 49 (.agg #[.int .i64 1, .int .i64 2, .int .i64 3, .int .i64 4, .int .i64 5, .int .i64 6, .int .i64 7, .int .i64 10, .int .i64 11, .int .i64 12, .int .i64 13]) (.int .i64 2)).run Try.prog w = .ok (.int .i64 3) w := fun _ => by kernel_rfl
      go_wp2_with fail
      refine (holds_at 3 3 rfl wide a b _ h0 h1 g0 g1 rfl).mono ?_
      rintro e w1 ⟨rfl, b1⟩
      have T1 := HT.out.later b1 hS
      have c1 := T1 3 (by decide)
      obtain ⟨c1a, c1b⟩ := c1
      have T2 := hid (T1.put 3 (by decide) (fun i hi => by
        have hi' : i = 0 ∨ i = 1 ∨ i = 2 ∨ i = 3 ∨ i = 4 ∨ i = 5 ∨ i = 6 ∨ i = 7 ∨ i = 8 ∨ i = 9 ∨ i = 10 ∨ i = 11 ∨ i = 12 ∨ i = 13 := by omega
        rcases hi' with rfl | rfl | rfl | rfl | rfl | rfl | rfl | rfl | rfl | rfl | rfl | rfl | rfl | rfl <;> simp [isAt]))
      have B2 := hid ((HB.out.trans (b1.mono HB.out.size)).setCell (p := ⟨w0.heap.size, 3, none⟩) hS0 (.bool (condI ((3 : Nat) : Int) wide a b)))
      have S2 := hid (Nat.lt_of_lt_of_le hS b1.size)
      clear T1 b1 HT HB hS ix
      go_wp2
      exact ⟨⟨3, by decide, rfl, T2.out, B2.out, by simpa [World.setCell] using S2.out⟩, by decide⟩
    · have ix : ∀ w, (Instr.index 49 (.agg #[.int .i64 1, .int .i64 2, .int .i64 3, .int .i64 4, .int .i64 5, .int .i64 6, .int .i64 7, .int .i64 10, .int .i64 11, .int .i64 12, .int .i64 13]) (.int .i64 3)).run Try.prog w = .ok (.int .i64 4) w := fun _ => by kernel_rfl
      go_wp2_with fail
      refine (holds_at 4 4 rfl wide a b _ h0 h1 g0 g1 rfl).mono ?_
      rintro e w1 ⟨rfl, b1⟩
      have T1 := HT.out.later b1 hS
      have c1 := T1 4 (by decide)
      obtain ⟨c1a, c1b⟩ := c1
      have T2 := hid (T1.put 4 (by decide) (fun i hi => by
        have hi' : i = 0 ∨ i = 1 ∨ i = 2 ∨ i = 3 ∨ i = 4 ∨ i = 5 ∨ i = 6 ∨ i = 7 ∨ i = 8 ∨ i = 9 ∨ i = 10 ∨ i = 11 ∨ i = 12 ∨ i = 13 := by omega
        rcases hi' with rfl | rfl | rfl | rfl | rfl | rfl | rfl | rfl | rfl | rfl | rfl | rfl | rfl | rfl <;> simp [isAt]))
      have B2 := hid ((HB.out.trans (b1.mono HB.out.size)).setCell (p := ⟨w0.heap.size, 4, none⟩) hS0 (.bool (condI ((4 : Nat) : Int) wide a b)))
      have S2 := hid (Nat.lt_of_lt_of_le hS b1.size)
      clear T1 b1 HT HB hS ix
      go_wp2
      exact ⟨⟨4, by decide, rfl, T2.out, B2.out, by simpa [World.setCell] using S2.out⟩, by decide⟩
    · have ix : ∀ w, (Instr.index 49 (.agg #[.int .i64 1, .int .i64 2, .int .i64 3, .int .i64 4, .int .i64 5, .int .i64 6, .int .i64 7, .int .i64 10, .int .i64 11, .int .i64 12, .int .i64 13]) (.int .i64 4)).run Try.prog w = .ok (.int .i64 5) w := fun _ => by kernel_rfl
      go_wp2_with fail
      refine (holds_at 5 5 rfl wide a b _ h0 h1 g0 g1 rfl).mono ?_
      rintro e w1 ⟨rfl, b1⟩
      have T1 := HT.out.later b1 hS
      have c1 := T1 5 (by decide)
      obtain ⟨c1a, c1b⟩ := c1
      have T2 := hid (T1.put 5 (by decide) (fun i hi => by
        have hi' : i = 0 ∨ i = 1 ∨ i = 2 ∨ i = 3 ∨ i = 4 ∨ i = 5 ∨ i = 6 ∨ i = 7 ∨ i = 8 ∨ i = 9 ∨ i = 10 ∨ i = 11 ∨ i = 12 ∨ i = 13 := by omega
        rcases hi' with rfl | rfl | rfl | rfl | rfl | rfl | rfl | rfl | rfl | rfl | rfl | rfl | rfl | rfl <;> simp [isAt]))
      have B2 := hid ((HB.out.trans (b1.mono HB.out.size)).setCell (p := ⟨w0.heap.size, 5, none⟩) hS0 (.bool (condI ((5 : Nat) : Int) wide a b)))
      have S2 := hid (Nat.lt_of_lt_of_le hS b1.size)
      clear T1 b1 HT HB hS ix
      go_wp2
      exact ⟨⟨5, by decide, rfl, T2.out, B2.out, by simpa [World.setCell] using S2.out⟩, by decide⟩
    · have ix : ∀ w, (Instr.index 49 (.agg #[.int .i64 1, .int .i64 2, .int .i64 3, .int .i64 4, .int .i64 5, .int .i64 6, .int .i64 7, .int .i64 10, .int .i64 11, .int .i64 12, .int .i64 13]) (.int .i64 5)).run Try.prog w = .ok (.int .i64 6) w := fun _ => by kernel_rfl
      go_wp2_with fail
      refine (holds_at 6 6 rfl wide a b _ h0 h1 g0 g1 rfl).mono ?_
      rintro e w1 ⟨rfl, b1⟩
      have T1 := HT.out.later b1 hS
      have c1 := T1 6 (by decide)
      obtain ⟨c1a, c1b⟩ := c1
      have T2 := hid (T1.put 6 (by decide) (fun i hi => by
        have hi' : i = 0 ∨ i = 1 ∨ i = 2 ∨ i = 3 ∨ i = 4 ∨ i = 5 ∨ i = 6 ∨ i = 7 ∨ i = 8 ∨ i = 9 ∨ i = 10 ∨ i = 11 ∨ i = 12 ∨ i = 13 := by omega
        rcases hi' with rfl | rfl | rfl | rfl | rfl | rfl | rfl | rfl | rfl | rfl | rfl | rfl | rfl | rfl <;> simp [isAt]))
      have B2 := hid ((HB.out.trans (b1.mono HB.out.size)).setCell (p := ⟨w0.heap.size, 6, none⟩) hS0 (.bool (condI ((6 : Nat) : Int) wide a b)))
      have S2 := hid (Nat.lt_of_lt_of_le hS b1.size)
      clear T1 b1 HT HB hS ix
      go_wp2
      exact ⟨⟨6, by decide, rfl, T2.out, B2.out, by simpa [World.setCell] using S2.out⟩, by decide⟩
    · have ix : ∀ w, (Instr.index 49 (.agg #[.int .i64 1, .int .i64 2, .int .i64 3, .int .i64 4, .int .i64 5, .int .i64 6, .int .i64 7, .int .i64 10, .int .i64 11, .int .i64 12, .int .i64 13]) (.int .i64 6)).run Try.prog w = .ok (.int .i64 7) w := fun _ => by kernel_rfl
      go_wp2_with fail
      refine (holds_at 7 7 rfl wide a b _ h0 h1 g0 g1 rfl).mono ?_
      rintro e w1 ⟨rfl, b1⟩
      have T1 := HT.out.later b1 hS
      have c1 := T1 7 (by decide)
      obtain ⟨c1a, c1b⟩ := c1
      have T2 := hid (T1.put 7 (by decide) (fun i hi => by
        have hi' : i = 0 ∨ i = 1 ∨ i = 2 ∨ i = 3 ∨ i = 4 ∨ i = 5 ∨ i = 6 ∨ i = 7 ∨ i = 8 ∨ i = 9 ∨ i = 10 ∨ i = 11 ∨ i = 12 ∨ i = 13 := by omega
        rcases hi' with rfl | rfl | rfl | rfl | rfl | rfl | rfl | rfl | rfl | rfl | rfl | rfl | rfl | rfl <;> simp [isAt]))
      have B2 := hid ((HB.out.trans (b1.mono HB.out.size)).setCell (p := ⟨w0.heap.size, 7, none⟩) hS0 (.bool (condI ((7 : Nat) : Int) wide a b)))
      have S2 := hid (Nat.lt_of_lt_of_le hS b1.size)
      clear T1 b1 HT HB hS ix
      go_wp2
      exact ⟨⟨7, by decide, rfl, T2.out, B2.out, by simpa [World.setCell] using S2.out⟩, by decide⟩
    · have ix : ∀ w, (Instr.index 49 (.agg #[.int .i64 1, .int .i64 2, .int .i64 3, .int .i64 4, .int .i64 5, .int .i64 6, .int .i64 7, .int .i64 10, .int .i64 11, .int .i64 12, .int .i64 13]) (.int .i64 7)).run Try.prog w = .ok (.int .i64 10) w := fun _ => by kernel_rfl
      go_wp2_with fail
      refine (holds_at 10 10 rfl wide a b _ h0 h1 g0 g1 rfl).mono ?_
      rintro e w1 ⟨rfl, b1⟩
      have T1 := HT.out.later b1 hS
      have c1 := T1 10 (by decide)
      obtain ⟨c1a, c1b⟩ := c1
      have T2 := hid (T1.put 10 (by decide) (fun i hi => by
        have hi' : i = 0 ∨ i = 1 ∨ i = 2 ∨ i = 3 ∨ i = 4 ∨ i = 5 ∨ i = 6 ∨ i = 7 ∨ i = 8 ∨ i = 9 ∨ i = 10 ∨ i = 11 ∨ i = 12 ∨ i = 13 := by omega
        rcases hi' with rfl | rfl | rfl | rfl | rfl | rfl | rfl | rfl | rfl | rfl | rfl | rfl | rfl | rfl <;> simp [isAt]))
      have B2 := hid ((HB.out.trans (b1.mono HB.out.size)).setCell (p := ⟨w0.heap.size, 10, none⟩) hS0 (.bool (condI ((10 : Nat) : Int) wide a b)))
      have S2 := hid (Nat.lt_of_lt_of_le hS b1.size)
      clear T1 b1 HT HB hS ix
      go_wp2
      exact ⟨⟨8, by decide, rfl, T2.out, B2.out, by simpa [World.setCell] using S2.out⟩, by decide⟩
    · have ix : ∀ w, (Instr.index 49 (.agg #[.int .i64 1, .int .i64 2, .int .i64 3, .int .i64 4, .int .i64 5, .int .i64 6, .int .i64 7, .int .i64 10, .int .i64 11, .int .i64 12, .int .i64 13]) (.int .i64 8)).run Try.prog w = .ok (.int .i64 11) w := fun _ => by kernel_rfl
      go_wp2_with fail
      refine (holds_at 11 11 rfl wide a b _ h0 h1 g0 g1 rfl).mono ?_
      rintro e w1 ⟨rfl, b1⟩
      have T1 := HT.out.later b1 hS
      have c1 := T1 11 (by decide)
      obtain ⟨c1a, c1b⟩ := c1
      have T2 := hid (T1.put 11 (by decide) (fun i hi => by
        have hi' : i = 0 ∨ i = 1 ∨ i = 2 ∨ i = 3 ∨ i = 4 ∨ i = 5 ∨ i = 6 ∨ i = 7 ∨ i = 8 ∨ i = 9 ∨ i = 10 ∨ i = 11 ∨ i = 12 ∨ i = 13 := by omega
        rcases hi' with rfl | rfl | rfl | rfl | rfl | rfl | rfl | rfl | rfl | rfl | rfl | rfl | rfl | rfl <;> simp [isAt]))
      have B2 := hid ((HB.out.trans (b1.mono HB.out.size)).setCell (p := ⟨w0.heap.size, 11, none⟩) hS0 (.bool (condI ((11 : Nat) : Int) wide a b)))
      have S2 := hid (Nat.lt_of_lt_of_le hS b1.size)
      clear T1 b1 HT HB hS ix
      go_wp2
      exact ⟨⟨9, by decide, rfl, T2.out, B2.out, by simpa [World.setCell] using S2.out⟩, by decide⟩
    · have ix : ∀ w, (Instr.index 49 (.agg #[.int .i64 1, .int .i64 2, .int .i64 3, .int .i64 4, .int .i64 5, .int .i64 6, .int .i64 7, .int .i64 10, .int .i64 11, .int .i64 12, .int .i64 13]) (.int .i64 9)).run Try.prog w = .ok (.int .i64 12) w := fun _ => by kernel_rfl
      go_wp2_with fail
      refine (holds_at 12 12 rfl wide a b _ h0 h1 g0 g1 rfl).mono ?_
      rintro e w1 ⟨rfl, b1⟩
      have T1 := HT.out.later b1 hS
      have c1 := T1 12 (by decide)
      obtain ⟨c1a, c1b⟩ := c1
      have T2 := hid (T1.put 12 (by decide) (fun i hi => by
        have hi' : i = 0 ∨ i = 1 ∨ i = 2 ∨ i = 3 ∨ i = 4 ∨ i = 5 ∨ i = 6 ∨ i = 7 ∨ i = 8 ∨ i = 9 ∨ i = 10 ∨ i = 11 ∨ i = 12 ∨ i = 13 := by omega
        rcases hi' with rfl | rfl | rfl | rfl | rfl | rfl | rfl | rfl | rfl | rfl | rfl | rfl | rfl | rfl <;> simp [isAt]))
      have B2 := hid ((HB.out.trans (b1.mono HB.out.size)).setCell (p := ⟨w0.heap.size, 12, none⟩) hS0 (.bool (condI ((12 : Nat) : Int) wide a b)))
      have S2 := hid (Nat.lt_of_lt_of_le hS b1.size)
      clear T1 b1 HT HB hS ix
      go_wp2
      exact ⟨⟨10, by decide, rfl, T2.out, B2.out, by simpa [World.setCell] using S2.out⟩, by decide⟩
    · have ix : ∀ w, (Instr.index 49 (.agg #[.int .i64 1, .int .i64 2, .int .i64 3, .int .i64 4, .int .i64 5, .int .i64 6, .int .i64 7, .int .i64 10, .int .i64 11, .int .i64 12, .int .i64 13]) (.int .i64 10)).run Try.prog w = .ok (.int .i64 13) w := fun _ => by kernel_rfl
      go_wp2_with fail
      refine (holds_at 13 13 rfl wide a b _ h0 h1 g0 g1 rfl).mono ?_
      rintro e w1 ⟨rfl, b1⟩
      have T1 := HT.out.later b1 hS
      have c1 := T1 13 (by decide)
      obtain ⟨c1a, c1b⟩ := c1
      have T2 := hid (T1.put 13 (by decide) (fun i hi => by
        have hi' : i = 0 ∨ i = 1 ∨ i = 2 ∨ i = 3 ∨ i = 4 ∨ i = 5 ∨ i = 6 ∨ i = 7 ∨ i = 8 ∨ i = 9 ∨ i = 10 ∨ i = 11 ∨ i = 12 ∨ i = 13 := by omega
        rcases hi' with rfl | rfl | rfl | rfl | rfl | rfl | rfl | rfl | rfl | rfl | rfl | rfl | rfl | rfl <;> simp [isAt]))
      have B2 := hid ((HB.out.trans (b1.mono HB.out.size)).setCell (p := ⟨w0.heap.size, 13, none⟩) hS0 (.bool (condI ((13 : Nat) : Int) wide a b)))
      have S2 := hid (Nat.lt_of_lt_of_le hS b1.size)
      clear T1 b1 HT HB hS ix
      go_wp2
      exact ⟨⟨11, by decide, rfl, T2.out, B2.out, by simpa [World.setCell] using S2.out⟩, by decide⟩
    · have hb := HB.out
      clear HB
      rcases five wide a b with hv | hv | hv | hv | hv
      · have c4 := (HT.out 4 (by decide)).1
        have c1 := vals_cell (HT.out 1 (by decide)).1 (show isAt wide a b 11 1 = false from hv.at1)
        have c2 := vals_cell (HT.out 2 (by decide)).1 (show isAt wide a b 11 2 = false from hv.at2)
        have c3 := vals_cell (HT.out 3 (by decide)).1 (show isAt wide a b 11 3 = false from hv.at3)
        have c5 := vals_cell (HT.out 5 (by decide)).1 (show isAt wide a b 11 5 = true from hv.at5)
        have c6 := vals_cell (HT.out 6 (by decide)).1 (show isAt wide a b 11 6 = false from hv.at6)
        have c7 := vals_cell (HT.out 7 (by decide)).1 (show isAt wide a b 11 7 = false from hv.at7)
        have c10 := vals_cell (HT.out 10 (by decide)).1 (show isAt wide a b 11 10 = true from hv.at10)
        have c11 := vals_cell (HT.out 11 (by decide)).1 (show isAt wide a b 11 11 = true from hv.at11)
        have c12 := vals_cell (HT.out 12 (by decide)).1 (show isAt wide a b 11 12 = true from hv.at12)
        have c13 := vals_cell (HT.out 13 (by decide)).1 (show isAt wide a b 11 13 = true from hv.at13)
        clear HT hS0
        go_wp2_with fail
        go_loop [12, 48] (fun vo vk => ∃ k : Nat, k ≤ 3 ∧ vk = .int .i64 k ∧ vo = .int .i64 (if k = 0 then 0 else if k = 1 then 1 else if k = 2 then 1 else 1)) (fun _ vk => 3 - (intOf vk).toNat)
        case atStart => exact ⟨0, by omega, rfl, rfl⟩
        case round =>
          obtain ⟨k, hk, rfl, rfl⟩ := hrel
          have hc : k = 0 ∨ k = 1 ∨ k = 2 ∨ k = 3 := by omega
          clear hk
          rcases hc with rfl | rfl | rfl | rfl
          · have ix : ∀ w, (Instr.index 52 (.agg #[.bool true, .bool false, .bool false]) (.int .i64 0)).run Try.prog w = .ok (.bool true) w := fun _ => by kernel_rfl
            go_wp2
            exact ⟨⟨1, by decide, rfl, rfl⟩, by decide⟩
          · have ix : ∀ w, (Instr.index 52 (.agg #[.bool true, .bool false, .bool false]) (.int .i64 1)).run Try.prog w = .ok (.bool false) w := fun _ => by kernel_rfl
            go_wp2
            exact ⟨⟨2, by decide, rfl, rfl⟩, by decide⟩
          · have ix : ∀ w, (Instr.index 52 (.agg #[.bool true, .bool false, .bool false]) (.int .i64 2)).run Try.prog w = .ok (.bool false) w := fun _ => by kernel_rfl
            go_wp2
            exact ⟨⟨3, by decide, rfl, rfl⟩, by decide⟩
          · skip
            go_wp2_with fail
            go_loop [13, 62] (fun vo vk => ∃ k : Nat, k ≤ 3 ∧ vk = .int .i64 k ∧ vo = .int .i64 (if k = 0 then 0 else if k = 1 then 1 else if k = 2 then 1 else 1)) (fun _ vk => 3 - (intOf vk).toNat)
            case atStart => exact ⟨0, by omega, rfl, rfl⟩
            case round =>
              obtain ⟨k, hk, rfl, rfl⟩ := hrel
              have hc : k = 0 ∨ k = 1 ∨ k = 2 ∨ k = 3 := by omega
              clear hk
              rcases hc with rfl | rfl | rfl | rfl
              · have ix : ∀ w, (Instr.index 52 (.agg #[.bool true, .bool false, .bool false]) (.int .i64 0)).run Try.prog w = .ok (.bool true) w := fun _ => by kernel_rfl
                go_wp2
                exact ⟨⟨1, by decide, rfl, rfl⟩, by decide⟩
              · have ix : ∀ w, (Instr.index 52 (.agg #[.bool true, .bool false, .bool false]) (.int .i64 1)).run Try.prog w = .ok (.bool false) w := fun _ => by kernel_rfl
                go_wp2
                exact ⟨⟨2, by decide, rfl, rfl⟩, by decide⟩
              · have ix : ∀ w, (Instr.index 52 (.agg #[.bool true, .bool false, .bool false]) (.int .i64 2)).run Try.prog w = .ok (.bool false) w := fun _ => by kernel_rfl
                go_wp2
                exact ⟨⟨3, by decide, rfl, rfl⟩, by decide⟩
              · skip
                go_wp2_with fail
                refine (lsize_any _ _).mono ?_
                rintro e w' ⟨rfl, rfl⟩
                have hl := hid (fun (_ : Unit) => less_is wide a b h0 h1 g0 g1 true hv.at12)
                rw [set_is wide a b h0 h1 g0 g1] at c4
                clear hv
                cases wide
                · simp only [SZ_false]
                  go_wp2_with fail
                  refine (holds_is _ _ _ _ _ (hl.out ()) _ (bits_bd _ _ _).1 (bits_bd _ _ _).2 (bits_bd _ _ _).1 (bits_bd _ _ _).2 rfl).mono ?_
                  rintro e w1 ⟨rfl, b1⟩
                  have k0 := hb.size
                  have d1 := cell_on b1 hS c1
                  have d2 := cell_on b1 hS c2
                  have d3 := cell_on b1 hS c3
                  have d4 := cell_on b1 hS c4
                  have d5 := cell_on b1 hS c5
                  have d6 := cell_on b1 hS c6
                  have d7 := cell_on b1 hS c7
                  have d10 := cell_on b1 hS c10
                  have d11 := cell_on b1 hS c11
                  have d12 := cell_on b1 hS c12
                  have d13 := cell_on b1 hS c13
                  have hb2 := hb.trans (b1.mono hb.size)
                  clear c1 c2 c3 c4 c5 c6 c7 c10 c11 c12 c13 hb b1 k0 hl hS
                  go_wp2_with fail
                  go_quiet ((go_at_call 23; exact Calls.quiet_of_same ((lfit_any _ a _ h0 h1).mono fun _ _ h => ⟨h.1, h.2.symm⟩)))
                  go_wp2
                  go_ret
                  exact ⟨rfl, hb2.trans (below_drewN _ _ _)⟩
                · simp only [SZ_true]
                  go_wp2_with fail
                  refine (holds_is _ _ _ _ _ (hl.out ()) _ (bits_bd _ _ _).1 (bits_bd _ _ _).2 (bits_bd _ _ _).1 (bits_bd _ _ _).2 rfl).mono ?_
                  rintro e w1 ⟨rfl, b1⟩
                  have k0 := hb.size
                  have d1 := cell_on b1 hS c1
                  have d2 := cell_on b1 hS c2
                  have d3 := cell_on b1 hS c3
                  have d4 := cell_on b1 hS c4
                  have d5 := cell_on b1 hS c5
                  have d6 := cell_on b1 hS c6
                  have d7 := cell_on b1 hS c7
                  have d10 := cell_on b1 hS c10
                  have d11 := cell_on b1 hS c11
                  have d12 := cell_on b1 hS c12
                  have d13 := cell_on b1 hS c13
                  have hb2 := hb.trans (b1.mono hb.size)
                  clear c1 c2 c3 c4 c5 c6 c7 c10 c11 c12 c13 hb b1 k0 hl hS
                  go_wp2_with fail
                  go_quiet ((go_at_call 23; exact Calls.quiet_of_same ((lfit_any _ a _ h0 h1).mono fun _ _ h => ⟨h.1, h.2.symm⟩)))
                  go_wp2
                  go_ret
                  exact ⟨rfl, hb2.trans (below_drewN _ _ _)⟩
      · have c4 := (HT.out 4 (by decide)).1
        have c1 := vals_cell (HT.out 1 (by decide)).1 (show isAt wide a b 11 1 = false from hv.at1)
        have c2 := vals_cell (HT.out 2 (by decide)).1 (show isAt wide a b 11 2 = false from hv.at2)
        have c3 := vals_cell (HT.out 3 (by decide)).1 (show isAt wide a b 11 3 = false from hv.at3)
        have c5 := vals_cell (HT.out 5 (by decide)).1 (show isAt wide a b 11 5 = true from hv.at5)
        have c6 := vals_cell (HT.out 6 (by decide)).1 (show isAt wide a b 11 6 = true from hv.at6)
        have c7 := vals_cell (HT.out 7 (by decide)).1 (show isAt wide a b 11 7 = true from hv.at7)
        have c10 := vals_cell (HT.out 10 (by decide)).1 (show isAt wide a b 11 10 = true from hv.at10)
        have c11 := vals_cell (HT.out 11 (by decide)).1 (show isAt wide a b 11 11 = true from hv.at11)
        have c12 := vals_cell (HT.out 12 (by decide)).1 (show isAt wide a b 11 12 = false from hv.at12)
        have c13 := vals_cell (HT.out 13 (by decide)).1 (show isAt wide a b 11 13 = false from hv.at13)
        clear HT hS0
        go_wp2_with fail
        go_loop [12, 48] (fun vo vk => ∃ k : Nat, k ≤ 3 ∧ vk = .int .i64 k ∧ vo = .int .i64 (if k = 0 then 0 else if k = 1 then 1 else if k = 2 then 1 else 1)) (fun _ vk => 3 - (intOf vk).toNat)
        case atStart => exact ⟨0, by omega, rfl, rfl⟩
        case round =>
          obtain ⟨k, hk, rfl, rfl⟩ := hrel
          have hc : k = 0 ∨ k = 1 ∨ k = 2 ∨ k = 3 := by omega
          clear hk
          rcases hc with rfl | rfl | rfl | rfl
          · have ix : ∀ w, (Instr.index 52 (.agg #[.bool true, .bool false, .bool false]) (.int .i64 0)).run Try.prog w = .ok (.bool true) w := fun _ => by kernel_rfl
            go_wp2
            exact ⟨⟨1, by decide, rfl, rfl⟩, by decide⟩
          · have ix : ∀ w, (Instr.index 52 (.agg #[.bool true, .bool false, .bool false]) (.int .i64 1)).run Try.prog w = .ok (.bool false) w := fun _ => by kernel_rfl
            go_wp2
            exact ⟨⟨2, by decide, rfl, rfl⟩, by decide⟩
          · have ix : ∀ w, (Instr.index 52 (.agg #[.bool true, .bool false, .bool false]) (.int .i64 2)).run Try.prog w = .ok (.bool false) w := fun _ => by kernel_rfl
            go_wp2
            exact ⟨⟨3, by decide, rfl, rfl⟩, by decide⟩
          · skip
            go_wp2_with fail
            go_loop [13, 62] (fun vo vk => ∃ k : Nat, k ≤ 3 ∧ vk = .int .i64 k ∧ vo = .int .i64 (if k = 0 then 0 else if k = 1 then 0 else if k = 2 then 0 else 1)) (fun _ vk => 3 - (intOf vk).toNat)
            case atStart => exact ⟨0, by omega, rfl, rfl⟩
            case round =>
              obtain ⟨k, hk, rfl, rfl⟩ := hrel
              have hc : k = 0 ∨ k = 1 ∨ k = 2 ∨ k = 3 := by omega
              clear hk
              rcases hc with rfl | rfl | rfl | rfl
              · have ix : ∀ w, (Instr.index 52 (.agg #[.bool false, .bool false, .bool true]) (.int .i64 0)).run Try.prog w = .ok (.bool false) w := fun _ => by kernel_rfl
                go_wp2
                exact ⟨⟨1, by decide, rfl, rfl⟩, by decide⟩
              · have ix : ∀ w, (Instr.index 52 (.agg #[.bool false, .bool false, .bool true]) (.int .i64 1)).run Try.prog w = .ok (.bool false) w := fun _ => by kernel_rfl
                go_wp2
                exact ⟨⟨2, by decide, rfl, rfl⟩, by decide⟩
              · have ix : ∀ w, (Instr.index 52 (.agg #[.bool false, .bool false, .bool true]) (.int .i64 2)).run Try.prog w = .ok (.bool true) w := fun _ => by kernel_rfl
                go_wp2
                exact ⟨⟨3, by decide, rfl, rfl⟩, by decide⟩
              · skip
                go_wp2_with fail
                refine (lsize_any _ _).mono ?_
                rintro e w' ⟨rfl, rfl⟩
                have hl := hid (fun (_ : Unit) => less_is wide a b h0 h1 g0 g1 false hv.at12)
                rw [set_is wide a b h0 h1 g0 g1] at c4
                clear hv
                cases wide
                · simp only [SZ_false]
                  go_wp2_with fail
                  refine (holds_is _ _ _ _ _ (hl.out ()) _ (bits_bd _ _ _).1 (bits_bd _ _ _).2 (bits_bd _ _ _).1 (bits_bd _ _ _).2 rfl).mono ?_
                  rintro e w1 ⟨rfl, b1⟩
                  have k0 := hb.size
                  have d1 := cell_on b1 hS c1
                  have d2 := cell_on b1 hS c2
                  have d3 := cell_on b1 hS c3
                  have d4 := cell_on b1 hS c4
                  have d5 := cell_on b1 hS c5
                  have d6 := cell_on b1 hS c6
                  have d7 := cell_on b1 hS c7
                  have d10 := cell_on b1 hS c10
                  have d11 := cell_on b1 hS c11
                  have d12 := cell_on b1 hS c12
                  have d13 := cell_on b1 hS c13
                  have hb2 := hb.trans (b1.mono hb.size)
                  clear c1 c2 c3 c4 c5 c6 c7 c10 c11 c12 c13 hb b1 k0 hl hS
                  go_wp2_with fail
                  go_quiet ((go_at_call 23; exact Calls.quiet_of_same ((lfit_any _ a _ h0 h1).mono fun _ _ h => ⟨h.1, h.2.symm⟩)))
                  go_wp2
                  go_ret
                  exact ⟨rfl, hb2.trans (below_drewN _ _ _)⟩
                · simp only [SZ_true]
                  go_wp2_with fail
                  refine (holds_is _ _ _ _ _ (hl.out ()) _ (bits_bd _ _ _).1 (bits_bd _ _ _).2 (bits_bd _ _ _).1 (bits_bd _ _ _).2 rfl).mono ?_
                  rintro e w1 ⟨rfl, b1⟩
                  have k0 := hb.size
                  have d1 := cell_on b1 hS c1
                  have d2 := cell_on b1 hS c2
                  have d3 := cell_on b1 hS c3
                  have d4 := cell_on b1 hS c4
                  have d5 := cell_on b1 hS c5
                  have d6 := cell_on b1 hS c6
                  have d7 := cell_on b1 hS c7
                  have d10 := cell_on b1 hS c10
                  have d11 := cell_on b1 hS c11
                  have d12 := cell_on b1 hS c12
                  have d13 := cell_on b1 hS c13
                  have hb2 := hb.trans (b1.mono hb.size)
                  clear c1 c2 c3 c4 c5 c6 c7 c10 c11 c12 c13 hb b1 k0 hl hS
                  go_wp2_with fail
                  go_quiet ((go_at_call 23; exact Calls.quiet_of_same ((lfit_any _ a _ h0 h1).mono fun _ _ h => ⟨h.1, h.2.symm⟩)))
                  go_wp2
                  go_ret
                  exact ⟨rfl, hb2.trans (below_drewN _ _ _)⟩
      · have c4 := (HT.out 4 (by decide)).1
        have c1 := vals_cell (HT.out 1 (by decide)).1 (show isAt wide a b 11 1 = true from hv.at1)
        have c2 := vals_cell (HT.out 2 (by decide)).1 (show isAt wide a b 11 2 = false from hv.at2)
        have c3 := vals_cell (HT.out 3 (by decide)).1 (show isAt wide a b 11 3 = true from hv.at3)
        have c5 := vals_cell (HT.out 5 (by decide)).1 (show isAt wide a b 11 5 = false from hv.at5)
        have c6 := vals_cell (HT.out 6 (by decide)).1 (show isAt wide a b 11 6 = false from hv.at6)
        have c7 := vals_cell (HT.out 7 (by decide)).1 (show isAt wide a b 11 7 = true from hv.at7)
        have c10 := vals_cell (HT.out 10 (by decide)).1 (show isAt wide a b 11 10 = false from hv.at10)
        have c11 := vals_cell (HT.out 11 (by decide)).1 (show isAt wide a b 11 11 = true from hv.at11)
        have c12 := vals_cell (HT.out 12 (by decide)).1 (show isAt wide a b 11 12 = false from hv.at12)
        have c13 := vals_cell (HT.out 13 (by decide)).1 (show isAt wide a b 11 13 = true from hv.at13)
        clear HT hS0
        go_wp2_with fail
        go_loop [12, 48] (fun vo vk => ∃ k : Nat, k ≤ 3 ∧ vk = .int .i64 k ∧ vo = .int .i64 (if k = 0 then 0 else if k = 1 then 0 else if k = 2 then 1 else 1)) (fun _ vk => 3 - (intOf vk).toNat)
        case atStart => exact ⟨0, by omega, rfl, rfl⟩
        case round =>
          obtain ⟨k, hk, rfl, rfl⟩ := hrel
          have hc : k = 0 ∨ k = 1 ∨ k = 2 ∨ k = 3 := by omega
          clear hk
          rcases hc with rfl | rfl | rfl | rfl
          · have ix : ∀ w, (Instr.index 52 (.agg #[.bool false, .bool true, .bool false]) (.int .i64 0)).run Try.prog w = .ok (.bool false) w := fun _ => by kernel_rfl
            go_wp2
            exact ⟨⟨1, by decide, rfl, rfl⟩, by decide⟩
          · have ix : ∀ w, (Instr.index 52 (.agg #[.bool false, .bool true, .bool false]) (.int .i64 1)).run Try.prog w = .ok (.bool true) w := fun _ => by kernel_rfl
            go_wp2
            exact ⟨⟨2, by decide, rfl, rfl⟩, by decide⟩
          · have ix : ∀ w, (Instr.index 52 (.agg #[.bool false, .bool true, .bool false]) (.int .i64 2)).run Try.prog w = .ok (.bool false) w := fun _ => by kernel_rfl
            go_wp2
            exact ⟨⟨3, by decide, rfl, rfl⟩, by decide⟩
          · skip
            go_wp2_with fail
            go_loop [13, 62] (fun vo vk => ∃ k : Nat, k ≤ 3 ∧ vk = .int .i64 k ∧ vo = .int .i64 (if k = 0 then 0 else if k = 1 then 0 else if k = 2 then 1 else 1)) (fun _ vk => 3 - (intOf vk).toNat)
            case atStart => exact ⟨0, by omega, rfl, rfl⟩
            case round =>
              obtain ⟨k, hk, rfl, rfl⟩ := hrel
              have hc : k = 0 ∨ k = 1 ∨ k = 2 ∨ k = 3 := by omega
              clear hk
              rcases hc with rfl | rfl | rfl | rfl
              · have ix : ∀ w, (Instr.index 52 (.agg #[.bool false, .bool true, .bool false]) (.int .i64 0)).run Try.prog w = .ok (.bool false) w := fun _ => by kernel_rfl
                go_wp2
                exact ⟨⟨1, by decide, rfl, rfl⟩, by decide⟩
              · have ix : ∀ w, (Instr.index 52 (.agg #[.bool false, .bool true, .bool false]) (.int .i64 1)).run Try.prog w = .ok (.bool true) w := fun _ => by kernel_rfl
                go_wp2
                exact ⟨⟨2, by decide, rfl, rfl⟩, by decide⟩
              · have ix : ∀ w, (Instr.index 52 (.agg #[.bool false, .bool true, .bool false]) (.int .i64 2)).run Try.prog w = .ok (.bool false) w := fun _ => by kernel_rfl
                go_wp2
                exact ⟨⟨3, by decide, rfl, rfl⟩, by decide⟩
              · skip
                go_wp2_with fail
                refine (lsize_any _ _).mono ?_
                rintro e w' ⟨rfl, rfl⟩
                have hl := hid (fun (_ : Unit) => less_is wide a b h0 h1 g0 g1 false hv.at12)
                rw [set_is wide a b h0 h1 g0 g1] at c4
                clear hv
                cases wide
                · simp only [SZ_false]
                  go_wp2_with fail
                  refine (holds_is _ _ _ _ _ (hl.out ()) _ (bits_bd _ _ _).1 (bits_bd _ _ _).2 (bits_bd _ _ _).1 (bits_bd _ _ _).2 rfl).mono ?_
                  rintro e w1 ⟨rfl, b1⟩
                  have k0 := hb.size
                  have d1 := cell_on b1 hS c1
                  have d2 := cell_on b1 hS c2
                  have d3 := cell_on b1 hS c3
                  have d4 := cell_on b1 hS c4
                  have d5 := cell_on b1 hS c5
                  have d6 := cell_on b1 hS c6
                  have d7 := cell_on b1 hS c7
                  have d10 := cell_on b1 hS c10
                  have d11 := cell_on b1 hS c11
                  have d12 := cell_on b1 hS c12
                  have d13 := cell_on b1 hS c13
                  have hb2 := hb.trans (b1.mono hb.size)
                  clear c1 c2 c3 c4 c5 c6 c7 c10 c11 c12 c13 hb b1 k0 hl hS
                  go_wp2_with fail
                  go_quiet ((go_at_call 23; exact Calls.quiet_of_same ((lfit_any _ a _ h0 h1).mono fun _ _ h => ⟨h.1, h.2.symm⟩)))
                  go_wp2
                  go_ret
                  exact ⟨rfl, hb2.trans (below_drewN _ _ _)⟩
                · simp only [SZ_true]
                  go_wp2_with fail
                  refine (holds_is _ _ _ _ _ (hl.out ()) _ (bits_bd _ _ _).1 (bits_bd _ _ _).2 (bits_bd _ _ _).1 (bits_bd _ _ _).2 rfl).mono ?_
                  rintro e w1 ⟨rfl, b1⟩
                  have k0 := hb.size
                  have d1 := cell_on b1 hS c1
                  have d2 := cell_on b1 hS c2
                  have d3 := cell_on b1 hS c3
                  have d4 := cell_on b1 hS c4
                  have d5 := cell_on b1 hS c5
                  have d6 := cell_on b1 hS c6
                  have d7 := cell_on b1 hS c7
                  have d10 := cell_on b1 hS c10
                  have d11 := cell_on b1 hS c11
                  have d12 := cell_on b1 hS c12
                  have d13 := cell_on b1 hS c13
                  have hb2 := hb.trans (b1.mono hb.size)
                  clear c1 c2 c3 c4 c5 c6 c7 c10 c11 c12 c13 hb b1 k0 hl hS
                  go_wp2_with fail
                  go_quiet ((go_at_call 23; exact Calls.quiet_of_same ((lfit_any _ a _ h0 h1).mono fun _ _ h => ⟨h.1, h.2.symm⟩)))
                  go_wp2
                  go_ret
                  exact ⟨rfl, hb2.trans (below_drewN _ _ _)⟩
      · have c4 := (HT.out 4 (by decide)).1
        have c1 := vals_cell (HT.out 1 (by decide)).1 (show isAt wide a b 11 1 = false from hv.at1)
        have c2 := vals_cell (HT.out 2 (by decide)).1 (show isAt wide a b 11 2 = true from hv.at2)
        have c3 := vals_cell (HT.out 3 (by decide)).1 (show isAt wide a b 11 3 = true from hv.at3)
        have c5 := vals_cell (HT.out 5 (by decide)).1 (show isAt wide a b 11 5 = true from hv.at5)
        have c6 := vals_cell (HT.out 6 (by decide)).1 (show isAt wide a b 11 6 = false from hv.at6)
        have c7 := vals_cell (HT.out 7 (by decide)).1 (show isAt wide a b 11 7 = false from hv.at7)
        have c10 := vals_cell (HT.out 10 (by decide)).1 (show isAt wide a b 11 10 = false from hv.at10)
        have c11 := vals_cell (HT.out 11 (by decide)).1 (show isAt wide a b 11 11 = false from hv.at11)
        have c12 := vals_cell (HT.out 12 (by decide)).1 (show isAt wide a b 11 12 = true from hv.at12)
        have c13 := vals_cell (HT.out 13 (by decide)).1 (show isAt wide a b 11 13 = true from hv.at13)
        clear HT hS0
        go_wp2_with fail
        go_loop [12, 48] (fun vo vk => ∃ k : Nat, k ≤ 3 ∧ vk = .int .i64 k ∧ vo = .int .i64 (if k = 0 then 0 else if k = 1 then 0 else if k = 2 then 0 else 1)) (fun _ vk => 3 - (intOf vk).toNat)
        case atStart => exact ⟨0, by omega, rfl, rfl⟩
        case round =>
          obtain ⟨k, hk, rfl, rfl⟩ := hrel
          have hc : k = 0 ∨ k = 1 ∨ k = 2 ∨ k = 3 := by omega
          clear hk
          rcases hc with rfl | rfl | rfl | rfl
          · have ix : ∀ w, (Instr.index 52 (.agg #[.bool false, .bool false, .bool true]) (.int .i64 0)).run Try.prog w = .ok (.bool false) w := fun _ => by kernel_rfl
            go_wp2
            exact ⟨⟨1, by decide, rfl, rfl⟩, by decide⟩
          · have ix : ∀ w, (Instr.index 52 (.agg #[.bool false, .bool false, .bool true]) (.int .i64 1)).run Try.prog w = .ok (.bool false) w := fun _ => by kernel_rfl
            go_wp2
            exact ⟨⟨2, by decide, rfl, rfl⟩, by decide⟩
          · have ix : ∀ w, (Instr.index 52 (.agg #[.bool false, .bool false, .bool true]) (.int .i64 2)).run Try.prog w = .ok (.bool true) w := fun _ => by kernel_rfl
            go_wp2
            exact ⟨⟨3, by decide, rfl, rfl⟩, by decide⟩
          · skip
            go_wp2_with fail
            go_loop [13, 62] (fun vo vk => ∃ k : Nat, k ≤ 3 ∧ vk = .int .i64 k ∧ vo = .int .i64 (if k = 0 then 0 else if k = 1 then 1 else if k = 2 then 1 else 1)) (fun _ vk => 3 - (intOf vk).toNat)
            case atStart => exact ⟨0, by omega, rfl, rfl⟩
            case round =>
              obtain ⟨k, hk, rfl, rfl⟩ := hrel
              have hc : k = 0 ∨ k = 1 ∨ k = 2 ∨ k = 3 := by omega
              clear hk
              rcases hc with rfl | rfl | rfl | rfl
              · have ix : ∀ w, (Instr.index 52 (.agg #[.bool true, .bool false, .bool false]) (.int .i64 0)).run Try.prog w = .ok (.bool true) w := fun _ => by kernel_rfl
                go_wp2
                exact ⟨⟨1, by decide, rfl, rfl⟩, by decide⟩
              · have ix : ∀ w, (Instr.index 52 (.agg #[.bool true, .bool false, .bool false]) (.int .i64 1)).run Try.prog w = .ok (.bool false) w := fun _ => by kernel_rfl
                go_wp2
                exact ⟨⟨2, by decide, rfl, rfl⟩, by decide⟩
              · have ix : ∀ w, (Instr.index 52 (.agg #[.bool true, .bool false, .bool false]) (.int .i64 2)).run Try.prog w = .ok (.bool false) w := fun _ => by kernel_rfl
                go_wp2
                exact ⟨⟨3, by decide, rfl, rfl⟩, by decide⟩
              · skip
                go_wp2_with fail
                refine (lsize_any _ _).mono ?_
                rintro e w' ⟨rfl, rfl⟩
                have hl := hid (fun (_ : Unit) => less_is wide a b h0 h1 g0 g1 true hv.at12)
                rw [set_is wide a b h0 h1 g0 g1] at c4
                clear hv
                cases wide
                · simp only [SZ_false]
                  go_wp2_with fail
                  refine (holds_is _ _ _ _ _ (hl.out ()) _ (bits_bd _ _ _).1 (bits_bd _ _ _).2 (bits_bd _ _ _).1 (bits_bd _ _ _).2 rfl).mono ?_
                  rintro e w1 ⟨rfl, b1⟩
                  have k0 := hb.size
                  have d1 := cell_on b1 hS c1
                  have d2 := cell_on b1 hS c2
                  have d3 := cell_on b1 hS c3
                  have d4 := cell_on b1 hS c4
                  have d5 := cell_on b1 hS c5
                  have d6 := cell_on b1 hS c6
                  have d7 := cell_on b1 hS c7
                  have d10 := cell_on b1 hS c10
                  have d11 := cell_on b1 hS c11
                  have d12 := cell_on b1 hS c12
                  have d13 := cell_on b1 hS c13
                  have hb2 := hb.trans (b1.mono hb.size)
                  clear c1 c2 c3 c4 c5 c6 c7 c10 c11 c12 c13 hb b1 k0 hl hS
                  go_wp2_with fail
                  go_quiet ((go_at_call 23; exact Calls.quiet_of_same ((lfit_any _ a _ h0 h1).mono fun _ _ h => ⟨h.1, h.2.symm⟩)))
                  go_wp2
                  go_ret
                  exact ⟨rfl, hb2.trans (below_drewN _ _ _)⟩
                · simp only [SZ_true]
                  go_wp2_with fail
                  refine (holds_is _ _ _ _ _ (hl.out ()) _ (bits_bd _ _ _).1 (bits_bd _ _ _).2 (bits_bd _ _ _).1 (bits_bd _ _ _).2 rfl).mono ?_
                  rintro e w1 ⟨rfl, b1⟩
                  have k0 := hb.size
                  have d1 := cell_on b1 hS c1
                  have d2 := cell_on b1 hS c2
                  have d3 := cell_on b1 hS c3
                  have d4 := cell_on b1 hS c4
                  have d5 := cell_on b1 hS c5
                  have d6 := cell_on b1 hS c6
                  have d7 := cell_on b1 hS c7
                  have d10 := cell_on b1 hS c10
                  have d11 := cell_on b1 hS c11
                  have d12 := cell_on b1 hS c12
                  have d13 := cell_on b1 hS c13
                  have hb2 := hb.trans (b1.mono hb.size)
                  clear c1 c2 c3 c4 c5 c6 c7 c10 c11 c12 c13 hb b1 k0 hl hS
                  go_wp2_with fail
                  go_quiet ((go_at_call 23; exact Calls.quiet_of_same ((lfit_any _ a _ h0 h1).mono fun _ _ h => ⟨h.1, h.2.symm⟩)))
                  go_wp2
                  go_ret
                  exact ⟨rfl, hb2.trans (below_drewN _ _ _)⟩
      · have c4 := (HT.out 4 (by decide)).1
        have c1 := vals_cell (HT.out 1 (by decide)).1 (show isAt wide a b 11 1 = false from hv.at1)
        have c2 := vals_cell (HT.out 2 (by decide)).1 (show isAt wide a b 11 2 = true from hv.at2)
        have c3 := vals_cell (HT.out 3 (by decide)).1 (show isAt wide a b 11 3 = true from hv.at3)
        have c5 := vals_cell (HT.out 5 (by decide)).1 (show isAt wide a b 11 5 = true from hv.at5)
        have c6 := vals_cell (HT.out 6 (by decide)).1 (show isAt wide a b 11 6 = true from hv.at6)
        have c7 := vals_cell (HT.out 7 (by decide)).1 (show isAt wide a b 11 7 = true from hv.at7)
        have c10 := vals_cell (HT.out 10 (by decide)).1 (show isAt wide a b 11 10 = false from hv.at10)
        have c11 := vals_cell (HT.out 11 (by decide)).1 (show isAt wide a b 11 11 = false from hv.at11)
        have c12 := vals_cell (HT.out 12 (by decide)).1 (show isAt wide a b 11 12 = false from hv.at12)
        have c13 := vals_cell (HT.out 13 (by decide)).1 (show isAt wide a b 11 13 = false from hv.at13)
        clear HT hS0
        go_wp2_with fail
        go_loop [12, 48] (fun vo vk => ∃ k : Nat, k ≤ 3 ∧ vk = .int .i64 k ∧ vo = .int .i64 (if k = 0 then 0 else if k = 1 then 0 else if k = 2 then 0 else 1)) (fun _ vk => 3 - (intOf vk).toNat)
        case atStart => exact ⟨0, by omega, rfl, rfl⟩
        case round =>
          obtain ⟨k, hk, rfl, rfl⟩ := hrel
          have hc : k = 0 ∨ k = 1 ∨ k = 2 ∨ k = 3 := by omega
          clear hk
          rcases hc with rfl | rfl | rfl | rfl
          · have ix : ∀ w, (Instr.index 52 (.agg #[.bool false, .bool false, .bool true]) (.int .i64 0)).run Try.prog w = .ok (.bool false) w := fun _ => by kernel_rfl
            go_wp2
            exact ⟨⟨1, by decide, rfl, rfl⟩, by decide⟩
          · have ix : ∀ w, (Instr.index 52 (.agg #[.bool false, .bool false, .bool true]) (.int .i64 1)).run Try.prog w = .ok (.bool false) w := fun _ => by kernel_rfl
            go_wp2
            exact ⟨⟨2, by decide, rfl, rfl⟩, by decide⟩
          · have ix : ∀ w, (Instr.index 52 (.agg #[.bool false, .bool false, .bool true]) (.int .i64 2)).run Try.prog w = .ok (.bool true) w := fun _ => by kernel_rfl
            go_wp2
            exact ⟨⟨3, by decide, rfl, rfl⟩, by decide⟩
          · skip
            go_wp2_with fail
            go_loop [13, 62] (fun vo vk => ∃ k : Nat, k ≤ 3 ∧ vk = .int .i64 k ∧ vo = .int .i64 (if k = 0 then 0 else if k = 1 then 0 else if k = 2 then 0 else 1)) (fun _ vk => 3 - (intOf vk).toNat)
            case atStart => exact ⟨0, by omega, rfl, rfl⟩
            case round =>
              obtain ⟨k, hk, rfl, rfl⟩ := hrel
              have hc : k = 0 ∨ k = 1 ∨ k = 2 ∨ k = 3 := by omega
              clear hk
              rcases hc with rfl | rfl | rfl | rfl
              · have ix : ∀ w, (Instr.index 52 (.agg #[.bool false, .bool false, .bool true]) (.int .i64 0)).run Try.prog w = .ok (.bool false) w := fun _ => by kernel_rfl
                go_wp2
                exact ⟨⟨1, by decide, rfl, rfl⟩, by decide⟩
              · have ix : ∀ w, (Instr.index 52 (.agg #[.bool false, .bool false, .bool true]) (.int .i64 1)).run Try.prog w = .ok (.bool false) w := fun _ => by kernel_rfl
                go_wp2
                exact ⟨⟨2, by decide, rfl, rfl⟩, by decide⟩
              · have ix : ∀ w, (Instr.index 52 (.agg #[.bool false, .bool false, .bool true]) (.int .i64 2)).run Try.prog w = .ok (.bool true) w := fun _ => by kernel_rfl
                go_wp2
                exact ⟨⟨3, by decide, rfl, rfl⟩, by decide⟩
              · skip
                go_wp2_with fail
                refine (lsize_any _ _).mono ?_
                rintro e w' ⟨rfl, rfl⟩
                have hl := hid (fun (_ : Unit) => less_is wide a b h0 h1 g0 g1 false hv.at12)
                rw [set_is wide a b h0 h1 g0 g1] at c4
                clear hv
                cases wide
                · simp only [SZ_false]
                  go_wp2_with fail
                  refine (holds_is _ _ _ _ _ (hl.out ()) _ (bits_bd _ _ _).1 (bits_bd _ _ _).2 (bits_bd _ _ _).1 (bits_bd _ _ _).2 rfl).mono ?_
                  rintro e w1 ⟨rfl, b1⟩
                  have k0 := hb.size
                  have d1 := cell_on b1 hS c1
                  have d2 := cell_on b1 hS c2
                  have d3 := cell_on b1 hS c3
                  have d4 := cell_on b1 hS c4
                  have d5 := cell_on b1 hS c5
                  have d6 := cell_on b1 hS c6
                  have d7 := cell_on b1 hS c7
                  have d10 := cell_on b1 hS c10
                  have d11 := cell_on b1 hS c11
                  have d12 := cell_on b1 hS c12
                  have d13 := cell_on b1 hS c13
                  have hb2 := hb.trans (b1.mono hb.size)
                  clear c1 c2 c3 c4 c5 c6 c7 c10 c11 c12 c13 hb b1 k0 hl hS
                  go_wp2_with fail
                  go_quiet ((go_at_call 23; exact Calls.quiet_of_same ((lfit_any _ a _ h0 h1).mono fun _ _ h => ⟨h.1, h.2.symm⟩)))
                  go_wp2
                  go_ret
                  exact ⟨rfl, hb2.trans (below_drewN _ _ _)⟩
                · simp only [SZ_true]
                  go_wp2_with fail
                  refine (holds_is _ _ _ _ _ (hl.out ()) _ (bits_bd _ _ _).1 (bits_bd _ _ _).2 (bits_bd _ _ _).1 (bits_bd _ _ _).2 rfl).mono ?_
                  rintro e w1 ⟨rfl, b1⟩
                  have k0 := hb.size
                  have d1 := cell_on b1 hS c1
                  have d2 := cell_on b1 hS c2
                  have d3 := cell_on b1 hS c3
                  have d4 := cell_on b1 hS c4
                  have d5 := cell_on b1 hS c5
                  have d6 := cell_on b1 hS c6
                  have d7 := cell_on b1 hS c7
                  have d10 := cell_on b1 hS c10
                  have d11 := cell_on b1 hS c11
                  have d12 := cell_on b1 hS c12
                  have d13 := cell_on b1 hS c13
                  have hb2 := hb.trans (b1.mono hb.size)
                  clear c1 c2 c3 c4 c5 c6 c7 c10 c11 c12 c13 hb b1 k0 hl hS
                  go_wp2_with fail
                  go_quiet ((go_at_call 23; exact Calls.quiet_of_same ((lfit_any _ a _ h0 h1).mono fun _ _ h => ⟨h.1, h.2.symm⟩)))
                  go_wp2
                  go_ret
                  exact ⟨rfl, hb2.trans (below_drewN _ _ _)⟩

/-! ### WordOrders -/
namespace wordOrders
set_option maxRecDepth 100000 in
theorem lifted (os : Os) (started : os.Started) (H : Type) (enc : TypeId × Value → H) :
    ReturnsInHanded {} Try.checked os 10 .any (Rows.wordOrdersSpec.pre6 enc Try.prog Try.f10 Rows.wordOrdersRow.domain false) (Rows.wordOrdersSpec.post enc Try.prog Try.f10 false true false false) := by
  refine returnsInHanded_of_change (C := Try.checked) own started (by kernel_rfl) Try.func10
    (ChangeSpec.witness6 (enc := enc) (C := Try.checked) false ⟨#[], #[.bool false, .int .u64 0, .int .u64 0], []⟩ 10 (by kernel_rfl) (by kernel_rfl) (by kernel_rfl) (by kernel_rfl)) ?_
  intro W base args ds gs before hval0 hW _ _
  have hval : ∀ (j : Nat) t v, Try.f10.params[j]? = some t → args[j]? = some v → Value.okWide Try.prog W .any base t v := hval0
  have hW' := hW
  obtain ⟨p, q, hA0, hV, rfl, _, _⟩ := hW
  have hA : DataW.TrodAll enc Try.prog W 0 (fun _ => true) true Try.f10.params.toList args.toList ds p := hA0
  rw [Try.params10] at hA hval
  obtain ⟨v0, vs0, d0, ds0, p0, q0, hargs, rfl, rfl, h0, r0⟩ := trodAll_cons hA
  obtain ⟨v1, vs1, d1, ds1, p1, q1, rfl, rfl, rfl, h1, r1⟩ := trodAll_cons r0
  obtain ⟨v2, vs2, d2, ds2, p2, q2, rfl, rfl, rfl, h2, r2⟩ := trodAll_cons r1
  obtain ⟨rfl, rfl, rfl⟩ := trodAll_nil r2
  obtain rfl : args = #[v0, v1, v2] := by cases args; simp_all
  obtain ⟨rfl, rfl⟩ := trodVars_none hV
  obtain ⟨wide, rfl, rfl, rfl⟩ := open_bool Try.underlying4 (hval 0 4 v0 rfl rfl) h0
  obtain ⟨a, rfl, rfl, rfl, wa⟩ := open_int Try.underlying22 (hval 1 22 v1 rfl rfl) h1
  obtain ⟨b, rfl, rfl, rfl, wb⟩ := open_int Try.underlying22 (hval 2 22 v2 rfl rfl) h2
  obtain ⟨lo_a, hi_a⟩ := bounds_u64 wa
  obtain ⟨lo_b, hi_b⟩ := bounds_u64 wb
  clear hA0 hval0
  refine (wordOrders_walk wide a b lo_a (by omega) lo_b (by omega) W).mono fun e W' ⟨he, hb⟩ => ?_
  subst he
  exact ⟨_, rfl, law_shut laid hW' rfl rfl Try.underlying4 (by kernel_rfl) rfl rfl rfl hb⟩

theorem over : Rows.wordOrdersRow.holds Try.pinned (OpenSpec.ofChange Rows.wordOrdersSpec) :=
  OpenClaim.holds_of_wide 10 Try.f10 rfl rfl rfl rfl rfl rfl rfl ⟨rfl, rfl, rfl, rfl, rfl⟩ rfl rfl rfl rfl rfl (by kernel_rfl) Try.func10 (by kernel_rfl)
    (of_decide_eq_true (by kernel_rfl)) (by unfold Func.isWrapper; first | (rw [if_pos (by decide +kernel)]; kernel_rfl) | (rw [if_neg (by decide +kernel)]; exact ⟨rfl, rfl⟩))
    (fun os started H enc _ => lifted os started H enc)

theorem proved : Rows.WordOrdersSaid :=
  over
end wordOrders

end Go.Proofs.Ytgemnkaiajdcfaa
