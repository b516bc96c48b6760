/-
  Contracts of the document's Join and Cut.
-/
import Derived.Test.YtjcnpjidkimldaaASpU
import Derived.Test.YtjcnpjidkimldaaASpS
import Derived.Test.YtjcnpjidkimldaaASpR
namespace Go.Proofs.Ytjcnpjidkimldaa
set_option linter.unusedSimpArgs false
set_option linter.unusedVariables false
set_option maxRecDepth 100000
open Go.ChangeShapes Go.WideShapes Go.ChangeAt Go.RowKit

/-- Where the document cuts. -/
theorem cut_same (s : Tn) (k : Nat) (hk : k ≤ 64) (h : s.1.toNat ≤ s.2.toNat) :
    (s.1 &&& ~~~(1#64 <<< k - 1#64) = s.2 &&& ~~~(1#64 <<< k - 1#64)) ↔ ¬ (1#64 <<< k - 1#64).toNat < (s.2 - s.1).toNat ∧ ¬ (s.2 &&& (1#64 <<< k - 1#64)).toNat < (s.1 &&& (1#64 <<< k - 1#64)).toNat := by
  have hp := Nat.two_pow_pos k
  rw [toNat_low k hk, width s h, low_is _ _ hk, low_is _ _ hk]
  have q : (s.1 &&& ~~~(1#64 <<< k - 1#64) = s.2 &&& ~~~(1#64 <<< k - 1#64)) ↔ s.1.toNat / 2 ^ k = s.2.toNat / 2 ^ k := by
    constructor
    · intro e
      have e' := congrArg BitVec.toNat e
      rw [toNat_high _ _ hk, toNat_high _ _ hk] at e'
      exact Nat.eq_of_mul_eq_mul_right hp e'
    · intro e
      apply BitVec.eq_of_toNat_eq
      rw [toNat_high _ _ hk, toNat_high _ _ hk, e]
  rw [q]
  have d1 := Nat.div_add_mod s.1.toNat (2 ^ k)
  have d2 := Nat.div_add_mod s.2.toNat (2 ^ k)
  have m1 := Nat.mod_lt s.1.toNat hp
  have m2 := Nat.mod_lt s.2.toNat hp
  have le : s.1.toNat / 2 ^ k ≤ s.2.toNat / 2 ^ k := Nat.div_le_div_right h
  constructor
  · intro e
    rw [e] at d1
    omega
  · rintro ⟨h1, h2⟩
    rcases Nat.lt_or_ge (s.1.toNat / 2 ^ k) (s.2.toNat / 2 ^ k) with hl | hl
    · exfalso
      have hm : 2 ^ k * (s.1.toNat / 2 ^ k + 1) ≤ 2 ^ k * (s.2.toNat / 2 ^ k) := Nat.mul_le_mul_left _ hl
      rw [Nat.mul_add, Nat.mul_one] at hm
      omega
    · omega
theorem cut_all (s : Tn) (h : mayS s = true) : cutK s 64 = s := by
  unfold cutK
  rw [if_pos h]
  have e : (1#64 <<< 64 - 1#64 : B64) = 18446744073709551615#64 := by decide
  rw [e]
  have z : ∀ x : B64, x &&& ~~~(18446744073709551615#64) = 0#64 := fun x => by rw [show (~~~(18446744073709551615#64) : B64) = 0#64 by decide]; simp
  have o : ∀ x : B64, x &&& 18446744073709551615#64 = x := fun x => by
    rw [show (18446744073709551615#64 : B64) = BitVec.allOnes 64 by decide]; exact BitVec.and_allOnes
  rw [z, z, if_pos rfl, o, o]
/-- The boxes of one span and of a result. -/
theorem AB2.start (w : World) (a b : Tn) (t t' : TypeId) : BC ((w.alloc (.cells #[.int .u64 (ub a.1), .int .u64 (ub a.2)] t)).alloc (.cells #[.int .u64 (ub b.1), .int .u64 (ub b.2)] t')) w.heap.size a ∧
    BC ((w.alloc (.cells #[.int .u64 (ub a.1), .int .u64 (ub a.2)] t)).alloc (.cells #[.int .u64 (ub b.1), .int .u64 (ub b.2)] t')) (w.heap.size + 1) b ∧
    Below w.heap.size w ((w.alloc (.cells #[.int .u64 (ub a.1), .int .u64 (ub a.2)] t)).alloc (.cells #[.int .u64 (ub b.1), .int .u64 (ub b.2)] t')) := by
  have e1 := BC.new (w := w) (a := a) (t := t) rfl
  have s1 : (w.alloc (.cells #[.int .u64 (ub a.1), .int .u64 (ub a.2)] t)).heap.size = w.heap.size + 1 := by simp
  have b1 : Below w.heap.size w (w.alloc (.cells #[.int .u64 (ub a.1), .int .u64 (ub a.2)] t)) := (Below.refl _ _).alloc (Nat.le_refl _) _
  generalize w.alloc (.cells #[.int .u64 (ub a.1), .int .u64 (ub a.2)] t) = u1 at *
  have e2 := BC.new (w := u1) (a := b) (t := t') s1.symm
  have b2 : Below u1.heap.size u1 (u1.alloc (.cells #[.int .u64 (ub b.1), .int .u64 (ub b.2)] t')) := (Below.refl _ _).alloc (Nat.le_refl _) _
  exact ⟨e1.below b2, e2, b1.trans (b2.mono b1.size)⟩
set_option maxRecDepth 20000 in
set_option maxHeartbeats 4000000 in
theorem qCut_any (a : Tn) (bits : Int) (w : World) : Calls Try.prog 20 #[tv a, .int .i64 bits] w fun e w' => e = .returned (tv (cutK a (clampN bits))) ∧ Below w.heap.size w w' := by
  have HA := fun W => qMay_any a W
  have HI : BC ((w.alloc (.cells #[.int .u64 (ub a.1), .int .u64 (ub a.2)] 24)).alloc (.cells #[.int .u64 0, .int .u64 0] 24)) w.heap.size a ∧ BC ((w.alloc (.cells #[.int .u64 (ub a.1), .int .u64 (ub a.2)] 24)).alloc (.cells #[.int .u64 0, .int .u64 0] 24)) (w.heap.size + 1) t0 ∧ Below w.heap.size w ((w.alloc (.cells #[.int .u64 (ub a.1), .int .u64 (ub a.2)] 24)).alloc (.cells #[.int .u64 0, .int .u64 0] 24)) := by
    have h := AB2.start w a t0 24 24
    exact h
  unfold tv at HA
  by_cases hA : mayS a = true
  case neg =>
    rw [show cutK a (clampN bits) = t0 from if_neg hA]
    rw [Bool.eq_false_iff.2 hA] at HA
    clear hA
    replace HA := hid HA
    have I := HI
    unfold tv
    go_enter Try.func20, Try.ntmps20
    go_wp2_with fail
    generalize (w.alloc (.cells #[.int .u64 (ub a.1), .int .u64 (ub a.2)] 24)).alloc (.cells #[.int .u64 0, .int .u64 0] 24) = w0 at I ⊢
    refine (HA.out _).mono ?_
    rintro e w1 ⟨rfl, z1⟩
    replace I : BC w1 w.heap.size a ∧ BC w1 (w.heap.size + 1) t0 ∧ Below w.heap.size w w1 := ⟨I.1.below z1, I.2.1.below z1, I.2.2.trans (z1.mono I.2.2.size)⟩
    clear z1
    have i0 := I.1.c0
    have i1 := I.1.c1
    have i2 := I.1.lt
    have i3 := I.2.1.c0
    have i4 := I.2.1.c1
    have i5 := I.2.1.f0
    have i6 := I.2.1.f1
    have i7 := I.2.1.lt
    have HB := hid (put2_below t0 I.2.2 (by omega : w.heap.size ≤ w.heap.size + 1))
    clear I
    go_wp2
    exact bodyPost_ret (v := tv t0) (by simp [results, Try.results20, go_sem, i0, i1, i2, i3, i4, i5, i6, i7]; try rfl) rfl ⟨rfl, HB.out⟩
  rw [hA] at HA
  replace HA := hid HA
  by_cases h64 : 64 ≤ bits
  case pos =>
    rw [show clampN bits = 64 by unfold clampN; omega, cut_all a hA]
    have h0 : ¬ bits < 0 := by omega
    clear hA
    have I := HI
    unfold tv
    go_enter Try.func20, Try.ntmps20
    go_wp2_with fail
    generalize (w.alloc (.cells #[.int .u64 (ub a.1), .int .u64 (ub a.2)] 24)).alloc (.cells #[.int .u64 0, .int .u64 0] 24) = w0 at I ⊢
    refine (HA.out _).mono ?_
    rintro e w1 ⟨rfl, z1⟩
    replace I : BC w1 w.heap.size a ∧ BC w1 (w.heap.size + 1) t0 ∧ Below w.heap.size w w1 := ⟨I.1.below z1, I.2.1.below z1, I.2.2.trans (z1.mono I.2.2.size)⟩
    clear z1
    have i0 := I.1.c0
    have i1 := I.1.c1
    have i2 := I.1.lt
    have i3 := I.2.1.c0
    have i4 := I.2.1.c1
    have i5 := I.2.1.f0
    have i6 := I.2.1.f1
    have i7 := I.2.1.lt
    have HB := hid (put2_below a I.2.2 (by omega : w.heap.size ≤ w.heap.size + 1))
    clear I
    go_wp2
    exact bodyPost_ret (v := tv a) (by simp [results, Try.results20, go_sem, i0, i1, i2, i3, i4, i5, i6, i7]; try rfl) rfl ⟨rfl, HB.out⟩
  have hk : clampN bits ≤ 64 := (clamp_is bits).2
  have hs := cut_same a (clampN bits) hk (of_decide_eq_true hA)
  have HT := fun W => qTop_any (clampN bits) W hk
  unfold cutK
  rw [if_pos hA]
  clear hA hk
  generalize 1#64 <<< clampN bits - 1#64 = L at *
  by_cases h0 : bits < 0
  case pos =>
    rw [show ((clampN bits : Nat) : Int) = 0 by unfold clampN; omega] at HT
    replace HT := hid HT
    by_cases h1 : L.toNat < (a.2 - a.1).toNat
    case pos =>
      rw [if_neg (fun e => (hs.1 e).1 h1)]
      replace h1 := of_ltn h1
      clear hs
      have I := HI
      unfold tv
      go_enter Try.func20, Try.ntmps20
      go_wp2_with fail
      generalize (w.alloc (.cells #[.int .u64 (ub a.1), .int .u64 (ub a.2)] 24)).alloc (.cells #[.int .u64 0, .int .u64 0] 24) = w0 at I ⊢
      refine (HA.out _).mono ?_
      rintro e w1 ⟨rfl, z1⟩
      replace I : BC w1 w.heap.size a ∧ BC w1 (w.heap.size + 1) t0 ∧ Below w.heap.size w w1 := ⟨I.1.below z1, I.2.1.below z1, I.2.2.trans (z1.mono I.2.2.size)⟩
      clear z1
      have i0 := I.1.c0
      have i1 := I.1.c1
      have i2 := I.1.lt
      have i3 := I.2.1.c0
      have i4 := I.2.1.c1
      have i5 := I.2.1.f0
      have i6 := I.2.1.f1
      have i7 := I.2.1.lt
      go_wp2_with fail
      refine (HT.out _).mono ?_
      rintro e w2 ⟨rfl, rfl⟩
      clear i0 i1 i2 i3 i4 i5 i6 i7
      have i0 := I.1.c0
      have i1 := I.1.c1
      have i2 := I.1.lt
      have i3 := I.2.1.c0
      have i4 := I.2.1.c1
      have i5 := I.2.1.f0
      have i6 := I.2.1.f1
      have i7 := I.2.1.lt
      have HB := hid (put2_below (0#64, L) I.2.2 (by omega : w.heap.size ≤ w.heap.size + 1))
      clear I
      go_wp2
      exact bodyPost_ret (v := tv (0#64, L)) (by simp [results, Try.results20, go_sem, i0, i1, i2, i3, i4, i5, i6, i7]; try rfl) rfl ⟨rfl, HB.out⟩
    by_cases h2 : (a.2 &&& L).toNat < (a.1 &&& L).toNat
    case pos =>
      rw [if_neg (fun e => (hs.1 e).2 h2)]
      replace h1 := of_nltn h1
      replace h2 := of_ltn h2
      clear hs
      have I := HI
      unfold tv
      go_enter Try.func20, Try.ntmps20
      go_wp2_with fail
      generalize (w.alloc (.cells #[.int .u64 (ub a.1), .int .u64 (ub a.2)] 24)).alloc (.cells #[.int .u64 0, .int .u64 0] 24) = w0 at I ⊢
      refine (HA.out _).mono ?_
      rintro e w1 ⟨rfl, z1⟩
      replace I : BC w1 w.heap.size a ∧ BC w1 (w.heap.size + 1) t0 ∧ Below w.heap.size w w1 := ⟨I.1.below z1, I.2.1.below z1, I.2.2.trans (z1.mono I.2.2.size)⟩
      clear z1
      have i0 := I.1.c0
      have i1 := I.1.c1
      have i2 := I.1.lt
      have i3 := I.2.1.c0
      have i4 := I.2.1.c1
      have i5 := I.2.1.f0
      have i6 := I.2.1.f1
      have i7 := I.2.1.lt
      go_wp2_with fail
      refine (HT.out _).mono ?_
      rintro e w2 ⟨rfl, rfl⟩
      clear i0 i1 i2 i3 i4 i5 i6 i7
      have i0 := I.1.c0
      have i1 := I.1.c1
      have i2 := I.1.lt
      have i3 := I.2.1.c0
      have i4 := I.2.1.c1
      have i5 := I.2.1.f0
      have i6 := I.2.1.f1
      have i7 := I.2.1.lt
      have HB := hid (put2_below (0#64, L) I.2.2 (by omega : w.heap.size ≤ w.heap.size + 1))
      clear I
      go_wp2
      exact bodyPost_ret (v := tv (0#64, L)) (by simp [results, Try.results20, go_sem, i0, i1, i2, i3, i4, i5, i6, i7]; try rfl) rfl ⟨rfl, HB.out⟩
    case neg =>
      rw [if_pos (hs.2 ⟨h1, h2⟩)]
      replace h1 := of_nltn h1
      replace h2 := of_nltn h2
      clear hs
      have I := HI
      unfold tv
      go_enter Try.func20, Try.ntmps20
      go_wp2_with fail
      generalize (w.alloc (.cells #[.int .u64 (ub a.1), .int .u64 (ub a.2)] 24)).alloc (.cells #[.int .u64 0, .int .u64 0] 24) = w0 at I ⊢
      refine (HA.out _).mono ?_
      rintro e w1 ⟨rfl, z1⟩
      replace I : BC w1 w.heap.size a ∧ BC w1 (w.heap.size + 1) t0 ∧ Below w.heap.size w w1 := ⟨I.1.below z1, I.2.1.below z1, I.2.2.trans (z1.mono I.2.2.size)⟩
      clear z1
      have i0 := I.1.c0
      have i1 := I.1.c1
      have i2 := I.1.lt
      have i3 := I.2.1.c0
      have i4 := I.2.1.c1
      have i5 := I.2.1.f0
      have i6 := I.2.1.f1
      have i7 := I.2.1.lt
      go_wp2_with fail
      refine (HT.out _).mono ?_
      rintro e w2 ⟨rfl, rfl⟩
      clear i0 i1 i2 i3 i4 i5 i6 i7
      have i0 := I.1.c0
      have i1 := I.1.c1
      have i2 := I.1.lt
      have i3 := I.2.1.c0
      have i4 := I.2.1.c1
      have i5 := I.2.1.f0
      have i6 := I.2.1.f1
      have i7 := I.2.1.lt
      have HB := hid (put2_below (a.1 &&& L, a.2 &&& L) I.2.2 (by omega : w.heap.size ≤ w.heap.size + 1))
      clear I
      go_wp2
      exact bodyPost_ret (v := tv (a.1 &&& L, a.2 &&& L)) (by simp [results, Try.results20, go_sem, i0, i1, i2, i3, i4, i5, i6, i7]; try rfl) rfl ⟨rfl, HB.out⟩
  case neg =>
    rw [show ((clampN bits : Nat) : Int) = bits by unfold clampN; omega] at HT
    replace HT := hid HT
    by_cases h1 : L.toNat < (a.2 - a.1).toNat
    case pos =>
      rw [if_neg (fun e => (hs.1 e).1 h1)]
      replace h1 := of_ltn h1
      clear hs
      have I := HI
      unfold tv
      go_enter Try.func20, Try.ntmps20
      go_wp2_with fail
      generalize (w.alloc (.cells #[.int .u64 (ub a.1), .int .u64 (ub a.2)] 24)).alloc (.cells #[.int .u64 0, .int .u64 0] 24) = w0 at I ⊢
      refine (HA.out _).mono ?_
      rintro e w1 ⟨rfl, z1⟩
      replace I : BC w1 w.heap.size a ∧ BC w1 (w.heap.size + 1) t0 ∧ Below w.heap.size w w1 := ⟨I.1.below z1, I.2.1.below z1, I.2.2.trans (z1.mono I.2.2.size)⟩
      clear z1
      have i0 := I.1.c0
      have i1 := I.1.c1
      have i2 := I.1.lt
      have i3 := I.2.1.c0
      have i4 := I.2.1.c1
      have i5 := I.2.1.f0
      have i6 := I.2.1.f1
      have i7 := I.2.1.lt
      go_wp2_with fail
      refine (HT.out _).mono ?_
      rintro e w2 ⟨rfl, rfl⟩
      clear i0 i1 i2 i3 i4 i5 i6 i7
      have i0 := I.1.c0
      have i1 := I.1.c1
      have i2 := I.1.lt
      have i3 := I.2.1.c0
      have i4 := I.2.1.c1
      have i5 := I.2.1.f0
      have i6 := I.2.1.f1
      have i7 := I.2.1.lt
      have HB := hid (put2_below (0#64, L) I.2.2 (by omega : w.heap.size ≤ w.heap.size + 1))
      clear I
      go_wp2
      exact bodyPost_ret (v := tv (0#64, L)) (by simp [results, Try.results20, go_sem, i0, i1, i2, i3, i4, i5, i6, i7]; try rfl) rfl ⟨rfl, HB.out⟩
    by_cases h2 : (a.2 &&& L).toNat < (a.1 &&& L).toNat
    case pos =>
      rw [if_neg (fun e => (hs.1 e).2 h2)]
      replace h1 := of_nltn h1
      replace h2 := of_ltn h2
      clear hs
      have I := HI
      unfold tv
      go_enter Try.func20, Try.ntmps20
      go_wp2_with fail
      generalize (w.alloc (.cells #[.int .u64 (ub a.1), .int .u64 (ub a.2)] 24)).alloc (.cells #[.int .u64 0, .int .u64 0] 24) = w0 at I ⊢
      refine (HA.out _).mono ?_
      rintro e w1 ⟨rfl, z1⟩
      replace I : BC w1 w.heap.size a ∧ BC w1 (w.heap.size + 1) t0 ∧ Below w.heap.size w w1 := ⟨I.1.below z1, I.2.1.below z1, I.2.2.trans (z1.mono I.2.2.size)⟩
      clear z1
      have i0 := I.1.c0
      have i1 := I.1.c1
      have i2 := I.1.lt
      have i3 := I.2.1.c0
      have i4 := I.2.1.c1
      have i5 := I.2.1.f0
      have i6 := I.2.1.f1
      have i7 := I.2.1.lt
      go_wp2_with fail
      refine (HT.out _).mono ?_
      rintro e w2 ⟨rfl, rfl⟩
      clear i0 i1 i2 i3 i4 i5 i6 i7
      have i0 := I.1.c0
      have i1 := I.1.c1
      have i2 := I.1.lt
      have i3 := I.2.1.c0
      have i4 := I.2.1.c1
      have i5 := I.2.1.f0
      have i6 := I.2.1.f1
      have i7 := I.2.1.lt
      have HB := hid (put2_below (0#64, L) I.2.2 (by omega : w.heap.size ≤ w.heap.size + 1))
      clear I
      go_wp2
      exact bodyPost_ret (v := tv (0#64, L)) (by simp [results, Try.results20, go_sem, i0, i1, i2, i3, i4, i5, i6, i7]; try rfl) rfl ⟨rfl, HB.out⟩
    case neg =>
      rw [if_pos (hs.2 ⟨h1, h2⟩)]
      replace h1 := of_nltn h1
      replace h2 := of_nltn h2
      clear hs
      have I := HI
      unfold tv
      go_enter Try.func20, Try.ntmps20
      go_wp2_with fail
      generalize (w.alloc (.cells #[.int .u64 (ub a.1), .int .u64 (ub a.2)] 24)).alloc (.cells #[.int .u64 0, .int .u64 0] 24) = w0 at I ⊢
      refine (HA.out _).mono ?_
      rintro e w1 ⟨rfl, z1⟩
      replace I : BC w1 w.heap.size a ∧ BC w1 (w.heap.size + 1) t0 ∧ Below w.heap.size w w1 := ⟨I.1.below z1, I.2.1.below z1, I.2.2.trans (z1.mono I.2.2.size)⟩
      clear z1
      have i0 := I.1.c0
      have i1 := I.1.c1
      have i2 := I.1.lt
      have i3 := I.2.1.c0
      have i4 := I.2.1.c1
      have i5 := I.2.1.f0
      have i6 := I.2.1.f1
      have i7 := I.2.1.lt
      go_wp2_with fail
      refine (HT.out _).mono ?_
      rintro e w2 ⟨rfl, rfl⟩
      clear i0 i1 i2 i3 i4 i5 i6 i7
      have i0 := I.1.c0
      have i1 := I.1.c1
      have i2 := I.1.lt
      have i3 := I.2.1.c0
      have i4 := I.2.1.c1
      have i5 := I.2.1.f0
      have i6 := I.2.1.f1
      have i7 := I.2.1.lt
      have HB := hid (put2_below (a.1 &&& L, a.2 &&& L) I.2.2 (by omega : w.heap.size ≤ w.heap.size + 1))
      clear I
      go_wp2
      exact bodyPost_ret (v := tv (a.1 &&& L, a.2 &&& L)) (by simp [results, Try.results20, go_sem, i0, i1, i2, i3, i4, i5, i6, i7]; try rfl) rfl ⟨rfl, HB.out⟩
end Go.Proofs.Ytjcnpjidkimldaa
