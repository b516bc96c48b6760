/-
  Contracts of package tnum's small functions, as the landed code has them. Contracts of package tnum's calls on two tnums, as the landed code has them. Contracts of the library's OnesCount64 and Len64 and of package tnum's low. Contracts of package tnum's questions, of Range, and of what is shifted and cut, as the landed code has them.
-/
import Derived.Test.YtjcnpjidkimldaaGreatDoorChecked
import Derived.Test.YtjcnpjidkimldaaGreatDoorATnU
import Derived.ProofKit
import Derived.Below
import Derived.Outline
import Derived.OneCell
import Derived.Deep.QuietTactic
import Derived.BigQuiet
import Derived.BigRegion
import Derived.Lib.BitFns
namespace Go.Proofs.YtjcnpjidkimldaaGreatDoor
set_option linter.unusedSimpArgs false
set_option linter.unusedVariables false
set_option maxRecDepth 100000
open Go.ChangeShapes Go.WideShapes Go.ChangeAt Go.RowKit

theorem below_next {a b c : World} (h : Below a.heap.size a b) (k : Below b.heap.size b c) : Below a.heap.size a c := h.trans (k.mono h.size)
theorem ret_val {a b : Value} (h : a = b) : Ending.returned a = .returned b := by rw [h]
theorem bcell {W w1 : World} (hb : Below W.heap.size W w1) : (∀ b o, b < W.heap.size → w1.cell? ⟨b, o, none⟩ = W.cell? ⟨b, o, none⟩) ∧ (∀ b o, b < W.heap.size → w1.frozen? ⟨b, o, none⟩ = W.frozen? ⟨b, o, none⟩) :=
  ⟨fun _ _ h => hb.cell h, fun _ _ h => hb.frozen h⟩
/-- A tnum's cells. -/
def TC (w : World) (p : Nat) (a : Tn) : Prop := p < w.heap.size ∧ w.cell? ⟨p, 0, none⟩ = some (.int .u64 (ub a.1)) ∧ w.cell? ⟨p, 1, none⟩ = some (.int .u64 (ub a.2))
theorem TC.below {w w' : World} {p : Nat} {a : Tn} (h : TC w p a) (hb : Below w.heap.size w w') : TC w' p a :=
  ⟨Nat.lt_of_lt_of_le h.1 hb.size, (hb.cell h.1).trans h.2.1, (hb.cell h.1).trans h.2.2⟩
theorem TC.new {w : World} {a : Tn} {t : TypeId} {b : Nat} (hb : b = w.heap.size) : TC (w.alloc (.cells #[.int .u64 (ub a.1), .int .u64 (ub a.2)] t)) b a := by
  subst hb
  refine ⟨by simp, ?_, ?_⟩ <;> simp
theorem TC.alloc {w : World} {p : Nat} {a : Tn} (h : TC w p a) (o : Obj) : TC (w.alloc o) p a := h.below ((Below.refl _ _).alloc (Nat.le_refl _) o)

theorem tMay_any (a : Tn) (w : World) : Calls Tryz.prog 362 #[tv a] w fun e w' => e = .returned (.bool (tmay a)) ∧ Below w.heap.size w w' := by
  obtain ⟨v, m⟩ := a
  unfold tv tmay
  go_enter Tryz.func362, Tryz.ntmps362
  go_wp2
  go_ret
  exact ⟨rfl, (Below.refl _ _).alloc (Nat.le_refl _) _⟩
theorem tBut_any (n free : B64) (w : World) : Calls Tryz.prog 332 #[.int .u64 (ub n), .int .u64 (ub free)] w fun e w' => e = .returned (tv (butT n free)) ∧ Below w.heap.size w w' := by
  go_enter Tryz.func332, Tryz.ntmps332
  go_wp2
  exact bodyPost_ret (v := tv (butT n free)) (by simp [results, Tryz.results332, go_sem]; try rfl) rfl ⟨rfl, (Below.refl _ _).alloc (Nat.le_refl _) _⟩
theorem tOf_any (n : B64) (w : World) : Calls Tryz.prog 41 #[.int .u64 (ub n)] w fun e w' => e = .returned (tv (n, 0#64)) ∧ Below w.heap.size w w' := by
  go_enter Tryz.func41, Tryz.ntmps41
  go_wp2
  exact bodyPost_ret (v := tv (n, 0#64)) (by simp [results, Tryz.results41, go_sem]; try rfl) rfl ⟨rfl, (Below.refl _ _).alloc (Nat.le_refl _) _⟩
theorem tAll_any (w : World) : Calls Tryz.prog 294 #[] w fun e w' => e = .returned (tv (0#64, 18446744073709551615#64)) ∧ Below w.heap.size w w' := by
  go_enter Tryz.func294, Tryz.ntmps294
  go_wp2
  exact bodyPost_ret (v := tv (0#64, 18446744073709551615#64)) (by simp [results, Tryz.results294, go_sem]; try rfl) rfl ⟨rfl, (Below.refl _ _).alloc (Nat.le_refl _) _⟩
theorem cMeet (p q : Nat) (a b : Tn) (w : World) (ha : TC w p a) (hb : TC w q b) : Calls Tryz.prog 336 #[.pointer (some ⟨p, 0, none⟩), .pointer (some ⟨q, 0, none⟩)] w fun e w' => e = .returned (tv (meetT a b)) ∧ Below w.heap.size w w' := by
  obtain ⟨v, m⟩ := a
  obtain ⟨v', m'⟩ := b
  obtain ⟨R, HR⟩ : ∃ R, R = tv (meetT (v, m) (v', m')) := ⟨_, rfl⟩
  rw [← HR]
  have hR := hid HR
  clear HR
  obtain ⟨p0, p1, p2⟩ := ha
  obtain ⟨q0, q1, q2⟩ := hb
  dsimp only at p1 p2 q1 q2
  have hp : p ≠ w.heap.size := by omega
  have hq : q ≠ w.heap.size := by omega
  go_enter Tryz.func336, Tryz.ntmps336
  go_wp2
  exact bodyPost_ret (v := R) (by rw [hR.out]; simp [results, Tryz.results336, go_sem]; try rfl) rfl ⟨rfl, (Below.refl _ _).alloc (Nat.le_refl _) _⟩
end Go.Proofs.YtjcnpjidkimldaaGreatDoor

namespace Go.Proofs.YtjcnpjidkimldaaGreatDoor
set_option linter.unusedSimpArgs false
set_option linter.unusedVariables false
set_option maxRecDepth 100000
open Go.ChangeShapes Go.WideShapes Go.ChangeAt Go.RowKit

theorem both_any (a b t : Tn) (f : Nat) (cs : Array Value) (w : World) (he : ∀ (args : Array Value) (w : World), (callFunc f args).run Tryz.prog w = .ok (.enter f args) w) (hcl : ∀ W, Below w.heap.size w W → tmay a = true → tmay b = true → Calls Tryz.prog f cs W fun e w' => e = .returned (tv t) ∧ Below W.heap.size W w') :
    Calls Tryz.prog 335 #[tv a, tv b, .func (.func f) #[] cs] w fun e w' => e = .returned (.tuple #[tv (bothT a b t), .int .i64 (bothE a b)]) ∧ Below w.heap.size w w' := by
  have HC := hid hcl
  have HE := hid he
  clear hcl he
  obtain ⟨R, HR⟩ : ∃ R, R = tv (bothT a b t) := ⟨_, rfl⟩
  rw [← HR]
  have hR := hid HR
  clear HR
  have hE := hid (rfl : bothE a b = bothE a b)
  unfold bothE at hE ⊢
  unfold tv bothT at hR
  unfold tv
  cases ha : tmay a
  · have hR' : R = .agg #[.int .u64 0, .int .u64 0] := by rw [hR.out, ha]; rfl
    subst hR'
    clear hR hE
    have HA := hid (ha ▸ tMay_any a)
    clear ha
    unfold tv at HA
    go_enter Tryz.func335, Tryz.ntmps335
    go_wp2_with fail
    refine (HA.out _).mono ?_
    rintro e w1 ⟨rfl, b1⟩
    have hb : Below w.heap.size w w1 := (((((Below.refl _ _).alloc (Nat.le_refl _) _).alloc (by simp) _).alloc (by simp; omega) _).trans (b1.mono (by simp; omega)))
    obtain ⟨hc, hf⟩ := bcell b1
    have hz : w.heap.size + 1 + 1 < w1.heap.size := by have := b1.size; simp at this; omega
    have HB := hid hb
    clear b1 hb
    go_wp2
    refine bodyPost_ret (v := .tuple #[.agg #[.int .u64 0, .int .u64 0], .int .i64 1]) (by simp [results, Tryz.results335, go_sem, hc, hz]; try rfl) rfl ⟨rfl, ?_⟩
    exact (HB.out.setCell (by simp; omega) _).setCell (by simp; omega) _
  cases hb' : tmay b
  · have hR' : R = .agg #[.int .u64 0, .int .u64 0] := by rw [hR.out, ha, hb']; rfl
    subst hR'
    clear hR hE
    have HA := hid (ha ▸ tMay_any a)
    have HA2 := hid (hb' ▸ tMay_any b)
    clear ha hb'
    unfold tv at HA HA2
    go_enter Tryz.func335, Tryz.ntmps335
    go_wp2_with fail
    refine (HA.out _).mono ?_
    rintro e w1 ⟨rfl, b1⟩
    have hb : Below w.heap.size w w1 := (((((Below.refl _ _).alloc (Nat.le_refl _) _).alloc (by simp) _).alloc (by simp; omega) _).trans (b1.mono (by simp; omega)))
    obtain ⟨hc, hf⟩ := bcell b1
    have hz : w.heap.size + 1 + 1 < w1.heap.size := by have := b1.size; simp at this; omega
    have HB := hid hb
    clear b1 hb
    go_wp2_with fail
    refine (HA2.out _).mono ?_
    rintro e w2 ⟨rfl, b2⟩
    have hb : Below w.heap.size w w2 := HB.out.trans (b2.mono (by omega))
    obtain ⟨hc2, hf2⟩ := bcell b2
    have hz2 : w.heap.size + 1 + 1 < w2.heap.size := by have := b2.size; omega
    have HB2 := hid hb
    clear b2 hb
    go_wp2
    refine bodyPost_ret (v := .tuple #[.agg #[.int .u64 0, .int .u64 0], .int .i64 1]) (by simp [results, Tryz.results335, go_sem, hc, hz, hc2, hz2]; try rfl) rfl ⟨rfl, ?_⟩
    exact (HB2.out.setCell (by simp; omega) _).setCell (by simp; omega) _
  have hR' : R = .agg #[.int .u64 (ub t.1), .int .u64 (ub t.2)] := by rw [hR.out, ha, hb']; rfl
  subst hR'
  clear hR hE
  have HA := hid (ha ▸ tMay_any a)
  have HA2 := hid (hb' ▸ tMay_any b)
  have HC' := hid fun W hW => HC.out W hW ha hb'
  clear ha hb' HC
  unfold tv at HA HA2 HC'
  go_enter Tryz.func335, Tryz.ntmps335
  go_wp2_with fail
  refine (HA.out _).mono ?_
  rintro e w1 ⟨rfl, b1⟩
  have hb : Below w.heap.size w w1 := (((((Below.refl _ _).alloc (Nat.le_refl _) _).alloc (by simp) _).alloc (by simp; omega) _).trans (b1.mono (by simp; omega)))
  obtain ⟨hc, hf⟩ := bcell b1
  have hz : w.heap.size + 1 + 1 < w1.heap.size := by have := b1.size; simp at this; omega
  have HB := hid hb
  clear b1 hb
  go_wp2_with fail
  refine (HA2.out _).mono ?_
  rintro e w2 ⟨rfl, b2⟩
  have hb : Below w.heap.size w w2 := HB.out.trans (b2.mono (by omega))
  obtain ⟨hc2, hf2⟩ := bcell b2
  have hz2 : w.heap.size + 1 + 1 < w2.heap.size := by have := b2.size; omega
  have HB2 := hid hb
  clear b2 hb
  go_wp2_with fail
  rw [HE.out, Oper.upon_enter]
  refine (HC'.out _ HB2.out).mono ?_
  rintro e w3 ⟨rfl, b3⟩
  have hb : Below w.heap.size w w3 := HB2.out.trans (b3.mono (by omega))
  obtain ⟨hc3, hf3⟩ := bcell b3
  have hz3 : w.heap.size + 1 + 1 < w3.heap.size := by have := b3.size; omega
  have HB3 := hid hb
  clear b3 hb
  go_wp2
  refine bodyPost_ret (v := .tuple #[.agg #[.int .u64 (ub t.1), .int .u64 (ub t.2)], .int .i64 0]) (by simp [results, Tryz.results335, go_sem, hc, hz, hc2, hz2, hc3, hz3]; try rfl) rfl ⟨rfl, ?_⟩
  exact (HB3.out.setCell (by simp; omega) _).setCell (by simp; omega) _
end Go.Proofs.YtjcnpjidkimldaaGreatDoor

namespace Go.Proofs.YtjcnpjidkimldaaGreatDoor
set_option linter.unusedSimpArgs false
set_option linter.unusedVariables false
set_option maxRecDepth 100000
open Go.ChangeShapes Go.WideShapes Go.ChangeAt Go.RowKit
theorem low_any (n : Nat) (w : World) (hn : n ≤ 64) : Calls Tryz.prog 333 #[.int .i64 (n : Int)] w fun e w' => e = .returned (.int .u64 (ub (1#64 <<< n - 1#64))) ∧ w = w' := by
  go_enter Tryz.func333, Tryz.ntmps333
  go_wp2
  go_ret
  exact ⟨rfl, rfl⟩
theorem len_sh (X Y : Int) (k m : Nat) (h0 : 0 ≤ X) (h1 : X ≤ 18446744073709551615) (hm : m = 2 ^ k) (hY : Y = X / (m : Int)) (hk : (m : Int) ≤ X) : ((Lib.bitLen X.toNat : Nat) : Int) = k + (Lib.bitLen Y.toNat : Nat) := by
  subst hm
  have h := Lib.bitLen_shift k X.toNat (by omega) (by omega)
  have e : Y.toNat = X.toNat / 2 ^ k := by rw [hY, ← Int.toNat_natCast (X.toNat / 2 ^ k), Int.natCast_ediv, Int.toNat_of_nonneg h0]
  rw [h, e]; omega
theorem tab_get (Y : Int) (h0 : 0 ≤ Y) (hy : Y < 256) (h : Y.toNat < Lib.len8tab.size) : ((Lib.len8tab[Y.toNat]'h).toNat : Int) = Lib.bitLen Y.toNat ∧ Lib.bitLen Y.toNat ≤ 8 := by
  have all : ∀ j : Fin Lib.len8tab.size, ((Lib.len8tab[j.1]'j.2).toNat) = Lib.bitLen j.1 := by decide +kernel
  exact ⟨congrArg Int.ofNat (all ⟨Y.toNat, h⟩), Lib.bitLen_le8' Y h0 (by omega)⟩
theorem wrap64_id (n : Int) (h0 : 0 ≤ n) (h1 : n < 1000) : wrap64 n = n := by
  have h := IntKind.wrap_i64 n
  have e : wrap64 n = IntKind.i64.wrap n := by first | rfl | (unfold wrap64; exact h.symm)
  rw [e, h]; omega
theorem len_end (X Y : Int) (k m : Nat) (h0 : 0 ≤ X) (h1 : X ≤ 18446744073709551615) (hm : m = 2 ^ k) (hY : Y = X / (m : Int)) (hk : (m : Int) ≤ X) (hy : Y < 256) (hk2 : k ≤ 56) (h : Y.toNat < Lib.len8tab.size) :
    wrap64 (k + wrap64 ((Lib.len8tab[Y.toNat]'h).toNat : Int)) = Lib.bitLen X.toNat := by
  have hY0 : 0 ≤ Y := by rw [hY]; exact Int.ediv_nonneg h0 (by omega)
  have t := tab_get Y hY0 hy h
  rw [t.1, len_sh X Y k m h0 h1 hm hY hk, wrap64_id ((Lib.bitLen Y.toNat : Nat) : Int) (by omega) (by omega), wrap64_id _ (by omega) (by omega)]
set_option maxHeartbeats 4000000 in
set_option maxRecDepth 100000 in
theorem len_any (x : B64) (w : World) : Calls Tryz.prog 334 #[.int .u64 (ub x)] w fun e w' => e = .returned (.int .i64 (Lib.bitLen x.toNat)) ∧ w = w' := by
  obtain ⟨X, hX⟩ : ∃ X, X = ub x := ⟨_, rfl⟩
  have h0 := ub_ge x
  have h1' := ub_lt x
  rw [← hX] at h0 h1' ⊢
  have h1 : X ≤ 18446744073709551615 := by omega
  have hn : x.toNat = X.toNat := by rw [hX, ub_nat]
  rw [hn]
  clear hn hX h1'
  have hs : Lib.len8tab.size = 256 := by kernel_rfl
  go_enter Tryz.func334, Tryz.ntmps334
  go_wp2
  all_goals (go_ret; refine ⟨congrArg Ending.returned (congrArg (Value.int IntKind.i64) ?_), rfl⟩)
  · exact len_end X _ 56 72057594037927936 h0 h1 (by decide) (by omega) (by omega) (by omega) (by decide) _
  · exact len_end X _ 48 281474976710656 h0 h1 (by decide) (by omega) (by omega) (by omega) (by decide) _
  · exact len_end X _ 40 1099511627776 h0 h1 (by decide) (by omega) (by omega) (by omega) (by decide) _
  · exact len_end X _ 32 4294967296 h0 h1 (by decide) (by omega) (by omega) (by omega) (by decide) _
  · exact len_end X _ 24 16777216 h0 h1 (by decide) (by omega) (by omega) (by omega) (by decide) _
  · exact len_end X _ 16 65536 h0 h1 (by decide) (by omega) (by omega) (by omega) (by decide) _
  · exact len_end X _ 8 256 h0 h1 (by decide) (by omega) (by omega) (by omega) (by decide) _
  · have t := tab_get X h0 (by omega) (by omega)
    rw [t.1, wrap64_id ((Lib.bitLen X.toNat : Nat) : Int) (by omega) (by omega), wrap64_id _ (by omega) (by omega)]
end Go.Proofs.YtjcnpjidkimldaaGreatDoor

namespace Go.Proofs.YtjcnpjidkimldaaGreatDoor
set_option linter.unusedSimpArgs false
set_option linter.unusedVariables false
set_option maxRecDepth 100000
open Go.ChangeShapes Go.WideShapes Go.ChangeAt Go.RowKit

theorem tIn_any (a b : Tn) (w : World) : Calls Tryz.prog 305 #[tv a, tv b] w fun e w' => e = .returned (.bool (tin a b)) ∧ Below w.heap.size w w' := by
  have HA := hid (tMay_any a)
  have HB := hid (tMay_any b)
  obtain ⟨v, m⟩ := a
  obtain ⟨v', m'⟩ := b
  unfold tin
  unfold tv at HA HB ⊢
  cases ha : tmay (v, m)
  · rw [ha] at HA; clear ha
    go_enter Tryz.func305, Tryz.ntmps305
    go_wp2_with fail
    refine (HA.out _).mono ?_
    rintro e w1 ⟨rfl, b1⟩
    have hb : Below w.heap.size w w1 := (((Below.refl _ _).alloc (Nat.le_refl _) _).alloc (by simp) _).trans (b1.mono (by simp; omega))
    obtain ⟨hc1, hf1⟩ := bcell b1
    have hz1 : w.heap.size + 1 < w1.heap.size := by have := b1.size; simp at this; omega
    have hy1 : w.heap.size < w1.heap.size := by omega
    have HB1 := hid hb
    clear b1 hb
    go_wp2
    go_ret
    exact ⟨rfl, HB1.out⟩
  rw [ha] at HA; clear ha
  cases hb' : tmay (v', m')
  · rw [hb'] at HB; clear hb'
    go_enter Tryz.func305, Tryz.ntmps305
    go_wp2_with fail
    refine (HA.out _).mono ?_
    rintro e w1 ⟨rfl, b1⟩
    have hb : Below w.heap.size w w1 := (((Below.refl _ _).alloc (Nat.le_refl _) _).alloc (by simp) _).trans (b1.mono (by simp; omega))
    obtain ⟨hc1, hf1⟩ := bcell b1
    have hz1 : w.heap.size + 1 < w1.heap.size := by have := b1.size; simp at this; omega
    have hy1 : w.heap.size < w1.heap.size := by omega
    have HB1 := hid hb
    clear b1 hb
    go_wp2_with fail
    refine (HB.out _).mono ?_
    rintro e w2 ⟨rfl, b2⟩
    have hb : Below w.heap.size w w2 := HB1.out.trans (b2.mono (by omega))
    obtain ⟨hc2, hf2⟩ := bcell b2
    have hz2 : w.heap.size + 1 < w2.heap.size := by have := b2.size; omega
    have hy2 : w.heap.size < w2.heap.size := by omega
    have HB2 := hid hb
    clear b2 hb
    go_wp2
    go_ret
    exact ⟨rfl, HB2.out⟩
  rw [hb'] at HB; clear hb'
  dsimp only
  cases h1 : (m &&& ~~~m' == 0#64)
  · have hx := h1
    go_enter Tryz.func305, Tryz.ntmps305
    go_wp2_with fail
    refine (HA.out _).mono ?_
    rintro e w1 ⟨rfl, b1⟩
    have hb : Below w.heap.size w w1 := (((Below.refl _ _).alloc (Nat.le_refl _) _).alloc (by simp) _).trans (b1.mono (by simp; omega))
    obtain ⟨hc1, hf1⟩ := bcell b1
    have hz1 : w.heap.size + 1 < w1.heap.size := by have := b1.size; simp at this; omega
    have hy1 : w.heap.size < w1.heap.size := by omega
    have HB1 := hid hb
    clear b1 hb
    go_wp2_with fail
    refine (HB.out _).mono ?_
    rintro e w2 ⟨rfl, b2⟩
    have hb : Below w.heap.size w w2 := HB1.out.trans (b2.mono (by omega))
    obtain ⟨hc2, hf2⟩ := bcell b2
    have hz2 : w.heap.size + 1 < w2.heap.size := by have := b2.size; omega
    have hy2 : w.heap.size < w2.heap.size := by omega
    have HB2 := hid hb
    clear b2 hb
    go_wp2
    go_ret
    exact ⟨rfl, HB2.out⟩
  · have hx := h1
    go_enter Tryz.func305, Tryz.ntmps305
    go_wp2_with fail
    refine (HA.out _).mono ?_
    rintro e w1 ⟨rfl, b1⟩
    have hb : Below w.heap.size w w1 := (((Below.refl _ _).alloc (Nat.le_refl _) _).alloc (by simp) _).trans (b1.mono (by simp; omega))
    obtain ⟨hc1, hf1⟩ := bcell b1
    have hz1 : w.heap.size + 1 < w1.heap.size := by have := b1.size; simp at this; omega
    have hy1 : w.heap.size < w1.heap.size := by omega
    have HB1 := hid hb
    clear b1 hb
    go_wp2_with fail
    refine (HB.out _).mono ?_
    rintro e w2 ⟨rfl, b2⟩
    have hb : Below w.heap.size w w2 := HB1.out.trans (b2.mono (by omega))
    obtain ⟨hc2, hf2⟩ := bcell b2
    have hz2 : w.heap.size + 1 < w2.heap.size := by have := b2.size; omega
    have hy2 : w.heap.size < w2.heap.size := by omega
    have HB2 := hid hb
    clear b2 hb
    go_wp2
    go_ret
    exact ⟨rfl, HB2.out⟩
def rangeT (lo hi : B64) : Tn := if ub hi < ub lo then t0 else butT lo (1#64 <<< Lib.bitLen (lo ^^^ hi).toNat - 1#64)
def rangeE (lo hi : B64) : Int := if ub hi < ub lo then 1 else 0
theorem bitLen_le (x : B64) : Lib.bitLen x.toNat ≤ 64 := Lib.bitLen_le _ 64 (Nat.le_refl _) x.isLt
theorem tRange_any (lo hi : B64) (w : World) : Calls Tryz.prog 285 #[.int .u64 (ub lo), .int .u64 (ub hi)] w fun e w' => e = .returned (.tuple #[tv (rangeT lo hi), .int .i64 (rangeE lo hi)]) ∧ Below w.heap.size w w' := by
  have HL := hid fun W => len_any (lo ^^^ hi) W
  have HW := hid fun W => low_any (Lib.bitLen (lo ^^^ hi).toNat) W (bitLen_le _)
  obtain ⟨R, HR⟩ : ∃ R, R = rangeT lo hi := ⟨_, rfl⟩
  rw [← HR]
  unfold rangeT at HR
  unfold rangeE
  by_cases hh : ub hi < ub lo
  · rw [if_pos hh] at HR ⊢
    subst HR
    go_enter Tryz.func285, Tryz.ntmps285
    go_wp2
    exact bodyPost_ret (v := .tuple #[tv t0, .int .i64 1]) (by simp [results, Tryz.results285, go_sem]; try rfl) rfl ⟨rfl, (Below.refl _ _).alloc (Nat.le_refl _) _⟩
  · rw [if_neg hh] at HR ⊢
    subst HR
    have hh' : ub lo ≤ ub hi := by omega
    go_enter Tryz.func285, Tryz.ntmps285
    go_wp2_with fail
    refine (HL.out _).mono ?_
    rintro e w1 ⟨rfl, rfl⟩
    go_wp2_with fail
    refine (HW.out _).mono ?_
    rintro e w1 ⟨rfl, rfl⟩
    go_wp2_with fail
    refine (tBut_any _ _ _).mono ?_
    rintro e w1 ⟨rfl, b1⟩
    have hb : Below w.heap.size w w1 := ((Below.refl _ _).alloc (Nat.le_refl _) _).trans (b1.mono (by simp))
    obtain ⟨hc, hf⟩ := bcell b1
    have hz : w.heap.size < w1.heap.size := by have := b1.size; simp at this; omega
    have HB := hid hb
    clear b1 hb
    unfold tv butT
    dsimp only
    go_wp2
    refine bodyPost_ret (v := .tuple #[tv (butT lo (1#64 <<< Lib.bitLen (lo ^^^ hi).toNat - 1#64)), .int .i64 0]) (by simp [results, Tryz.results285, go_sem, hc, hz]; try rfl) rfl ⟨rfl, ?_⟩
    exact (HB.out.setCell (by simp) _).setCell (by simp) _
end Go.Proofs.YtjcnpjidkimldaaGreatDoor
