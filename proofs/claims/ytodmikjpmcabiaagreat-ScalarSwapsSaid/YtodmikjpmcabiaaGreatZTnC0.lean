/-
  Contracts of the library's OnesCount64 and Len64 and of package tnum's low.
-/
import Derived.Test.YtodmikjpmcabiaaGreatZTnB
import Derived.Test.YtodmikjpmcabiaaGreatZTnU
import Derived.Lib.BitFns
namespace Go.Proofs.YtodmikjpmcabiaaGreat
set_option linter.unusedSimpArgs false
set_option linter.unusedVariables false
set_option maxRecDepth 100000
open Go.ChangeShapes Go.WideShapes Go.ChangeAt Go.RowKit
theorem low_any (n : Nat) (w : World) (hn : n ≤ 64) : Calls Tryz.prog 87 #[.int .i64 (n : Int)] w fun e w' => e = .returned (.int .u64 (ub (1#64 <<< n - 1#64))) ∧ w = w' := by
  go_enter Tryz.func87, Tryz.ntmps87
  go_wp2
  go_ret
  exact ⟨rfl, rfl⟩
theorem len_sh (X Y : Int) (k m : Nat) (h0 : 0 ≤ X) (h1 : X ≤ 18446744073709551615) (hm : m = 2 ^ k) (hY : Y = X / (m : Int)) (hk : (m : Int) ≤ X) : ((Lib.bitLen X.toNat : Nat) : Int) = k + (Lib.bitLen Y.toNat : Nat) := by
  subst hm
  have h := Lib.bitLen_shift k X.toNat (by omega) (by omega)
  have e : Y.toNat = X.toNat / 2 ^ k := by rw [hY, ← Int.toNat_natCast (X.toNat / 2 ^ k), Int.natCast_ediv, Int.toNat_of_nonneg h0]
  rw [h, e]; omega
theorem tab_get (Y : Int) (h0 : 0 ≤ Y) (hy : Y < 256) (h : Y.toNat < Lib.len8tab.size) : ((Lib.len8tab[Y.toNat]'h).toNat : Int) = Lib.bitLen Y.toNat ∧ Lib.bitLen Y.toNat ≤ 8 := by
  have all : ∀ j : Fin Lib.len8tab.size, ((Lib.len8tab[j.1]'j.2).toNat) = Lib.bitLen j.1 := by decide +kernel
  exact ⟨congrArg Int.ofNat (all ⟨Y.toNat, h⟩), Lib.bitLen_le8' Y h0 (by omega)⟩
theorem wrap64_id (n : Int) (h0 : 0 ≤ n) (h1 : n < 1000) : wrap64 n = n := by
  have h := IntKind.wrap_i64 n
  have e : wrap64 n = IntKind.i64.wrap n := by first | rfl | (unfold wrap64; exact h.symm)
  rw [e, h]; omega
theorem len_end (X Y : Int) (k m : Nat) (h0 : 0 ≤ X) (h1 : X ≤ 18446744073709551615) (hm : m = 2 ^ k) (hY : Y = X / (m : Int)) (hk : (m : Int) ≤ X) (hy : Y < 256) (hk2 : k ≤ 56) (h : Y.toNat < Lib.len8tab.size) :
    wrap64 (k + wrap64 ((Lib.len8tab[Y.toNat]'h).toNat : Int)) = Lib.bitLen X.toNat := by
  have hY0 : 0 ≤ Y := by rw [hY]; exact Int.ediv_nonneg h0 (by omega)
  have t := tab_get Y hY0 hy h
  rw [t.1, len_sh X Y k m h0 h1 hm hY hk, wrap64_id ((Lib.bitLen Y.toNat : Nat) : Int) (by omega) (by omega), wrap64_id _ (by omega) (by omega)]
set_option maxHeartbeats 4000000 in
set_option maxRecDepth 100000 in
theorem len_any (x : B64) (w : World) : Calls Tryz.prog 125 #[.int .u64 (ub x)] w fun e w' => e = .returned (.int .i64 (Lib.bitLen x.toNat)) ∧ w = w' := by
  obtain ⟨X, hX⟩ : ∃ X, X = ub x := ⟨_, rfl⟩
  have h0 := ub_ge x
  have h1' := ub_lt x
  rw [← hX] at h0 h1' ⊢
  have h1 : X ≤ 18446744073709551615 := by omega
  have hn : x.toNat = X.toNat := by rw [hX, ub_nat]
  rw [hn]
  clear hn hX h1'
  have hs : Lib.len8tab.size = 256 := by kernel_rfl
  go_enter Tryz.func125, Tryz.ntmps125
  go_wp2
  all_goals (go_ret; refine ⟨congrArg Ending.returned (congrArg (Value.int IntKind.i64) ?_), rfl⟩)
  · exact len_end X _ 56 72057594037927936 h0 h1 (by decide) (by omega) (by omega) (by omega) (by decide) _
  · exact len_end X _ 48 281474976710656 h0 h1 (by decide) (by omega) (by omega) (by omega) (by decide) _
  · exact len_end X _ 40 1099511627776 h0 h1 (by decide) (by omega) (by omega) (by omega) (by decide) _
  · exact len_end X _ 32 4294967296 h0 h1 (by decide) (by omega) (by omega) (by omega) (by decide) _
  · exact len_end X _ 24 16777216 h0 h1 (by decide) (by omega) (by omega) (by omega) (by decide) _
  · exact len_end X _ 16 65536 h0 h1 (by decide) (by omega) (by omega) (by omega) (by decide) _
  · exact len_end X _ 8 256 h0 h1 (by decide) (by omega) (by omega) (by omega) (by decide) _
  · have t := tab_get X h0 (by omega) (by omega)
    rw [t.1, wrap64_id ((Lib.bitLen X.toNat : Nat) : Int) (by omega) (by omega), wrap64_id _ (by omega) (by omega)]
end Go.Proofs.YtodmikjpmcabiaaGreat
