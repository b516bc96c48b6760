/-
  Law WordSwaps: Swap and Ext answer what the document's own answers say. No condition.
-/
import Derived.Test.YtgemnkaiajdcfaaAwake
namespace Go.Proofs.Ytgemnkaiajdcfaa
open Go.ChangeShapes Go.WideShapes Go.ChangeAt Go.RowKit

def swpI (bits a : Int) : Int := if bits = 16 then rev 2 a else if bits = 32 then rev 4 a else if bits = 64 then rev 8 a else 0
def swpE (bits : Int) : Int := if bits = 16 then 0 else if bits = 32 then 0 else if bits = 64 then 0 else 1

theorem swap_none (bits a : Int) (w : World) (h16 : ¬ bits = 16) (h32 : ¬ bits = 32) (h64 : ¬ bits = 64) :
    Calls Try.prog 18 #[.int .i64 bits, .int .u64 a] w fun e w' => e = .returned (.tuple #[.int .u64 0, .int .i64 1]) ∧ w = w' := by
  have e16 : (bits == 16) = false := by simpa using h16
  have e32 : (bits == 32) = false := by simpa using h32
  have e64 : (bits == 64) = false := by simpa using h64
  have f16 : (bits != 16) = true := by simpa using h16
  have f32 : (bits != 32) = true := by simpa using h32
  have f64 : (bits != 64) = true := by simpa using h64
  clear h16 h32 h64
  go_enter Try.func18, Try.ntmps18
  go_wp2
  go_ret2
  exact ⟨rfl, rfl⟩
theorem swap_any (bits a : Int) (w : World) (h0 : 0 ≤ a) (h1 : a < 18446744073709551616) :
    Calls Try.prog 18 #[.int .i64 bits, .int .u64 a] w fun e w' => e = .returned (.tuple #[.int .u64 (swpI bits a), .int .i64 (swpE bits)]) ∧ w = w' := by
  by_cases h16 : bits = 16
  · subst h16; exact swap_some 2 (by decide) a w h0 h1
  by_cases h32 : bits = 32
  · subst h32; exact swap_some 4 (by decide) a w h0 h1
  by_cases h64 : bits = 64
  · subst h64; exact swap_some 8 (by decide) a w h0 h1
  have e1 : swpI bits a = 0 := by unfold swpI; rw [if_neg h16, if_neg h32, if_neg h64]
  have e2 : swpE bits = 1 := by unfold swpE; rw [if_neg h16, if_neg h32, if_neg h64]
  rw [e1, e2]
  exact swap_none bits a w h16 h32 h64

theorem rswap_none (bits a : Int) (w : World) (h16 : ¬ bits = 16) (h32 : ¬ bits = 32) (h64 : ¬ bits = 64) :
    Calls Try.prog 19 #[.int .i64 bits, .int .u64 a] w fun e w' => e = .returned (.tuple #[.int .u64 0, .int .i64 1]) ∧ w = w' := by
  have e16 : (bits == 16) = false := by simpa using h16
  have e32 : (bits == 32) = false := by simpa using h32
  have e64 : (bits == 64) = false := by simpa using h64
  have f16 : (bits != 16) = true := by simpa using h16
  have f32 : (bits != 32) = true := by simpa using h32
  have f64 : (bits != 64) = true := by simpa using h64
  clear h16 h32 h64
  go_enter Try.func19, Try.ntmps19
  go_wp2
  go_ret2
  exact ⟨rfl, rfl⟩
theorem rswap_any (bits a : Int) (w : World) (h0 : 0 ≤ a) (h1 : a < 18446744073709551616) :
    Calls Try.prog 19 #[.int .i64 bits, .int .u64 a] w fun e w' => e = .returned (.tuple #[.int .u64 (swpI bits a), .int .i64 (swpE bits)]) ∧ w = w' := by
  by_cases h16 : bits = 16
  · subst h16; exact rswap_some 2 (by decide) a w h0 h1
  by_cases h32 : bits = 32
  · subst h32; exact rswap_some 4 (by decide) a w h0 h1
  by_cases h64 : bits = 64
  · subst h64; exact rswap_some 8 (by decide) a w h0 h1
  have e1 : swpI bits a = 0 := by unfold swpI; rw [if_neg h16, if_neg h32, if_neg h64]
  have e2 : swpE bits = 1 := by unfold swpE; rw [if_neg h16, if_neg h32, if_neg h64]
  rw [e1, e2]
  exact rswap_none bits a w h16 h32 h64

theorem wordSwaps_walk (bits a imm : Int) (_o0 : -9223372036854775808 ≤ bits) (_o1 : bits < 9223372036854775808) (h0 : 0 ≤ a) (h1 : a < 18446744073709551616) (g0 : -2147483648 ≤ imm) (g1 : imm < 2147483648) (w : World) :
    Calls Try.prog 5 #[.int .i64 bits, .int .u64 a, .int .i32 imm] w fun e w' => e = .returned (.bool true) ∧ Below w.heap.size w w' := by
  go_enter Try.func5, Try.ntmps5
  go_wp2_with fail
  refine (swap_any bits a _ h0 h1).mono ?_
  rintro e w1 ⟨rfl, rfl⟩
  go_wp2_with fail
  refine (rswap_any bits a _ h0 h1).mono ?_
  rintro e w1 ⟨rfl, rfl⟩
  go_wp2_with fail
  refine (awake_any _).mono ?_
  rintro e w3 ⟨rfl, b3⟩
  go_wp2_with fail
  refine (ext_any imm _ g0 g1).mono ?_
  rintro e w1 ⟨rfl, rfl⟩
  go_wp2_with fail
  refine (rext_any imm _ g0 g1).mono ?_
  rintro e w1 ⟨rfl, rfl⟩
  go_wp2
  go_ret
  exact ⟨rfl, b3⟩

/-! ### WordSwaps -/
namespace wordSwaps
set_option maxRecDepth 100000 in
theorem lifted (os : Os) (started : os.Started) (H : Type) (enc : TypeId × Value → H) :
    ReturnsInHanded {} Try.checked os 5 .any (Rows.wordSwapsSpec.pre6 enc Try.prog Try.f5 Rows.wordSwapsRow.domain false) (Rows.wordSwapsSpec.post enc Try.prog Try.f5 false true false false) := by
  refine returnsInHanded_of_change (C := Try.checked) own started (by kernel_rfl) Try.func5
    (ChangeSpec.witness6 (enc := enc) (C := Try.checked) false ⟨#[], #[.int .i64 0, .int .u64 0, .int .i32 0], []⟩ 5 (by kernel_rfl) (by kernel_rfl) (by kernel_rfl) (by kernel_rfl)) ?_
  intro W base args ds gs before hval0 hW _ _
  have hval : ∀ (j : Nat) t v, Try.f5.params[j]? = some t → args[j]? = some v → Value.okWide Try.prog W .any base t v := hval0
  have hW' := hW
  obtain ⟨p, q, hA0, hV, rfl, _, _⟩ := hW
  have hA : DataW.TrodAll enc Try.prog W 0 (fun _ => true) true Try.f5.params.toList args.toList ds p := hA0
  rw [Try.params5] at hA hval
  obtain ⟨v0, vs0, d0, ds0, p0, q0, hargs, rfl, rfl, h0, r0⟩ := trodAll_cons hA
  obtain ⟨v1, vs1, d1, ds1, p1, q1, rfl, rfl, rfl, h1, r1⟩ := trodAll_cons r0
  obtain ⟨v2, vs2, d2, ds2, p2, q2, rfl, rfl, rfl, h2, r2⟩ := trodAll_cons r1
  obtain ⟨rfl, rfl, rfl⟩ := trodAll_nil r2
  obtain rfl : args = #[v0, v1, v2] := by cases args; simp_all
  obtain ⟨rfl, rfl⟩ := trodVars_none hV
  obtain ⟨bits, rfl, rfl, rfl, wbits⟩ := open_int Try.underlying3 (hval 0 3 v0 rfl rfl) h0
  obtain ⟨a, rfl, rfl, rfl, wa⟩ := open_int Try.underlying22 (hval 1 22 v1 rfl rfl) h1
  obtain ⟨imm, rfl, rfl, rfl, wimm⟩ := open_int Try.underlying21 (hval 2 21 v2 rfl rfl) h2
  obtain ⟨lo_bits, hi_bits⟩ := bounds_i64 wbits
  obtain ⟨lo_a, hi_a⟩ := bounds_u64 wa
  obtain ⟨lo_imm, hi_imm⟩ := bounds_i32 wimm
  clear hA0 hval0
  refine (wordSwaps_walk bits a imm lo_bits (by omega) lo_a (by omega) lo_imm (by omega) W).mono fun e W' ⟨he, hb⟩ => ?_
  subst he
  exact ⟨_, rfl, law_shut laid hW' rfl rfl Try.underlying4 (by kernel_rfl) rfl rfl rfl hb⟩

theorem over : Rows.wordSwapsRow.holds Try.pinned (OpenSpec.ofChange Rows.wordSwapsSpec) :=
  OpenClaim.holds_of_wide 5 Try.f5 rfl rfl rfl rfl rfl rfl rfl ⟨rfl, rfl, rfl, rfl, rfl⟩ rfl rfl rfl rfl rfl (by kernel_rfl) Try.func5 (by kernel_rfl)
    (of_decide_eq_true (by kernel_rfl)) (by unfold Func.isWrapper; first | (rw [if_pos (by decide +kernel)]; kernel_rfl) | (rw [if_neg (by decide +kernel)]; exact ⟨rfl, rfl⟩))
    (fun os started H enc _ => lifted os started H enc)

theorem proved : Rows.WordSwapsSaid :=
  over
end wordSwaps

end Go.Proofs.Ytgemnkaiajdcfaa
