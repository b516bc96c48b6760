/-
  ImageCut: the law's walk.
-/
import Derived.Test.YtolpgcoebmboeaaImN
namespace Go.Proofs.Ytolpgcoebmboeaa
set_option linter.unusedSimpArgs false
set_option linter.unusedVariables false
open Go.ChangeShapes Go.WideShapes Go.ChangeAt Go.RowKit

theorem tmod_nat (a b : Nat) : Int.tmod (a : Int) (b : Int) = ((a % b : Nat) : Int) := rfl
theorem cut_nums {n a : Nat} (h0 : 0 < n) (ha : a < 65536) : ∃ r : Nat, r < n ∧ ((n : Int) == 0) = false ∧ wrap64 (a : Int) = (a : Int) ∧ Int.tmod (a : Int) (n : Int) = (r : Int) ∧ wrap64 (r : Int) = (r : Int) := by
  have h1 : a % n ≤ a := Nat.mod_le _ _
  refine ⟨a % n, Nat.mod_lt _ h0, by simp; omega, by unfold wrap64; omega, tmod_nat a n, ?_⟩
  generalize a % n = r at *
  unfold wrap64
  omega
theorem num_s0 {n : Nat} (h : n < 20000) : 0 + n < 140737488355328 := by omega
theorem num_s1 {n : Nat} (h : n < 20000) : n + 1 < 140737488355328 := by omega
theorem big_of {r n : Nat} (h : r < n) (hn : n < 20000) : r < 4611686018427387904 := by omega
theorem dec_lens (zs : List Int) (h : decE zs ≠ 0) : dL zs = [] ∧ dC zs = [] := by unfold dL dC; rw [if_neg h, if_neg h]; exact ⟨rfl, rfl⟩
theorem slice_first (p : Option Addr) (n cap r : Nat) (hr : r ≤ n) (hc : n ≤ cap) (h0 : 0 < n) {w : World} {zs : List Int} (hL : ByL w.heap.size w p n zs) : ∀ W, (Instr.slice 29 (.slice p n cap) none (some (.int .i64 (r : Int))) none).run Try.prog W = .ok (.slice p r cap) W := by
  intro W
  obtain ⟨g, o, rfl, _, _⟩ := hL.2.2.resolve_left (by omega)
  have h1 : ¬ cap = 0 := by omega
  have h2 : r ≤ cap := by omega
  simp [go_sem, Try.underlying29, h1, h2]
theorem by_first {n₀ : Nat} {w : World} {p : Option Addr} {n r : Nat} {zs : List Int} (h : ByL n₀ w p n zs) (hr : r ≤ n) : ByL n₀ w p r (zs.take r) := by
  obtain ⟨h1, h2, h3⟩ := h
  refine ⟨by rw [List.length_take]; omega, fun z hz => h2 z (List.mem_of_mem_take hz), ?_⟩
  rcases h3 with h3 | ⟨g, o, rfl, hg, hc⟩
  · exact .inl (by omega)
  · exact .inr ⟨g, o, rfl, hg, fun j hj => by rw [getD_take _ _ _ hj]; exact hc j (by omega)⟩
set_option maxHeartbeats 3200000 in
set_option maxRecDepth 20000 in
theorem imageCut_walk (pm pc : Option Addr) (cm cc : Nat) (l : List M4) (c : List I5) (at_ : Nat) (mo : Int) (w : World) (hS : ImS w.heap.size w pm l pc c) (ha : at_ < 65536) (hm0 : 0 ≤ mo) (hm1 : mo < 256) :
    Calls Try.prog 7 #[.agg #[.slice pm l.length cm, .slice pc c.length cc], .int .u16 (at_ : Int), .int .u8 mo] w fun e w' => e = .returned (.bool true) ∧ Below w.heap.size w w' := by
  have hB := (Below.refl w.heap.size w).alloc (Nat.le_refl _) (.cells #[.slice pm l.length cm, .slice pc c.length cc] 25)
  have hq : (w.alloc (.cells #[.slice pm l.length cm, .slice pc c.length cc] 25)).heap.size = w.heap.size + 1 := World.size_alloc _ _
  have k0 : (w.alloc (.cells #[.slice pm l.length cm, .slice pc c.length cc] 25)).cell? ⟨w.heap.size, 0, none⟩ = some (.slice pm l.length cm) := by simp
  have k1 : (w.alloc (.cells #[.slice pm l.length cm, .slice pc c.length cc] 25)).cell? ⟨w.heap.size, 1, none⟩ = some (.slice pc c.length cc) := by simp
  have HLG := hid (large_any pm pc cm cc l.length c.length (w.alloc (.cells #[.slice pm l.length cm, .slice pc c.length cc] 25)))
  have HWK := hid wakes_any
  have HS := hid ((hS.kept hB (Nat.le_refl _)).wide (show w.heap.size ≤ (w.alloc (.cells #[.slice pm l.length cm, .slice pc c.length cc] 25)).heap.size by omega))
  have HB := hid hB
  clear hB hS
  go_enter Try.func7, Try.ntmps7
  go_wp2_with fail
  generalize w.alloc (.cells #[.slice pm l.length cm, .slice pc c.length cc] 25) = W0 at *
  refine HLG.out.mono ?_
  rintro e w1 ⟨rfl, b1⟩
  have HB1 := hid (HB.out.trans (b1.mono (by omega)))
  have HS1 := hid ((HS.out.kept b1 (Nat.le_refl _)).wide b1.size)
  replace k0 := cn b1 k0
  replace k1 := cn b1 k1
  clear b1 HS HB HLG
  cases hlg : (decide (100 < l.length) || decide (2000 < c.length))
  rotate_left
  · go_wp2_with fail
    refine (HWK.out _).mono ?_
    rintro e w2 ⟨rfl, b2⟩
    go_wp2
    go_ret
    exact ⟨rfl, below_next HB1.out b2⟩
  have hsm : l.length ≤ 100 ∧ c.length ≤ 2000 := by simpa using hlg
  have HSM := hid hsm
  have HE := hid (cEncode_any pm pc cm cc l c w1 HS1.out.m HS1.out.c)
  have HOK := hid HS1.out.c.2.1
  clear hlg hsm HS1
  go_wp2_with fail
  refine HE.out.mono ?_
  clear HE
  rintro e w2 (⟨hE, v, rfl, O⟩ | ⟨hE, rfl, b2⟩)
  rotate_left
  · have d0 : (encE l c != 0) = true := by simpa using hE
    have HB2 := hid (below_next HB1.out b2)
    clear hE b2
    go_wp2_with fail
    refine (HWK.out _).mono ?_
    rintro e w3 ⟨rfl, b3⟩
    go_wp2
    go_ret
    exact ⟨rfl, below_next HB2.out b3⟩
  obtain ⟨hD, _, _⟩ := dec_form hE HOK.out
  have hY := By.form hE HOK.out
  obtain ⟨pa, ca, rfl, hca, La⟩ := own_by O.own hY
  have hlen := form_len l c
  have HB2 := hid (below_next HB1.out O.bel)
  have HLa := hid La
  have HY := hid hY
  have HD := hid hD
  have hN : 3 + 4 * l.length + 8 * c.length < 20000 := by have := HSM.out; omega
  have hN0 : 0 < 3 + 4 * l.length + 8 * c.length := by omega
  clear O La hE hY hD HSM HOK k0 k1 HB1
  generalize formB l c = zs at *
  generalize 3 + 4 * l.length + 8 * c.length = n at *
  subst hlen
  obtain ⟨r, hrl, t0, t1, t2, t22⟩ := cut_nums hN0 ha
  have hsl := slice_first pa zs.length ca r (Nat.le_of_lt hrl) hca hN0 HLa.out
  have lr : (zs.take r).length = r := List.length_take_of_le (Nat.le_of_lt hrl)
  have HL1 := hid (by_first HLa.out (Nat.le_of_lt hrl))
  have HDe := hid (cDecode_any pa ca (zs.take r) w2 (by rw [lr]; exact HL1.out) (by rw [lr]; exact Nat.le_trans (Nat.le_of_lt hrl) hca) (by rw [lr]; exact big_of hrl hN))
  rw [lr] at HDe
  have HCT := hid (dec_cut HD.out hrl)
  have HNN := hid hN
  clear hN
  go_wp2_with fail
  refine HDe.out.mono ?_
  rintro e w3 ⟨p1, c1, p2, c2, rfl, I3, b3, _, _⟩
  rw [HCT.out, (dec_lens _ (by rw [HCT.out]; decide)).1, (dec_lens _ (by rw [HCT.out]; decide)).2]
  have HB3 := hid (below_next HB2.out b3)
  have HL3 := hid (by_kept HLa.out (Nat.le_refl _) b3)
  clear HDe I3 b3 HL1 HB2 hsl t2 t22 t1 hca
  have HBx := hid ((Below.refl w3.heap.size w3).alloc (Nat.le_refl _) (.cells #[.slice p1 0 c1, .slice p2 0 c2] 25))
  have HB4 := hid (below_next HB3.out HBx.out)
  have HL4 := hid (by_kept HL3.out (Nat.le_refl _) HBx.out)
  try simp only [List.length_nil]
  go_wp2_with (at_builtin; first
    | (refine app_bl rfl (.const (.slice none 0 0)) (.tmp 39) rfl (w3.alloc (.cells #[.slice p1 0 c1, .slice p2 0 c2] 25)).heap.size (w3.alloc (.cells #[.slice p1 0 c1, .slice p2 0 c2] 25)) _ _ 0 [] zs (by exact rfl) (ByO.nil (Below.refl _ _) (Nat.le_refl _)) _ _ _ _ (by exact rfl) HL4.out (num_s0 HNN.out) ?_; intro v5 w5 O5 _; rw [List.nil_append, Nat.zero_add] at O5)
    | (refine app_b1 rfl (.tmp 40) (.tmp 42) rfl _ _ _ _ _ _ _ (by exact rfl) O5 _ (by exact rfl) (by simp) (num_s1 HNN.out) ?_; intro v6 w6 O6))
  have hY6 : By (zs ++ [mo]) := By.app HY.out (fun z hz => by rw [List.mem_singleton.1 hz]; exact ⟨hm0, hm1⟩)
  obtain ⟨p6, c6, rfl, hc6, L6⟩ := own_by O6.own hY6
  have HB6 := hid (below_next HB4.out O6.bel)
  have HL6 := hid L6
  have ln : (zs ++ [mo]).length = zs.length + 1 := by rw [List.length_append]; rfl
  have HD6 := hid (cDecode_any p6 c6 (zs ++ [mo]) w6 (by rw [ln]; exact HL6.out) (by rw [ln]; exact hc6) (by rw [ln]; have := HNN.out; omega))
  rw [ln] at HD6
  have HM6 := hid (dec_more HD.out mo)
  clear O6 hY6 hc6 L6 O5 hrl
  refine HD6.out.mono ?_
  rintro e w7 ⟨p3, c3, p4, c4, rfl, I7, b7, _, _⟩
  rw [HM6.out, (dec_lens _ (by rw [HM6.out]; decide)).1, (dec_lens _ (by rw [HM6.out]; decide)).2]
  have HB7 := hid (below_next HB6.out b7)
  clear HD6 I7 b7 HB6 HL6
  try simp only [List.length_nil]
  go_wp2_with fail
  refine (HWK.out _).mono ?_
  rintro e w8 ⟨rfl, b8⟩
  have HB8 := hid (below_next HB7.out (below_next ((Below.refl w7.heap.size w7).alloc (Nat.le_refl _) _) b8))
  clear b8
  go_wp2
  go_ret
  exact ⟨rfl, HB8.out⟩
end Go.Proofs.Ytolpgcoebmboeaa
