/-
  The code's takeMaps, takeCode, takeImage and Decode.
-/
import Derived.Test.YtolpgcoebmboeaaImI
import Derived.Test.YtolpgcoebmboeaaImT
namespace Go.Proofs.Ytolpgcoebmboeaa
set_option linter.unusedSimpArgs false
set_option linter.unusedVariables false
open Go.ChangeShapes Go.WideShapes Go.ChangeAt Go.RowKit

/-- What takeMaps tells. -/
def mE (zs : List Int) : Int := if zs.length < 1 then 4 else if 4 < nM zs then 5 else if zs.length < 1 + 4 * nM zs then 4 else 0
theorem own_but {w w' : World} {B b : Nat} {e : TypeId} {k n : Nat} {v : Value} {xs : List Value} (h : w.ownsRow b e k v n xs) (hb : But B w w') (hB : B < b) : w'.ownsRow b e k v n xs :=
  h.kept hb (by
    rcases h.2 with ⟨rfl, _⟩ | ⟨g, cap, cur, rfl, hg, _⟩
    · exact .inl rfl
    · exact .inr (by simp [Value.ownBlock]; omega))
theorem mAt_at (zs : List Int) (k : Nat) : cellsM (mAt zs k) = [.int .i64 (zs.getD k 0), .int .i64 (zs.getD (k + 1) 0), .int .i64 (zs.getD (k + 2) 0), .int .i64 (zs.getD (k + 3) 0)] := rfl
set_option maxHeartbeats 3200000 in
set_option maxRecDepth 20000 in
theorem takeMaps_any (n₀ B : Nat) (w : World) (zs : List Int) (hT : Tk n₀ B w zs) (hz : zs.length < 4611686018427387904) (hn : n₀ ≤ w.heap.size) :
    Calls Try.prog 28 #[.func (.func 22) #[] #[.pointer (some ⟨B, 0, none⟩)]] w fun e w' => But B w w' ∧
      ((mE zs = 0 ∧ ∃ v, e = .returned (.tuple #[v, .int .i64 0]) ∧ Tk n₀ B w' (zs.drop (1 + 4 * nM zs)) ∧ w'.ownsRow w.heap.size 48 4 v (nM zs) ((takeM (nM zs) (zs.drop 1)).flatMap cellsM)) ∨
       (mE zs ≠ 0 ∧ e = .returned (.tuple #[.slice none 0 0, .int .i64 (mE zs)]))) := by
  by_cases h1 : zs.length < 1
  · have hE : mE zs = 4 := by unfold mE; rw [if_pos h1]
    have HC := hid (cnt_short n₀ B w zs 1 4 hT h1 (by decide))
    clear h1 hT
    go_enter Try.func28, Try.ntmps28
    go_wp2_with (go_at_call 30; refine HC.out.mono ?_; rintro e w1 ⟨rfl, b1⟩)
    go_ret2
    exact ⟨But.of b1, .inr ⟨by rw [hE]; decide, ret_val (by rw [hE]; rfl)⟩⟩
  by_cases h2 : 4 < nM zs
  · have hE : mE zs = 5 := by unfold mE; rw [if_neg h1, if_pos h2]
    have HC := hid (cnt1_big n₀ B w zs 4 hT hz (by omega) h2)
    clear h1 h2 hT
    go_enter Try.func28, Try.ntmps28
    go_wp2_with (go_at_call 30; refine HC.out.mono ?_; rintro e w1 ⟨rfl, b1⟩)
    go_ret2
    exact ⟨b1, .inr ⟨by rw [hE]; decide, ret_val (by rw [hE]; rfl)⟩⟩
  have HC := hid (cnt1_ok n₀ B w zs 4 hT hz (by omega) (by omega))
  have hBw := hT.lt
  have hnB := hT.hB
  have hby := hT.by
  have HE := hid (show mE zs = if zs.length < 1 + 4 * nM zs then 4 else 0 by unfold mE; rw [if_neg h1, if_neg h2])
  have hN4 : nM zs ≤ 4 := by omega
  have hl1 : 1 ≤ zs.length := by omega
  clear h1 h2 hT
  go_enter Try.func28, Try.ntmps28
  go_wp2_with (go_at_call 30; refine HC.out.mono ?_; rintro e w1 ⟨rfl, T1, b1⟩)
  clear HC
  have HT1 := hid T1
  have HB1 := hid b1
  clear T1 b1
  generalize hNe : nM zs = N at *
  have HN := hid hNe
  clear hNe
  go_loopw [6, 18] (fun vv i wr => ∃ k : Nat, (k ≤ N ∧ 1 + 4 * k ≤ zs.length) ∧ i = .int .i64 k ∧ Hid (Tk n₀ B wr (zs.drop (1 + 4 * k))) ∧ Hid (wr.ownsRow w.heap.size 48 4 vv k ((takeM k (zs.drop 1)).flatMap cellsM)) ∧ Hid (But B w wr)) (fun _ i _ => N - (intOf i).toNat)
  case atStart => exact ⟨0, ⟨Nat.zero_le _, by omega⟩, rfl, HT1, hid (World.ownsRow_nil _ _ _ _), HB1⟩
  case round =>
    obtain ⟨k, ⟨hk, hkl⟩, rfl, HT, HO, HB⟩ := hrel
    have hsz := HB.out.size
    by_cases hlt : k < N
    · have hli : (k : Int) < (N : Int) := by omega
      by_cases hs : (zs.drop (1 + 4 * k)).length < 4
      · have HS := hid (take_short n₀ B wr (zs.drop (1 + 4 * k)) 4 HT.out hs (by rw [List.length_drop]; omega) (by decide))
        have hE : mE zs = 4 := by rw [HE.out, if_pos (by rw [List.length_drop] at hs; omega)]
        clear hs HE
        go_wp2_with (go_at_call 22; refine HS.out.mono ?_; rintro e w2 ⟨rfl, b2⟩)
        go_ret2
        exact ⟨HB.out.trans (But.of b2), .inr ⟨by rw [hE]; decide, ret_val (by rw [hE]; rfl)⟩⟩
      · have HS := hid (take_ok n₀ B wr (zs.drop (1 + 4 * k)) 4 HT.out (by omega) (by decide) (by rw [List.length_drop]; omega))
        have hq := fun j => getD_drop zs (1 + 4 * k) j
        have hs4 : 1 + 4 * (k + 1) ≤ zs.length := by rw [List.length_drop] at hs; omega
        clear hs HT
        go_wp2_with (go_at_call 22; refine HS.out.mono ?_; rintro e w2 ⟨p, rfl, hL, T2, b2, hs2⟩)
        clear HS
        have own2 := own_but HO.out b2 hBw
        have HB2 := hid (HB.out.trans b2)
        have HT2 := hid T2
        obtain ⟨g, o, rfl, hg, hc⟩ := hL.2.2.resolve_left (by decide)
        have r0 := hc 0 (by decide)
        have r1 := hc 1 (by decide)
        have r2 := hc 2 (by decide)
        have r3 := hc 3 (by decide)
        rw [getD_take _ _ _ (by decide), hq] at r0 r1 r2 r3
        rw [Nat.add_zero, Nat.add_zero] at r0
        obtain ⟨x00, x01⟩ := hby.at (1 + 4 * k)
        obtain ⟨x10, x11⟩ := hby.at (1 + 4 * k + 1)
        obtain ⟨x20, x21⟩ := hby.at (1 + 4 * k + 2)
        obtain ⟨x30, x31⟩ := hby.at (1 + 4 * k + 3)
        have HM := hid (show (takeM (k + 1) (zs.drop 1)).flatMap cellsM = (takeM k (zs.drop 1)).flatMap cellsM ++ [.int .i64 (zs.getD (1 + 4 * k) 0), .int .i64 (zs.getD (1 + 4 * k + 1) 0), .int .i64 (zs.getD (1 + 4 * k + 2) 0), .int .i64 (zs.getD (1 + 4 * k + 3) 0)] by
          rw [takeM_succ, List.flatMap_append, mAt_drop, List.flatMap_cons, List.flatMap_nil, List.append_nil, mAt_at])
        have HS2 := hid hs2
        clear hc hL T2 b2 hq HO HB hs2
        have hw2 : w.heap.size ≤ w2.heap.size := HB2.out.size
        generalize zs.getD (1 + 4 * k) 0 = x0 at *
        generalize zs.getD (1 + 4 * k + 1) 0 = x1 at *
        generalize zs.getD (1 + 4 * k + 2) 0 = x2 at *
        generalize zs.getD (1 + 4 * k + 3) 0 = x3 at *
        have e0 : wrap64 x0 = x0 := by unfold wrap64; omega
        have e1 : wrap64 x1 = x1 := by unfold wrap64; omega
        have e2 : wrap64 x2 = x2 := by unfold wrap64; omega
        have e3 : wrap64 x3 = x3 := by unfold wrap64; omega
        have i0 : IntKind.i64.wrap x0 = x0 := by rw [IntKind.wrap_i64]; omega
        have i1 : IntKind.i64.wrap x1 = x1 := by rw [IntKind.wrap_i64]; omega
        have i2 : IntKind.i64.wrap x2 = x2 := by rw [IntKind.wrap_i64]; omega
        have i3 : IntKind.i64.wrap x3 = x3 := by rw [IntKind.wrap_i64]; omega
        refine wp_region_held_drew (S := (fun w' : World => Below n₀ w2 w')) (by kernel_rfl) ?_ (fun hHeld => ?_)
        · exact (below_dr w2).mono (by omega)
        have hBk : Below n₀ w2 _ := hHeld
        refine tq 0 rfl (fun _ hS => by go_simp; try with_reducible rfl) ?_
        try simp only [s1, s2, s3]
        refine tq 1 rfl (fun _ hS => by go_simp; try with_reducible rfl) ?_
        try simp only [s1, s2, s3]
        refine tq 2 rfl (fun _ hS => by go_simp; try with_reducible rfl) ?_
        try simp only [s1, s2, s3]
        refine tq 3 rfl (fun _ hS => by have c0 := (hS.cell (p := ⟨g, o, none⟩) hg).trans r0; go_simp; try with_reducible rfl) ?_
        try simp only [s1, s2, s3]
        refine tq 4 rfl (fun _ hS => by go_simp; try with_reducible rfl) ?_
        try simp only [s1, s2, s3]
        refine tq 5 rfl (fun _ hS => by go_simp; try with_reducible rfl) ?_
        try simp only [s1, s2, s3]
        refine tq 6 rfl (fun _ hS => by go_simp; try with_reducible rfl) ?_
        try simp only [s1, s2, s3]
        refine tq 7 rfl (fun _ hS => by have c0 := (hS.cell (p := ⟨g, o + 1, none⟩) hg).trans r1; go_simp; try with_reducible rfl) ?_
        try simp only [s1, s2, s3]
        refine tq 8 rfl (fun _ hS => by go_simp; try with_reducible rfl) ?_
        try simp only [s1, s2, s3]
        refine tq 9 rfl (fun _ hS => by go_simp; try with_reducible rfl) ?_
        try simp only [s1, s2, s3]
        refine tq 10 rfl (fun _ hS => by go_simp; try with_reducible rfl) ?_
        try simp only [s1, s2, s3]
        refine tq 11 rfl (fun _ hS => by have c0 := (hS.cell (p := ⟨g, o + 2, none⟩) hg).trans r2; go_simp; try with_reducible rfl) ?_
        try simp only [s1, s2, s3]
        refine tq 12 rfl (fun _ hS => by go_simp; try with_reducible rfl) ?_
        try simp only [s1, s2, s3]
        refine tq 13 rfl (fun _ hS => by go_simp; try with_reducible rfl) ?_
        try simp only [s1, s2, s3]
        refine tq 14 rfl (fun _ hS => by go_simp; try with_reducible rfl) ?_
        try simp only [s1, s2, s3]
        refine tq 15 rfl (fun _ hS => by have c0 := (hS.cell (p := ⟨g, o + 3, none⟩) hg).trans r3; go_simp; try with_reducible rfl) ?_
        try simp only [s1, s2, s3]
        refine tq 16 rfl (fun _ hS => by go_simp; try with_reducible rfl) ?_
        try simp only [s1, s2, s3]
        refine tq 17 rfl (fun _ hS => by go_simp; try with_reducible rfl) ?_
        try simp only [s1, s2, s3]
        refine wpAnyH_ready (rs := [18]) (by kernel_rfl) (by simp) ?_
        refine AllReadyH.cons rfl (fun K hK => ?_) AllReadyH.nil
        go_simp
        refine hK.out _ _ ?_ (fun hHeld => ?_)
        · (try dsimp only); exact hBk.alloc (by simp; omega) _
        have hBn := hid hHeld
        clear hBk
        have hBk := hBn.out
        clear hBn
        clear hK K
        (try simp only [Act.put, List.setIfInBounds_toArray, List.set_cons_zero, List.set_cons_succ])
        refine wpAnyH_ready (rs := [19]) (by kernel_rfl) (by simp) ?_
        refine AllReadyH.cons rfl (fun K hK => ?_) AllReadyH.nil
        refine app_step 22 48 4 32 _ Try.underlying22 mapInfo rfl (by decide) rfl (.tmp 28) (.tmp 46) rfl w.heap.size w2 _ _ k ((takeM k (zs.drop 1)).flatMap cellsM) (by exact rfl) (own2.drew.alloc _) (((below_dr w2).mono (by omega)).alloc (by simp; omega) _) (by simp; omega) (w2.heap.size + 1) _ 1 1 [.int .i64 x0, .int .i64 x1, .int .i64 x2, .int .i64 x3] (by exact rfl) rfl (src_new4 w2 _ _ _ _ _) (by intro u hu; simp at hu; rcases hu with rfl | rfl | rfl | rfl <;> rfl) (by simp only [maxLen]; omega) (by omega) ?_
        intro v3 w3 own3 bel3 grow3 _
        refine hK.out _ _ ?_ (fun hHeld => ?_)
        · (try dsimp only); exact bel3.mono (by omega)
        have hBn := hid hHeld
        clear hBk
        have hBk := hBn.out
        clear hBn
        clear hK K
        (try simp only [Act.put, List.setIfInBounds_toArray, List.set_cons_zero, List.set_cons_succ])
        refine tq 20 rfl (fun _ hS => by go_simp; try with_reducible rfl) ?_
        try simp only [s1, s2, s3]
        refine wpAnyH_done (by kernel_rfl) ?_ _
        go_wp2
        go_roundw
        case rel =>
          have hT3 := HT2.out.grown (w' := w3) (row := _) ⟨grow3.os, grow3.tape, grow3.output, by have := grow3.size; simp at this; omega, fun j hj hne => by rw [grow3.block j (by simp; omega) hne]; exact (Below.heap_alloc _ _ _ hj)⟩ (fun j hj => by have := (own2.lt j hj).1; omega)
          have hB3 := HB2.out.by (n₀ := 0) (c := w3) (row := _) ⟨grow3.os, grow3.tape, grow3.output, by have := grow3.size; simp at this; omega, fun j hj hne => by rw [grow3.block j (by simp; omega) hne]; exact (Below.heap_alloc _ _ _ hj)⟩ (fun j hj => (own2.lt j hj).1)
          rw [List.drop_drop] at hT3
          exact ⟨k + 1, ⟨by omega, by omega⟩, by go_num, hid (by rw [show 1 + 4 * (k + 1) = 1 + 4 * k + 4 by omega]; exact hT3), hid (by rw [HM.out]; exact own3), hid hB3⟩
        case measure => simp [intOf]; omega
    · obtain rfl : k = N := by omega
      have hE : mE zs = 0 := by rw [HE.out, if_neg (by omega)]
      clear hlt
      go_wp2
      go_ret2
      exact ⟨HB.out, .inl ⟨hE, _, rfl, by rw [HN.out]; exact HT.out, by rw [HN.out]; exact HO.out⟩⟩

theorem decode_B (n₁ : Nat) (w : World) (p : Option Addr) (cap : Nat) (ys : List Int) (hL : ByL n₁ w p 8 ys) (hn : n₁ ≤ w.heap.size) :
    Calls Try.prog 31 #[.slice p 8 cap] w fun e w' => e = .returned (.tuple #[(iAt ys 0).V, .int .i64 0]) ∧ Below w.heap.size w w' := by
  obtain ⟨hl, hz, hc⟩ := hL
  obtain ⟨g, o, rfl, hg, hc⟩ := hc.resolve_left (by decide)
  have hb := fun j => byte_of hz j
  exact decode_8 g o cap _ _ _ _ _ _ _ _ w (by omega) (hb 0).1 (hb 0).2 (hb 1).1 (hb 1).2 (hb 2).1 (hb 2).2 (hb 3).1 (hb 3).2 (hb 4).1 (hb 4).2 (hb 5).1 (hb 5).2 (hb 6).1 (hb 6).2 (hb 7).1 (hb 7).2
    (hc 0 (by decide)) (hc 1 (by decide)) (hc 2 (by decide)) (hc 3 (by decide)) (hc 4 (by decide)) (hc 5 (by decide)) (hc 6 (by decide)) (hc 7 (by decide))
theorem iAt_take (zs : List Int) (k : Nat) : iAt ((zs.drop k).take 8) 0 = iAt zs k := by
  unfold iAt
  simp only [Nat.zero_add]
  rw [getD_take _ _ _ (by decide), getD_take _ _ _ (by decide), getD_take _ _ _ (by decide), getD_take _ _ _ (by decide), getD_take _ _ _ (by decide), getD_take _ _ _ (by decide), getD_take _ _ _ (by decide), getD_take _ _ _ (by decide)]
  simp only [getD_drop, Nat.add_zero]
/-- What takeCode tells. -/
def cE (zs : List Int) : Int := if zs.length < 2 then 4 else if 512 < nQ zs then 5 else if zs.length < 2 + 8 * nQ zs then 4 else 0
set_option maxHeartbeats 3200000 in
theorem takeCode_any (n₀ B : Nat) (w : World) (zs : List Int) (hT : Tk n₀ B w zs) (hz : zs.length < 4611686018427387904) (hn : n₀ ≤ w.heap.size) :
    Calls Try.prog 29 #[.func (.func 22) #[] #[.pointer (some ⟨B, 0, none⟩)]] w fun e w' => But B w w' ∧
      ((cE zs = 0 ∧ ∃ v, e = .returned (.tuple #[v, .int .i64 0]) ∧ Tk n₀ B w' (zs.drop (2 + 8 * nQ zs)) ∧ w'.ownsRow w.heap.size 51 5 v (nQ zs) ((takeI (nQ zs) (zs.drop 2)).flatMap cellsI)) ∨
       (cE zs ≠ 0 ∧ e = .returned (.tuple #[.slice none 0 0, .int .i64 (cE zs)]))) := by
  by_cases h1 : zs.length < 2
  · have hE : cE zs = 4 := by unfold cE; rw [if_pos h1]
    have HC := hid (cnt_short n₀ B w zs 2 512 hT h1 (by decide))
    clear h1 hT
    go_enter Try.func29, Try.ntmps29
    go_wp2_with (go_at_call 30; refine HC.out.mono ?_; rintro e w1 ⟨rfl, b1⟩)
    go_ret2
    exact ⟨But.of b1, .inr ⟨by rw [hE]; decide, ret_val (by rw [hE]; rfl)⟩⟩
  by_cases h2 : 512 < nQ zs
  · have hE : cE zs = 5 := by unfold cE; rw [if_neg h1, if_pos h2]
    have HC := hid (cnt2_big n₀ B w zs 512 hT hz (by omega) h2)
    clear h1 h2 hT
    go_enter Try.func29, Try.ntmps29
    go_wp2_with (go_at_call 30; refine HC.out.mono ?_; rintro e w1 ⟨rfl, b1⟩)
    go_ret2
    exact ⟨b1, .inr ⟨by rw [hE]; decide, ret_val (by rw [hE]; rfl)⟩⟩
  have HC := hid (cnt2_ok n₀ B w zs 512 hT hz (by omega) (by omega))
  have hBw := hT.lt
  have hnB := hT.hB
  have hby := hT.by
  have HE := hid (show cE zs = if zs.length < 2 + 8 * nQ zs then 4 else 0 by unfold cE; rw [if_neg h1, if_neg h2])
  have hN4 : nQ zs ≤ 512 := by omega
  have hl1 : 2 ≤ zs.length := by omega
  clear h1 h2 hT
  go_enter Try.func29, Try.ntmps29
  go_wp2_with (go_at_call 30; refine HC.out.mono ?_; rintro e w1 ⟨rfl, T1, b1⟩)
  clear HC
  have HT1 := hid T1
  have HB1 := hid b1
  clear T1 b1
  generalize hNe : nQ zs = N at *
  have HN := hid hNe
  clear hNe
  go_loopw [6, 19] (fun vv i wr => ∃ k : Nat, (k ≤ N ∧ 2 + 8 * k ≤ zs.length) ∧ i = .int .i64 k ∧ Hid (Tk n₀ B wr (zs.drop (2 + 8 * k))) ∧ Hid (wr.ownsRow w.heap.size 51 5 vv k ((takeI k (zs.drop 2)).flatMap cellsI)) ∧ Hid (But B w wr)) (fun _ i _ => N - (intOf i).toNat)
  case atStart => exact ⟨0, ⟨Nat.zero_le _, by omega⟩, rfl, HT1, hid (World.ownsRow_nil _ _ _ _), HB1⟩
  case round =>
    obtain ⟨k, ⟨hk, hkl⟩, rfl, HT, HO, HB⟩ := hrel
    have hsz := HB.out.size
    by_cases hlt : k < N
    · have hli : (k : Int) < (N : Int) := by omega
      by_cases hs : (zs.drop (2 + 8 * k)).length < 8
      · have HS := hid (take_short n₀ B wr (zs.drop (2 + 8 * k)) 8 HT.out hs (by rw [List.length_drop]; omega) (by decide))
        have hE : cE zs = 4 := by rw [HE.out, if_pos (by rw [List.length_drop] at hs; omega)]
        clear hs HE
        go_wp2_with (go_at_call 22; refine HS.out.mono ?_; rintro e w2 ⟨rfl, b2⟩)
        go_ret2
        exact ⟨HB.out.trans (But.of b2), .inr ⟨by rw [hE]; decide, ret_val (by rw [hE]; rfl)⟩⟩
      · have HS := hid (take_ok n₀ B wr (zs.drop (2 + 8 * k)) 8 HT.out (by omega) (by decide) (by rw [List.length_drop]; omega))
        have hs4 : 2 + 8 * (k + 1) ≤ zs.length := by rw [List.length_drop] at hs; omega
        have HM := hid (show (takeI (k + 1) (zs.drop 2)).flatMap cellsI = (takeI k (zs.drop 2)).flatMap cellsI ++ cellsI (iAt zs (2 + 8 * k)) by
          rw [takeI_succ, List.flatMap_append, iAt_drop, List.flatMap_cons, List.flatMap_nil, List.append_nil])
        clear hs HT
        go_wp2_with (go_at_call 22; refine HS.out.mono ?_; rintro e w2 ⟨p, rfl, hL, T2, b2, hs2⟩)
        clear HS
        have own2 := own_but HO.out b2 hBw
        have HB2 := hid (HB.out.trans b2)
        have HT2 := hid T2
        have hw2 : w.heap.size ≤ w2.heap.size := HB2.out.size
        have HD := hid (decode_B n₀ w2 p 8 _ hL (by omega))
        rw [iAt_take] at HD
        clear hL T2 b2 HO HB hs2
        generalize iAt zs (2 + 8 * k) = x at *
        obtain ⟨x0, x1, x2, x3, x4⟩ := x
        unfold I5.V at HD
        dsimp only at HD
        go_wp2_with fail
        refine HD.out.mono ?_
        rintro e w3 ⟨rfl, b3⟩
        have own3 := own2.kept (row := none) ⟨b3.os, b3.tape, b3.output, b3.size, fun k hk _ => b3.block k hk⟩ (by
          rcases own2.2 with ⟨h, _⟩ | ⟨g, cap, cur, h, _⟩
          · exact .inl (by rw [h]; rfl)
          · exact .inr (by rw [h]; simp [Value.ownBlock]))
        have HT3 := hid (HT2.out.kept b3)
        have HB3 := hid (HB2.out.trans (But.of b3))
        have hw3 := b3.size
        have SR := src_new5 (w3.alloc (.cells #[.int .u8 x0, .int .u8 x1, .int .u8 x2, .int .i16 x3, .int .i32 x4] 51)) (.int .u8 x0) (.int .u8 x1) (.int .u8 x2) (.int .i16 x3) (.int .i32 x4) 51
        rw [World.size_alloc] at SR
        have SR' := hid SR
        have HE0 := hid own3
        have BL := hid (((Below.refl w.heap.size w3).alloc (by omega) (.cells #[.int .u8 x0, .int .u8 x1, .int .u8 x2, .int .i16 x3, .int .i32 x4] 51)).alloc (by simp; omega) (.cells #[.int .u8 x0, .int .u8 x1, .int .u8 x2, .int .i16 x3, .int .i32 x4] 51))
        clear SR b3 own3 HD
        go_wp2_with (at_builtin; refine app_own 23 51 5 12 _ Try.underlying23 insInfo rfl (by decide) rfl (.tmp 37) (.tmp 39) rfl w.heap.size w3 _ _ k ((takeI k (zs.drop 2)).flatMap cellsI) (by exact rfl) ((HE0.out.alloc _).alloc _) BL.out (by simp; omega) (w3.heap.size + 1 + 1) _ 1 1 (cellsI ⟨x0, x1, x2, x3, x4⟩) (by exact rfl) rfl SR'.out (by intro u hu; simp [cellsI] at hu; rcases hu with rfl | rfl | rfl | rfl | rfl <;> rfl) (by simp only [maxLen]; omega) (by omega) ?_; intro v4 w4 own4 bel4 grow4 _)
        go_roundw
        case rel =>
          have grow5 : w3.grownBy w4 u6.ownBlock := ⟨grow4.os, grow4.tape, grow4.output, by have := grow4.size; simp at this; omega, fun j hj hne => by rw [grow4.block j (by simp; omega) hne, Below.heap_alloc _ _ _ (by simp; omega)]; exact (Below.heap_alloc _ _ _ hj)⟩
          have hT4 := HT3.out.grown grow5 (fun j hj => by have := (HE0.out.lt j hj).1; omega)
          have hB4 := HB3.out.by (n₀ := 0) grow5 (fun j hj => (HE0.out.lt j hj).1)
          rw [List.drop_drop] at hT4
          exact ⟨k + 1, ⟨by omega, by omega⟩, by go_num, hid (by rw [show 2 + 8 * (k + 1) = 2 + 8 * k + 8 by omega]; exact hT4), hid (by rw [HM.out]; exact own4), hid hB4⟩
        case measure => simp [intOf]; omega
    · obtain rfl : k = N := by omega
      have hE : cE zs = 0 := by rw [HE.out, if_neg (by omega)]
      clear hlt
      go_wp2
      go_ret2
      exact ⟨HB.out, .inl ⟨hE, _, rfl, by rw [HN.out]; exact HT.out, by rw [HN.out]; exact HO.out⟩⟩
end Go.Proofs.Ytolpgcoebmboeaa
