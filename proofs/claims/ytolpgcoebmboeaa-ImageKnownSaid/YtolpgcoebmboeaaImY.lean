/-
  ImageKnown: the rows, and the walk.
-/
import Derived.Test.YtolpgcoebmboeaaImX
namespace Go.Proofs.Ytolpgcoebmboeaa
set_option linter.unusedSimpArgs false
set_option linter.unusedVariables false
open Go.ChangeShapes Go.WideShapes Go.ChangeAt Go.RowKit

theorem rep_mp (n j : Nat) : mpA (List.replicate n zM) j = zM := by
  unfold mpA
  rw [List.getD_eq_getElem?_getD, List.getElem?_replicate]
  split <;> rfl
theorem rep_cd (n j : Nat) : at5 (List.replicate n zI) j = zI := by
  unfold at5
  rw [List.getD_eq_getElem?_getD, List.getElem?_replicate]
  split <;> rfl
def MZm (n : Nat) : Array Value := madeCells (Value.agg #[.int .i64 0, .int .i64 0, .int .i64 0, .int .i64 0]).cells (n * 4)
def MZc (n : Nat) : Array Value := madeCells (Value.agg #[.int .u8 0, .int .u8 0, .int .u8 0, .int .i16 0, .int .i32 0]).cells (n * 5)
theorem mp_made (n : Nat) (hn : n ≤ 1000) (W : World) : MpSl (W.alloc (.cells (MZm n) 48)).heap.size (W.alloc (.cells (MZm n) 48)) (some ⟨W.heap.size, 0, none⟩) n (List.replicate n zM) := by
  refine ⟨List.length_replicate, by omega, .inr ⟨_, 0, rfl, by simp, fun j hj => ?_⟩⟩
  rw [rep_mp]
  have hc : ∀ i, i < 4 → (W.alloc (.cells (MZm n) 48)).cell? ⟨W.heap.size, 0 + j * 4 + i, none⟩ = some (.int .i64 0) := by
    intro i hi
    rw [World.cell?_alloc_at _ _ _ _ rfl]
    unfold MZm
    rw [made_at _ _ _ (by omega), show (0 + j * 4 + i) % (Value.agg #[.int .i64 0, .int .i64 0, .int .i64 0, .int .i64 0]).cells.size = i by show (0 + j * 4 + i) % 4 = i; omega]
    rcases (by omega : i = 0 ∨ i = 1 ∨ i = 2 ∨ i = 3) with rfl | rfl | rfl | rfl <;> rfl
  exact ⟨hc 0 (by omega), hc 1 (by omega), hc 2 (by omega), hc 3 (by omega)⟩
theorem cd_made (n : Nat) (hn : n ≤ 1000) (W : World) : CdSl (W.alloc (.cells (MZc n) 51)).heap.size (W.alloc (.cells (MZc n) 51)) (some ⟨W.heap.size, 0, none⟩) n (List.replicate n zI) := by
  refine ⟨List.length_replicate, fun x hx => by rw [(List.mem_replicate.1 hx).2]; exact zI_ok, by omega, .inr ⟨_, 0, rfl, by simp, fun j hj => ?_⟩⟩
  rw [rep_cd]
  have hc : ∀ i, i < 5 → (W.alloc (.cells (MZc n) 51)).cell? ⟨W.heap.size, 0 + j * 5 + i, none⟩ = (cellsI zI)[i]? := by
    intro i hi
    rw [World.cell?_alloc_at _ _ _ _ rfl]
    unfold MZc
    rw [made_at _ _ _ (by omega), show (0 + j * 5 + i) % (Value.agg #[.int .u8 0, .int .u8 0, .int .u8 0, .int .i16 0, .int .i32 0]).cells.size = i by show (0 + j * 5 + i) % 5 = i; omega]
    rcases (by omega : i = 0 ∨ i = 1 ∨ i = 2 ∨ i = 3 ∨ i = 4) with rfl | rfl | rfl | rfl | rfl <;> rfl
  exact ⟨hc 0 (by omega), hc 1 (by omega), hc 2 (by omega), hc 3 (by omega), hc 4 (by omega)⟩
theorem mkM (n : Nat) (hn : n ≤ 100000) (W : World) : (Instr.makeSlice 22 (.int .i64 n) (.int .i64 n)).run Try.prog W = .ok (.slice (some ⟨W.heap.size, 0, none⟩) n n) (W.alloc (.cells (MZm n) 48)) :=
  mk_any 22 48 _ 4 32 Try.underlying22 mapInfo (by decide) n hn W
theorem mkC (n : Nat) (hn : n ≤ 100000) (W : World) : (Instr.makeSlice 23 (.int .i64 n) (.int .i64 n)).run Try.prog W = .ok (.slice (some ⟨W.heap.size, 0, none⟩) n n) (W.alloc (.cells (MZc n) 51)) :=
  mk_any 23 51 _ 5 12 Try.underlying23 insInfo (by decide) n hn W
theorem st_maps {ops : Array Oper} {o : Oper} {a : Act} {w : World} {K : Act → World → Prop} {Q : Exit → Act → World → Prop} {E : Prop} (n : Nat) (hn : n ≤ 1000) (hgd : o.guard = none)
    (ho : o.op = .makeSlice 22 (.const (.int .i64 n)) (.const (.int .i64 n)))
    (h : ∀ w' g, MpSl w'.heap.size w' (some ⟨g, 0, none⟩) n (List.replicate n zM) → Below w.heap.size w w' → K (a.put o.dst (.slice (some ⟨g, 0, none⟩) n n)) w') :
    if Region.wanted o (yielded ops a.tmps) = true then Oper.wp Try.prog o a w K Q else E := by
  have hw : Region.wanted o (yielded ops a.tmps) = true := by simp [Region.wanted, hgd]
  rw [if_pos hw]
  unfold Oper.wp execOp
  simp only [ho, Sem.run_bind, Sem.run_pure, Result.andThen_ok, Act.eval, mkM n (by omega) w]
  exact h _ _ (mp_made n hn w) ((Below.refl _ _).alloc (Nat.le_refl _) _)
theorem st_code {ops : Array Oper} {o : Oper} {a : Act} {w : World} {K : Act → World → Prop} {Q : Exit → Act → World → Prop} {E : Prop} (n : Nat) (hn : n ≤ 1000) (hgd : o.guard = none)
    (ho : o.op = .makeSlice 23 (.const (.int .i64 n)) (.const (.int .i64 n)))
    (h : ∀ w' g, CdSl w'.heap.size w' (some ⟨g, 0, none⟩) n (List.replicate n zI) → Below w.heap.size w w' → K (a.put o.dst (.slice (some ⟨g, 0, none⟩) n n)) w') :
    if Region.wanted o (yielded ops a.tmps) = true then Oper.wp Try.prog o a w K Q else E := by
  have hw : Region.wanted o (yielded ops a.tmps) = true := by simp [Region.wanted, hgd]
  rw [if_pos hw]
  unfold Oper.wp execOp
  simp only [ho, Sem.run_bind, Sem.run_pure, Result.andThen_ok, Act.eval, mkC n (by omega) w]
  exact h _ _ (cd_made n hn w) ((Below.refl _ _).alloc (Nat.le_refl _) _)
theorem all_rep_m (n : Nat) : (List.replicate n zM).all mOk = true := List.all_eq_true.2 (fun x hx => by rw [(List.mem_replicate.1 hx).2]; decide)
theorem all_rep_i (n : Nat) : (List.replicate n zI).all iOk = true := List.all_eq_true.2 (fun x hx => by rw [(List.mem_replicate.1 hx).2]; decide)
/-- Encode of as much as may be. -/
theorem enc_full (g1 g2 : Nat) (w : World) (hm : MpSl w.heap.size w (some ⟨g1, 0, none⟩) 4 (List.replicate 4 zM)) (hc : CdSl w.heap.size w (some ⟨g2, 0, none⟩) 512 (List.replicate 512 zI)) :
    Calls Try.prog 12 #[.agg #[.slice (some ⟨g1, 0, none⟩) 4 4, .slice (some ⟨g2, 0, none⟩) 512 512]] w fun e w' => ∃ p c, e = .returned (.tuple #[.slice p 4115 c, .int .i64 0]) ∧ Below w.heap.size w w' := by
  have l1 : (List.replicate 4 zM).length = 4 := List.length_replicate
  have l2 : (List.replicate 512 zI).length = 512 := List.length_replicate
  have h := cEncode_any (some ⟨g1, 0, none⟩) (some ⟨g2, 0, none⟩) 4 512 (List.replicate 4 zM) (List.replicate 512 zI) w (by rw [l1]; exact hm) (by rw [l2]; exact hc)
  rw [l1, l2] at h
  refine h.mono fun e w' h => ?_
  have hE : encE (List.replicate 4 zM) (List.replicate 512 zI) = 0 := encE_mk (by rw [l1]; omega) (by rw [l2]; omega) (all_rep_m 4) (all_rep_i 512)
  obtain ⟨_, v, rfl, O⟩ := h.resolve_right (fun h => h.1 hE)
  rw [l1, l2] at O
  obtain ⟨p, cap, rfl, _⟩ := own_slice O.own
  exact ⟨p, cap, rfl, O.bel⟩
theorem enc_m5 (g : Nat) (w : World) (hm : MpSl w.heap.size w (some ⟨g, 0, none⟩) 5 (List.replicate 5 zM)) :
    Calls Try.prog 12 #[.agg #[.slice (some ⟨g, 0, none⟩) 5 5, .slice none 0 0]] w fun e w' => e = .returned (.tuple #[.slice none 0 0, .int .i64 3]) ∧ Below w.heap.size w w' := by
  have l1 : (List.replicate 5 zM).length = 5 := List.length_replicate
  have h := cEncode_any (some ⟨g, 0, none⟩) none 5 0 (List.replicate 5 zM) [] w (by rw [l1]; exact hm) ⟨rfl, (fun x h => by cases h), by decide, .inl rfl⟩
  rw [l1] at h
  have hE : encE (List.replicate 5 zM) [] = 3 := by unfold encE; rw [if_pos (by rw [l1]; omega)]
  refine h.mono fun e w' h => ?_
  obtain ⟨_, he, hb⟩ := h.resolve_left (fun h => by rw [hE] at h; exact absurd h.1 (by decide))
  rw [hE] at he
  exact ⟨he, hb⟩
theorem enc_c513 (g : Nat) (w : World) (hc : CdSl w.heap.size w (some ⟨g, 0, none⟩) 513 (List.replicate 513 zI)) :
    Calls Try.prog 12 #[.agg #[.slice none 0 0, .slice (some ⟨g, 0, none⟩) 513 513]] w fun e w' => e = .returned (.tuple #[.slice none 0 0, .int .i64 3]) ∧ Below w.heap.size w w' := by
  have l2 : (List.replicate 513 zI).length = 513 := List.length_replicate
  have h := cEncode_any none (some ⟨g, 0, none⟩) 0 513 [] (List.replicate 513 zI) w ⟨rfl, by decide, .inl rfl⟩ (by rw [l2]; exact hc)
  rw [l2] at h
  have hE : encE [] (List.replicate 513 zI) = 3 := by unfold encE; rw [if_neg (by decide), if_pos (by rw [l2]; omega)]
  refine h.mono fun e w' h => ?_
  obtain ⟨_, he, hb⟩ := h.resolve_left (fun h => by rw [hE] at h; exact absurd h.1 (by decide))
  rw [hE] at he
  exact ⟨he, hb⟩
theorem mp_lit (m : M4) (W : World) : MpSl (W.heap.size + 1) (W.alloc (.cells (cellsM m).toArray 48)) (some ⟨W.heap.size, 0, none⟩) 1 [m] := by
  refine ⟨rfl, by decide, .inr ⟨_, 0, rfl, Nat.lt_succ_self _, fun j hj => ?_⟩⟩
  obtain rfl : j = 0 := Nat.lt_one_iff.1 hj
  refine ⟨?_, ?_, ?_, ?_⟩ <;> (rw [World.cell?_alloc_at _ _ _ _ rfl]; rfl)
theorem cd_lit (x : I5) (hx : x.ok) (W : World) : CdSl (W.heap.size + 1) (W.alloc (.cells (cellsI x).toArray 51)) (some ⟨W.heap.size, 0, none⟩) 1 [x] := by
  refine ⟨rfl, fun y hy => by rw [List.mem_singleton.1 hy]; exact hx, by decide, .inr ⟨_, 0, rfl, Nat.lt_succ_self _, fun j hj => ?_⟩⟩
  obtain rfl : j = 0 := Nat.lt_one_iff.1 hj
  refine ⟨?_, ?_, ?_, ?_, ?_⟩ <;> (rw [World.cell?_alloc_at _ _ _ _ rfl]; rfl)
theorem enc_bad (k : Int) (pm pc : Option Addr) (n m cm cc : Nat) (l : List M4) (c : List I5) (hl : l.length = n) (hc' : c.length = m) (hE : encE l c = k) (hk : k ≠ 0) (w : World) (hm : MpSl w.heap.size w pm n l) (hc : CdSl w.heap.size w pc m c) :
    Calls Try.prog 12 #[.agg #[.slice pm n cm, .slice pc m cc]] w fun e w' => e = .returned (.tuple #[.slice none 0 0, .int .i64 k]) ∧ Below w.heap.size w w' := by
  subst hl hc'
  refine (cEncode_any pm pc cm cc l c w hm hc).mono fun e w' h => ?_
  obtain ⟨_, he, hb⟩ := h.resolve_left (fun h => by rw [hE] at h; exact hk h.1)
  rw [hE] at he
  exact ⟨he, hb⟩

theorem num_str {n : Nat} (h : n ≤ 65537) : n < 4611686018427387904 := by omega
theorem by_str (W : World) (C : Obj) (s : ByteArray) (h : ∀ j, j < s.size → (W.drew.alloc C).cell? ⟨W.heap.size, j, none⟩ = some (.int .u8 ((bL s).getD j 0))) :
    ByL (W.drew.alloc C).heap.size (W.drew.alloc C) (some ⟨W.heap.size, 0, none⟩) (bL s).length (bL s) :=
  ⟨rfl, bL_by s, .inr ⟨_, 0, rfl, by rw [World.size_alloc]; exact Nat.lt_succ_self _, fun j hj => by rw [Nat.zero_add]; exact h j (by rw [← bL_len]; exact hj)⟩⟩

set_option maxHeartbeats 3200000 in
set_option maxRecDepth 20000 in
theorem imageKnown_walk (w : World) : Calls Try.prog 8 #[] w fun e w' => e = .returned (.bool true) ∧ Below w.heap.size w w' := by
  have HWK := hid wakes_any
  have HROWS := hid row_dec
  go_enter Try.func8, Try.ntmps8
  go_wp2
  refine cutS [17, 18, 19, 20, 21, 22, 23, 24, 25, 26, 27, 28, 29, 30, 31, 32, 33] (fun us W' => ∃ g, us.getD 14 undef = .slice (some ⟨g, 0, none⟩) 10 10 ∧ us.getD 15 undef = .int .i64 10 ∧ us.getD 16 undef = .int .i64 0 ∧ Below w.heap.size w W' ∧ RowsAt (ZB 65537) (ZB 65536) g W') ?_ ?_
  · clear HROWS HWK
    refine wp_region_held_drew (S := (fun w' : World => Below w.heap.size w w')) (by kernel_rfl) ?_ (fun hHeld => ?_)
    · exact below_dr w
    have hBk := below_dr w
    clear hHeld
    refine tq 0 rfl (fun _ hS => by go_simp; try with_reducible rfl) ?_
    try simp only [s1, s2, s3]
    refine tq 1 rfl (fun _ hS => by go_simp; try with_reducible rfl) ?_
    try simp only [s1, s2, s3]
    refine tq 2 rfl (fun _ hS => by go_simp; try with_reducible rfl) ?_
    try simp only [s1, s2, s3]
    refine tq 3 rfl (fun _ hS => by go_simp; try with_reducible rfl) ?_
    try simp only [s1, s2, s3]
    refine tq 4 rfl (fun _ hS => by go_simp; try with_reducible rfl) ?_
    try simp only [s1, s2, s3]
    refine tq 5 rfl (fun _ hS => by go_simp; try with_reducible rfl) ?_
    try simp only [s1, s2, s3]
    refine tq 6 rfl (fun _ hS => by go_simp; try with_reducible rfl) ?_
    try simp only [s1, s2, s3]
    refine tq 7 rfl (fun _ hS => by go_simp; try with_reducible rfl) ?_
    try simp only [s1, s2, s3]
    refine tq 16 rfl (fun _ hS => by go_simp; try with_reducible rfl) ?_
    try simp only [s1, s2, s3]
    refine wpAnyH_ready (rs := [8, 11]) (by kernel_rfl) (by simp) ?_
    refine AllReadyH.cons rfl (fun K hK => ?_) (AllReadyH.cons rfl (fun K hK => ?_) AllReadyH.nil)
    · refine st_make 65537 (by omega) rfl rfl ?_
      intro wz1 gz1 hz1 bz1
      have hBn := below_next hBk bz1
      clear hBk
      have hBk := hBn
      clear hBn
      refine hK.out _ _ ?_ (fun hHeld => ?_)
      · (try dsimp only); exact hBk
      clear hK K hHeld
      (try simp only [Act.put, List.setIfInBounds_toArray, List.set_cons_zero, List.set_cons_succ])
      refine wpAnyH_ready (rs := [9, 11]) (by kernel_rfl) (by simp) ?_
      refine AllReadyH.cons rfl (fun K hK => ?_) (AllReadyH.cons rfl (fun K hK => ?_) AllReadyH.nil)
      · refine st_conv 65537 gz1 (.tmp 25) rfl rfl (by exact rfl) hz1 ?_
        refine hK.out _ _ ?_ (fun hHeld => ?_)
        · (try dsimp only); exact hBk
        clear hK K hHeld
        (try simp only [Act.put, List.setIfInBounds_toArray, List.set_cons_zero, List.set_cons_succ])
        refine tq 10 rfl (fun _ hS => by go_simp; try with_reducible rfl) ?_
        try simp only [s1, s2, s3]
        refine wpAnyH_ready (rs := [11]) (by kernel_rfl) (by simp) ?_
        refine AllReadyH.cons rfl (fun K hK => ?_) AllReadyH.nil
        refine st_make 65536 (by omega) rfl rfl ?_
        intro wz2 gz2 hz2 bz2
        have hy2_8 := fun j (hj : j < 65537) => cn bz2 (hz1 j hj)
        have hBn := below_next hBk bz2
        clear hBk
        have hBk := hBn
        clear hBn
        refine hK.out _ _ ?_ (fun hHeld => ?_)
        · (try dsimp only); exact hBk
        clear hK K hHeld
        (try simp only [Act.put, List.setIfInBounds_toArray, List.set_cons_zero, List.set_cons_succ])
        refine wpAnyH_ready (rs := [12]) (by kernel_rfl) (by simp) ?_
        refine AllReadyH.cons rfl (fun K hK => ?_) AllReadyH.nil
        refine st_conv 65536 gz2 (.tmp 28) rfl rfl (by exact rfl) hz2 ?_
        refine hK.out _ _ ?_ (fun hHeld => ?_)
        · (try dsimp only); exact hBk
        clear hK K hHeld
        (try simp only [Act.put, List.setIfInBounds_toArray, List.set_cons_zero, List.set_cons_succ])
        refine tq 13 rfl (fun _ hS => by go_simp; try with_reducible rfl) ?_
        try simp only [s1, s2, s3]
        refine wpAnyH_ready (rs := [14]) (by kernel_rfl) (by simp) ?_
        refine AllReadyH.cons rfl (fun K hK => ?_) AllReadyH.nil
        go_simp
        have HROW := rows_new (ZB 65537) (ZB 65536) wz2 45
        have hBn := hBk.alloc hBk.size (.cells (rowsC (ZB 65537) (ZB 65536)).toArray 45)
        clear hBk
        have hBk := hBn
        clear hBn
        unfold rowsC at HROW hBk
        refine hK.out _ _ ?_ (fun hHeld => ?_)
        · (try dsimp only); exact hBk
        clear hK K hHeld
        (try simp only [Act.put, List.setIfInBounds_toArray, List.set_cons_zero, List.set_cons_succ])
        refine tq 15 rfl (fun _ hS => by go_simp; try with_reducible rfl) ?_
        try simp only [s1, s2, s3]
        refine wpAnyH_done (by kernel_rfl) ?_ _
        exact cutEnd ⟨_, by kernel_rfl, by kernel_rfl, by kernel_rfl, hBk, HROW⟩ (by kernel_rfl)
      · refine st_make 65536 (by omega) rfl rfl ?_
        intro wz3 gz3 hz3 bz3
        have hy3_8 := fun j (hj : j < 65537) => cn bz3 (hz1 j hj)
        have hBn := below_next hBk bz3
        clear hBk
        have hBk := hBn
        clear hBn
        refine hK.out _ _ ?_ (fun hHeld => ?_)
        · (try dsimp only); exact hBk
        clear hK K hHeld
        (try simp only [Act.put, List.setIfInBounds_toArray, List.set_cons_zero, List.set_cons_succ])
        refine wpAnyH_ready (rs := [9, 12]) (by kernel_rfl) (by simp) ?_
        refine AllReadyH.cons rfl (fun K hK => ?_) (AllReadyH.cons rfl (fun K hK => ?_) AllReadyH.nil)
        · refine st_conv 65537 gz1 (.tmp 25) rfl rfl (by exact rfl) hy3_8 ?_
          refine hK.out _ _ ?_ (fun hHeld => ?_)
          · (try dsimp only); exact hBk
          clear hK K hHeld
          (try simp only [Act.put, List.setIfInBounds_toArray, List.set_cons_zero, List.set_cons_succ])
          refine tq 10 rfl (fun _ hS => by go_simp; try with_reducible rfl) ?_
          try simp only [s1, s2, s3]
          refine wpAnyH_ready (rs := [12]) (by kernel_rfl) (by simp) ?_
          refine AllReadyH.cons rfl (fun K hK => ?_) AllReadyH.nil
          refine st_conv 65536 gz3 (.tmp 28) rfl rfl (by exact rfl) hz3 ?_
          refine hK.out _ _ ?_ (fun hHeld => ?_)
          · (try dsimp only); exact hBk
          clear hK K hHeld
          (try simp only [Act.put, List.setIfInBounds_toArray, List.set_cons_zero, List.set_cons_succ])
          refine tq 13 rfl (fun _ hS => by go_simp; try with_reducible rfl) ?_
          try simp only [s1, s2, s3]
          refine wpAnyH_ready (rs := [14]) (by kernel_rfl) (by simp) ?_
          refine AllReadyH.cons rfl (fun K hK => ?_) AllReadyH.nil
          go_simp
          have HROW := rows_new (ZB 65537) (ZB 65536) wz3 45
          have hBn := hBk.alloc hBk.size (.cells (rowsC (ZB 65537) (ZB 65536)).toArray 45)
          clear hBk
          have hBk := hBn
          clear hBn
          unfold rowsC at HROW hBk
          refine hK.out _ _ ?_ (fun hHeld => ?_)
          · (try dsimp only); exact hBk
          clear hK K hHeld
          (try simp only [Act.put, List.setIfInBounds_toArray, List.set_cons_zero, List.set_cons_succ])
          refine tq 15 rfl (fun _ hS => by go_simp; try with_reducible rfl) ?_
          try simp only [s1, s2, s3]
          refine wpAnyH_done (by kernel_rfl) ?_ _
          exact cutEnd ⟨_, by kernel_rfl, by kernel_rfl, by kernel_rfl, hBk, HROW⟩ (by kernel_rfl)
        · refine st_conv 65536 gz3 (.tmp 28) rfl rfl (by exact rfl) hz3 ?_
          refine hK.out _ _ ?_ (fun hHeld => ?_)
          · (try dsimp only); exact hBk
          clear hK K hHeld
          (try simp only [Act.put, List.setIfInBounds_toArray, List.set_cons_zero, List.set_cons_succ])
          refine tq 13 rfl (fun _ hS => by go_simp; try with_reducible rfl) ?_
          try simp only [s1, s2, s3]
          refine wpAnyH_ready (rs := [9]) (by kernel_rfl) (by simp) ?_
          refine AllReadyH.cons rfl (fun K hK => ?_) AllReadyH.nil
          refine st_conv 65537 gz1 (.tmp 25) rfl rfl (by exact rfl) hy3_8 ?_
          refine hK.out _ _ ?_ (fun hHeld => ?_)
          · (try dsimp only); exact hBk
          clear hK K hHeld
          (try simp only [Act.put, List.setIfInBounds_toArray, List.set_cons_zero, List.set_cons_succ])
          refine tq 10 rfl (fun _ hS => by go_simp; try with_reducible rfl) ?_
          try simp only [s1, s2, s3]
          refine wpAnyH_ready (rs := [14]) (by kernel_rfl) (by simp) ?_
          refine AllReadyH.cons rfl (fun K hK => ?_) AllReadyH.nil
          go_simp
          have HROW := rows_new (ZB 65537) (ZB 65536) wz3 45
          have hBn := hBk.alloc hBk.size (.cells (rowsC (ZB 65537) (ZB 65536)).toArray 45)
          clear hBk
          have hBk := hBn
          clear hBn
          unfold rowsC at HROW hBk
          refine hK.out _ _ ?_ (fun hHeld => ?_)
          · (try dsimp only); exact hBk
          clear hK K hHeld
          (try simp only [Act.put, List.setIfInBounds_toArray, List.set_cons_zero, List.set_cons_succ])
          refine tq 15 rfl (fun _ hS => by go_simp; try with_reducible rfl) ?_
          try simp only [s1, s2, s3]
          refine wpAnyH_done (by kernel_rfl) ?_ _
          exact cutEnd ⟨_, by kernel_rfl, by kernel_rfl, by kernel_rfl, hBk, HROW⟩ (by kernel_rfl)
    · refine st_make 65536 (by omega) rfl rfl ?_
      intro wz4 gz4 hz4 bz4
      have hBn := below_next hBk bz4
      clear hBk
      have hBk := hBn
      clear hBn
      refine hK.out _ _ ?_ (fun hHeld => ?_)
      · (try dsimp only); exact hBk
      clear hK K hHeld
      (try simp only [Act.put, List.setIfInBounds_toArray, List.set_cons_zero, List.set_cons_succ])
      refine wpAnyH_ready (rs := [8, 12]) (by kernel_rfl) (by simp) ?_
      refine AllReadyH.cons rfl (fun K hK => ?_) (AllReadyH.cons rfl (fun K hK => ?_) AllReadyH.nil)
      · refine st_make 65537 (by omega) rfl rfl ?_
        intro wz5 gz5 hz5 bz5
        have hy5_11 := fun j (hj : j < 65536) => cn bz5 (hz4 j hj)
        have hBn := below_next hBk bz5
        clear hBk
        have hBk := hBn
        clear hBn
        refine hK.out _ _ ?_ (fun hHeld => ?_)
        · (try dsimp only); exact hBk
        clear hK K hHeld
        (try simp only [Act.put, List.setIfInBounds_toArray, List.set_cons_zero, List.set_cons_succ])
        refine wpAnyH_ready (rs := [9, 12]) (by kernel_rfl) (by simp) ?_
        refine AllReadyH.cons rfl (fun K hK => ?_) (AllReadyH.cons rfl (fun K hK => ?_) AllReadyH.nil)
        · refine st_conv 65537 gz5 (.tmp 25) rfl rfl (by exact rfl) hz5 ?_
          refine hK.out _ _ ?_ (fun hHeld => ?_)
          · (try dsimp only); exact hBk
          clear hK K hHeld
          (try simp only [Act.put, List.setIfInBounds_toArray, List.set_cons_zero, List.set_cons_succ])
          refine tq 10 rfl (fun _ hS => by go_simp; try with_reducible rfl) ?_
          try simp only [s1, s2, s3]
          refine wpAnyH_ready (rs := [12]) (by kernel_rfl) (by simp) ?_
          refine AllReadyH.cons rfl (fun K hK => ?_) AllReadyH.nil
          refine st_conv 65536 gz4 (.tmp 28) rfl rfl (by exact rfl) hy5_11 ?_
          refine hK.out _ _ ?_ (fun hHeld => ?_)
          · (try dsimp only); exact hBk
          clear hK K hHeld
          (try simp only [Act.put, List.setIfInBounds_toArray, List.set_cons_zero, List.set_cons_succ])
          refine tq 13 rfl (fun _ hS => by go_simp; try with_reducible rfl) ?_
          try simp only [s1, s2, s3]
          refine wpAnyH_ready (rs := [14]) (by kernel_rfl) (by simp) ?_
          refine AllReadyH.cons rfl (fun K hK => ?_) AllReadyH.nil
          go_simp
          have HROW := rows_new (ZB 65537) (ZB 65536) wz5 45
          have hBn := hBk.alloc hBk.size (.cells (rowsC (ZB 65537) (ZB 65536)).toArray 45)
          clear hBk
          have hBk := hBn
          clear hBn
          unfold rowsC at HROW hBk
          refine hK.out _ _ ?_ (fun hHeld => ?_)
          · (try dsimp only); exact hBk
          clear hK K hHeld
          (try simp only [Act.put, List.setIfInBounds_toArray, List.set_cons_zero, List.set_cons_succ])
          refine tq 15 rfl (fun _ hS => by go_simp; try with_reducible rfl) ?_
          try simp only [s1, s2, s3]
          refine wpAnyH_done (by kernel_rfl) ?_ _
          exact cutEnd ⟨_, by kernel_rfl, by kernel_rfl, by kernel_rfl, hBk, HROW⟩ (by kernel_rfl)
        · refine st_conv 65536 gz4 (.tmp 28) rfl rfl (by exact rfl) hy5_11 ?_
          refine hK.out _ _ ?_ (fun hHeld => ?_)
          · (try dsimp only); exact hBk
          clear hK K hHeld
          (try simp only [Act.put, List.setIfInBounds_toArray, List.set_cons_zero, List.set_cons_succ])
          refine tq 13 rfl (fun _ hS => by go_simp; try with_reducible rfl) ?_
          try simp only [s1, s2, s3]
          refine wpAnyH_ready (rs := [9]) (by kernel_rfl) (by simp) ?_
          refine AllReadyH.cons rfl (fun K hK => ?_) AllReadyH.nil
          refine st_conv 65537 gz5 (.tmp 25) rfl rfl (by exact rfl) hz5 ?_
          refine hK.out _ _ ?_ (fun hHeld => ?_)
          · (try dsimp only); exact hBk
          clear hK K hHeld
          (try simp only [Act.put, List.setIfInBounds_toArray, List.set_cons_zero, List.set_cons_succ])
          refine tq 10 rfl (fun _ hS => by go_simp; try with_reducible rfl) ?_
          try simp only [s1, s2, s3]
          refine wpAnyH_ready (rs := [14]) (by kernel_rfl) (by simp) ?_
          refine AllReadyH.cons rfl (fun K hK => ?_) AllReadyH.nil
          go_simp
          have HROW := rows_new (ZB 65537) (ZB 65536) wz5 45
          have hBn := hBk.alloc hBk.size (.cells (rowsC (ZB 65537) (ZB 65536)).toArray 45)
          clear hBk
          have hBk := hBn
          clear hBn
          unfold rowsC at HROW hBk
          refine hK.out _ _ ?_ (fun hHeld => ?_)
          · (try dsimp only); exact hBk
          clear hK K hHeld
          (try simp only [Act.put, List.setIfInBounds_toArray, List.set_cons_zero, List.set_cons_succ])
          refine tq 15 rfl (fun _ hS => by go_simp; try with_reducible rfl) ?_
          try simp only [s1, s2, s3]
          refine wpAnyH_done (by kernel_rfl) ?_ _
          exact cutEnd ⟨_, by kernel_rfl, by kernel_rfl, by kernel_rfl, hBk, HROW⟩ (by kernel_rfl)
      · refine st_conv 65536 gz4 (.tmp 28) rfl rfl (by exact rfl) hz4 ?_
        refine hK.out _ _ ?_ (fun hHeld => ?_)
        · (try dsimp only); exact hBk
        clear hK K hHeld
        (try simp only [Act.put, List.setIfInBounds_toArray, List.set_cons_zero, List.set_cons_succ])
        refine tq 13 rfl (fun _ hS => by go_simp; try with_reducible rfl) ?_
        try simp only [s1, s2, s3]
        refine wpAnyH_ready (rs := [8]) (by kernel_rfl) (by simp) ?_
        refine AllReadyH.cons rfl (fun K hK => ?_) AllReadyH.nil
        refine st_make 65537 (by omega) rfl rfl ?_
        intro wz6 gz6 hz6 bz6
        have hy6_11 := fun j (hj : j < 65536) => cn bz6 (hz4 j hj)
        have hBn := below_next hBk bz6
        clear hBk
        have hBk := hBn
        clear hBn
        refine hK.out _ _ ?_ (fun hHeld => ?_)
        · (try dsimp only); exact hBk
        clear hK K hHeld
        (try simp only [Act.put, List.setIfInBounds_toArray, List.set_cons_zero, List.set_cons_succ])
        refine wpAnyH_ready (rs := [9]) (by kernel_rfl) (by simp) ?_
        refine AllReadyH.cons rfl (fun K hK => ?_) AllReadyH.nil
        refine st_conv 65537 gz6 (.tmp 25) rfl rfl (by exact rfl) hz6 ?_
        refine hK.out _ _ ?_ (fun hHeld => ?_)
        · (try dsimp only); exact hBk
        clear hK K hHeld
        (try simp only [Act.put, List.setIfInBounds_toArray, List.set_cons_zero, List.set_cons_succ])
        refine tq 10 rfl (fun _ hS => by go_simp; try with_reducible rfl) ?_
        try simp only [s1, s2, s3]
        refine wpAnyH_ready (rs := [14]) (by kernel_rfl) (by simp) ?_
        refine AllReadyH.cons rfl (fun K hK => ?_) AllReadyH.nil
        go_simp
        have HROW := rows_new (ZB 65537) (ZB 65536) wz6 45
        have hBn := hBk.alloc hBk.size (.cells (rowsC (ZB 65537) (ZB 65536)).toArray 45)
        clear hBk
        have hBk := hBn
        clear hBn
        unfold rowsC at HROW hBk
        refine hK.out _ _ ?_ (fun hHeld => ?_)
        · (try dsimp only); exact hBk
        clear hK K hHeld
        (try simp only [Act.put, List.setIfInBounds_toArray, List.set_cons_zero, List.set_cons_succ])
        refine tq 15 rfl (fun _ hS => by go_simp; try with_reducible rfl) ?_
        try simp only [s1, s2, s3]
        refine wpAnyH_done (by kernel_rfl) ?_ _
        exact cutEnd ⟨_, by kernel_rfl, by kernel_rfl, by kernel_rfl, hBk, HROW⟩ (by kernel_rfl)
  intro u u17 u18 u19 u20 u21 u22 u23 u24 u25 u26 u27 u28 u29 u30 u31 u32 u33 hF
  obtain ⟨gq, e31, e32, e33, hB0, hR0⟩ := hF
  replace e31 : u31 = .slice (some ⟨gq, 0, none⟩) 10 10 := e31
  replace e32 : u32 = .int .i64 10 := e32
  replace e33 : u33 = .int .i64 0 := e33
  subst e31 e32 e33
  simp only [sets, s1, s2, s3]
  try simp only [Exit.then]
  have HB0 := hid hB0
  have HR0 := hid hR0
  clear hB0 hR0
  generalize ZB 65537 = ZA at *
  generalize ZB 65536 = ZC at *
  go_wp2
  go_loopw [33] (fun i wr => ∃ k : Nat, k ≤ 10 ∧ i = .int .i64 k ∧ Hid (Below u.heap.size u wr)) (fun i _ => 10 - (intOf i).toNat)
  case atStart => exact ⟨0, Nat.zero_le _, rfl, hid (Below.refl _ _)⟩
  case round =>
    obtain ⟨k, hk, rfl, HR⟩ := hrel
    by_cases hlt : k < 10
    · have hli : (k : Int) < 10 := by omega
      obtain ⟨h1, h2, h3, h4⟩ := HROWS.out k hlt
      have hrw := HR0.out.kept HR.out
      have r0 := hrw.s k hlt
      have r1 := hrw.e k hlt
      generalize (RS ZA ZC).getD k ⟨#[]⟩ = s at *
      generalize RE.getD k 0 = x at *
      have H1 := hid h1
      have H2 := hid h2
      have H3 := hid h3
      have H4 := hid h4
      clear h1 h2 h3 h4 hrw
      have HBX := hid ((Below.refl wr.heap.size wr).alloc (Nat.le_refl _) (.cells #[.string s, .int .i64 x] 45))
      have q0 : wr.heap.size < (wr.alloc (.cells #[.string s, .int .i64 x] 45)).heap.size := by simp
      have y0 : (wr.alloc (.cells #[.string s, .int .i64 x] 45)).cell? ⟨wr.heap.size, 0, none⟩ = some (.string s) := by simp
      have y1 : (wr.alloc (.cells #[.string s, .int .i64 x] 45)).cell? ⟨wr.heap.size, 1, none⟩ = some (.int .i64 x) := by simp
      have hq1 : (wr.alloc (.cells #[.string s, .int .i64 x] 45)).heap.size = wr.heap.size + 1 := World.size_alloc _ _
      obtain ⟨cap, C, hcv, hcp, hcc⟩ := conv_str (wr.alloc (.cells #[.string s, .int .i64 x] 45)) s
      have HBC := hid ((below_dr (wr.alloc (.cells #[.string s, .int .i64 x] 45))).alloc (Nat.le_refl _) C)
      have HLs := hid (by_str (wr.alloc (.cells #[.string s, .int .i64 x] 45)) C s hcc)
      have HD := hid (cDecode_any _ cap (bL s) _ HLs.out (by rw [bL_len]; exact hcp) (by rw [bL_len]; exact num_str H4.out))
      rw [bL_len, hq1] at HD
      clear hcc
      go_wp2_with fail
      refine HD.out.mono ?_
      rintro e w5 ⟨pm5, cm5, pc5, cc5, rfl, S5, b5, _, _⟩
      rw [H1.out, H2.out, H3.out]
      have b15 := hid (below_next HBC.out b5)
      replace y0 := cn b15.out y0
      replace y1 := cn b15.out y1
      have q5 : wr.heap.size < w5.heap.size := World.block_lt_of_cell? w5 _ y0
      have HR5 := hid (below_next (below_next HR.out HBX.out) b15.out)
      clear S5 b5 HD HBC HLs hcv hcp HBX b15 q0 hq1 r0 r1 H1 H2 H3 H4
      go_wp2
      go_roundw
      case rel => exact ⟨k + 1, by omega, by go_num, hid (HR5.out.alloc HR5.out.size _)⟩
      case measure => simp [intOf]; omega
    · obtain rfl : k = 10 := by omega
      have HB1 := hid (below_next HB0.out HR.out)
      clear hlt HR HR0 HB0 HROWS
      go_wp2
      refine wp_region_held_drew (S := (fun w' : World => Below wr.heap.size wr w')) (by kernel_rfl) ?_ (fun hHeld => ?_)
      · exact below_dr wr
      have hBk := below_dr wr
      clear hHeld
      refine wpAnyH_ready (rs := [0, 1]) (by kernel_rfl) (by simp) ?_
      refine AllReadyH.cons rfl (fun K hK => ?_) (AllReadyH.cons rfl (fun K hK => ?_) AllReadyH.nil)
      · refine st_maps 4 (by omega) rfl rfl ?_
        intro wm1 gm hm bm1
        have hBn := below_next hBk bm1
        clear hBk
        have hBk := hBn
        clear hBn
        refine hK.out _ _ ?_ (fun hHeld => ?_)
        · (try dsimp only); exact hBk
        clear hK K hHeld
        (try simp only [Act.put, List.setIfInBounds_toArray, List.set_cons_zero, List.set_cons_succ])
        refine wpAnyH_ready (rs := [1]) (by kernel_rfl) (by simp) ?_
        refine AllReadyH.cons rfl (fun K hK => ?_) AllReadyH.nil
        refine st_code 512 (by omega) rfl rfl ?_
        intro wm2 gc hc bm2
        have hBn := below_next hBk bm2
        clear hBk
        have hBk := hBn
        clear hBn
        have hm2 := (hm.kept bm2 (Nat.le_refl _)).wide bm2.size
        refine hK.out _ _ ?_ (fun hHeld => ?_)
        · (try dsimp only); exact hBk
        clear hK K hHeld
        (try simp only [Act.put, List.setIfInBounds_toArray, List.set_cons_zero, List.set_cons_succ])
        refine tq 2 rfl (fun _ hS => by go_simp; try with_reducible rfl) ?_
        try simp only [s1, s2, s3]
        refine wpAnyH_ready (rs := [3]) (by kernel_rfl) (by simp) ?_
        refine AllReadyH.cons rfl (fun K hK => ?_) AllReadyH.nil
        go_simp
        go_at_call 12
        refine (enc_full gm gc wm2 hm2 hc).mono ?_
        rintro e wn ⟨pe, ce, rfl, bn⟩
        have hBn := below_next hBk bn
        clear hBk
        have hBk := hBn
        clear hBn
        try go_simp
        refine hK.out _ _ ?_ (fun hHeld => ?_)
        · (try dsimp only); exact hBk
        clear hK K hHeld
        (try simp only [Act.put, List.setIfInBounds_toArray, List.set_cons_zero, List.set_cons_succ])
        refine tq 4 rfl (fun _ hS => by go_simp; try with_reducible rfl) ?_
        try simp only [s1, s2, s3]
        refine tq 5 rfl (fun _ hS => by go_simp; try with_reducible rfl) ?_
        try simp only [s1, s2, s3]
        refine tq 6 rfl (fun _ hS => by go_simp; try with_reducible rfl) ?_
        try simp only [s1, s2, s3]
        refine tq 7 rfl (fun _ hS => by go_simp; try with_reducible rfl) ?_
        try simp only [s1, s2, s3]
        refine tq 8 rfl (fun _ hS => by go_simp; try with_reducible rfl) ?_
        try simp only [s1, s2, s3]
        refine wpAnyH_done (by kernel_rfl) ?_ _
        have HB2 := hid (below_next HB1.out hBk)
        clear hBk
        have mk5 : ∀ W, (Instr.makeSlice 22 (.int .i64 5) (.int .i64 5)).run Try.prog W = .ok (.slice (some ⟨W.heap.size, 0, none⟩) 5 5) (W.alloc (.cells (MZm 5) 48)) := mkM 5 (by omega)
        have mk513 : ∀ W, (Instr.makeSlice 23 (.int .i64 513) (.int .i64 513)).run Try.prog W = .ok (.slice (some ⟨W.heap.size, 0, none⟩) 513 513) (W.alloc (.cells (MZc 513) 51)) := mkC 513 (by omega)
        have HM5 := hid (mp_made 5 (by omega))
        have HC513 := hid (cd_made 513 (by omega))
        generalize MZm 5 = M5 at *
        generalize MZc 513 = C5 at *
        go_wp2_with fail
        have b3 := (Below.refl wn.heap.size wn).alloc (Nat.le_refl _) (.cells M5 48)
        refine (enc_m5 wn.heap.size _ (HM5.out wn)).mono ?_
        rintro e w3 ⟨rfl, c3⟩
        have HB3 := hid (below_next HB2.out (below_next b3 c3))
        clear b3 c3
        go_wp2_with fail
        have b4 := (Below.refl w3.heap.size w3).alloc (Nat.le_refl _) (.cells C5 51)
        refine (enc_c513 w3.heap.size _ (HC513.out w3)).mono ?_
        rintro e w4 ⟨rfl, c4⟩
        have HB4 := hid (below_next HB3.out (below_next b4 c4))
        clear b4 c4 mk5 mk513 HM5 HC513
        go_wp2_with fail
        have b5 := (Below.refl w4.heap.size w4).alloc (Nat.le_refl _) (.cells (cellsM (⟨0, 0, 0, 256⟩ : M4)).toArray 48)
        have b5' := (Below.refl (w4.alloc (.cells (cellsM (⟨0, 0, 0, 256⟩ : M4)).toArray 48)).heap.size (w4.alloc (.cells (cellsM (⟨0, 0, 0, 256⟩ : M4)).toArray 48))).alloc (Nat.le_refl _) (.cells (cellsI (⟨0, 16, 0, 0, 0⟩ : I5)).toArray 51)
        have q5 : (w4.alloc (.cells (cellsM (⟨0, 0, 0, 256⟩ : M4)).toArray 48)).heap.size = w4.heap.size + 1 := World.size_alloc _ _
        have m5 := ((mp_lit ⟨0, 0, 0, 256⟩ w4).kept b5' (by rw [q5]; exact Nat.le_refl _)).wide (show w4.heap.size + 1 ≤ ((w4.alloc (.cells (cellsM (⟨0, 0, 0, 256⟩ : M4)).toArray 48)).alloc (.cells (cellsI (⟨0, 16, 0, 0, 0⟩ : I5)).toArray 51)).heap.size by simp)
        have c5 := (cd_lit ⟨0, 16, 0, 0, 0⟩ (by unfold I5.ok; decide) (w4.alloc (.cells (cellsM (⟨0, 0, 0, 256⟩ : M4)).toArray 48))).wide (show _ ≤ ((w4.alloc (.cells (cellsM (⟨0, 0, 0, 256⟩ : M4)).toArray 48)).alloc (.cells (cellsI (⟨0, 16, 0, 0, 0⟩ : I5)).toArray 51)).heap.size by simp)
        rw [q5] at c5
        refine (enc_bad 26 (some ⟨w4.heap.size, 0, none⟩) (some ⟨w4.heap.size + 1, 0, none⟩) 1 1 1 1 [⟨0, 0, 0, 256⟩] [⟨0, 16, 0, 0, 0⟩] rfl rfl (by decide) (by decide) _ m5 c5).mono ?_
        rintro e w5 ⟨rfl, d5⟩
        have HB5 := hid (below_next HB4.out (below_next b5 (below_next b5' d5)))
        clear b5 b5' q5 m5 c5 d5
        go_wp2_with fail
        have b6 := (Below.refl w5.heap.size w5).alloc (Nat.le_refl _) (.cells (cellsI (⟨0, 16, 0, 0, 0⟩ : I5)).toArray 51)
        have c6 := (cd_lit ⟨0, 16, 0, 0, 0⟩ (by unfold I5.ok; decide) w5).wide (show w5.heap.size + 1 ≤ (w5.alloc (.cells (cellsI (⟨0, 16, 0, 0, 0⟩ : I5)).toArray 51)).heap.size by simp)
        refine (enc_bad 21 none (some ⟨w5.heap.size, 0, none⟩) 0 1 0 1 [] [⟨0, 16, 0, 0, 0⟩] rfl rfl (by decide) (by decide) _ ⟨rfl, by decide, .inl rfl⟩ c6).mono ?_
        rintro e w6 ⟨rfl, d6⟩
        have HB6 := hid (below_next HB5.out (below_next b6 d6))
        clear b6 c6 d6
        go_wp2_with fail
        have b7 := (Below.refl w6.heap.size w6).alloc (Nat.le_refl _) (.cells (cellsM (⟨-1, 0, 0, 0⟩ : M4)).toArray 48)
        have m7 := (mp_lit ⟨-1, 0, 0, 0⟩ w6).wide (show w6.heap.size + 1 ≤ (w6.alloc (.cells (cellsM (⟨-1, 0, 0, 0⟩ : M4)).toArray 48)).heap.size by simp)
        refine (enc_bad 26 (some ⟨w6.heap.size, 0, none⟩) none 1 0 1 0 [⟨-1, 0, 0, 0⟩] [] rfl rfl (by decide) (by decide) _ m7 ⟨rfl, (fun x h => by cases h), by decide, .inl rfl⟩).mono ?_
        rintro e w7 ⟨rfl, d7⟩
        have HB7 := hid (below_next HB6.out (below_next b7 d7))
        clear b7 m7 d7
        go_wp2_with fail
        refine (HWK.out _).mono ?_
        rintro e w8 ⟨rfl, b8⟩
        go_wp2
        go_ret
        exact ⟨rfl, below_next HB7.out b8⟩
      · refine st_code 512 (by omega) rfl rfl ?_
        intro wm1 gc hc bm1
        have hBn := below_next hBk bm1
        clear hBk
        have hBk := hBn
        clear hBn
        refine hK.out _ _ ?_ (fun hHeld => ?_)
        · (try dsimp only); exact hBk
        clear hK K hHeld
        (try simp only [Act.put, List.setIfInBounds_toArray, List.set_cons_zero, List.set_cons_succ])
        refine wpAnyH_ready (rs := [0]) (by kernel_rfl) (by simp) ?_
        refine AllReadyH.cons rfl (fun K hK => ?_) AllReadyH.nil
        refine st_maps 4 (by omega) rfl rfl ?_
        intro wm2 gm hm bm2
        have hBn := below_next hBk bm2
        clear hBk
        have hBk := hBn
        clear hBn
        have hc2 := (hc.kept bm2 (Nat.le_refl _)).wide bm2.size
        refine hK.out _ _ ?_ (fun hHeld => ?_)
        · (try dsimp only); exact hBk
        clear hK K hHeld
        (try simp only [Act.put, List.setIfInBounds_toArray, List.set_cons_zero, List.set_cons_succ])
        refine tq 2 rfl (fun _ hS => by go_simp; try with_reducible rfl) ?_
        try simp only [s1, s2, s3]
        refine wpAnyH_ready (rs := [3]) (by kernel_rfl) (by simp) ?_
        refine AllReadyH.cons rfl (fun K hK => ?_) AllReadyH.nil
        go_simp
        go_at_call 12
        refine (enc_full gm gc wm2 hm hc2).mono ?_
        rintro e wn ⟨pe, ce, rfl, bn⟩
        have hBn := below_next hBk bn
        clear hBk
        have hBk := hBn
        clear hBn
        try go_simp
        refine hK.out _ _ ?_ (fun hHeld => ?_)
        · (try dsimp only); exact hBk
        clear hK K hHeld
        (try simp only [Act.put, List.setIfInBounds_toArray, List.set_cons_zero, List.set_cons_succ])
        refine tq 4 rfl (fun _ hS => by go_simp; try with_reducible rfl) ?_
        try simp only [s1, s2, s3]
        refine tq 5 rfl (fun _ hS => by go_simp; try with_reducible rfl) ?_
        try simp only [s1, s2, s3]
        refine tq 6 rfl (fun _ hS => by go_simp; try with_reducible rfl) ?_
        try simp only [s1, s2, s3]
        refine tq 7 rfl (fun _ hS => by go_simp; try with_reducible rfl) ?_
        try simp only [s1, s2, s3]
        refine tq 8 rfl (fun _ hS => by go_simp; try with_reducible rfl) ?_
        try simp only [s1, s2, s3]
        refine wpAnyH_done (by kernel_rfl) ?_ _
        have HB2 := hid (below_next HB1.out hBk)
        clear hBk
        have mk5 : ∀ W, (Instr.makeSlice 22 (.int .i64 5) (.int .i64 5)).run Try.prog W = .ok (.slice (some ⟨W.heap.size, 0, none⟩) 5 5) (W.alloc (.cells (MZm 5) 48)) := mkM 5 (by omega)
        have mk513 : ∀ W, (Instr.makeSlice 23 (.int .i64 513) (.int .i64 513)).run Try.prog W = .ok (.slice (some ⟨W.heap.size, 0, none⟩) 513 513) (W.alloc (.cells (MZc 513) 51)) := mkC 513 (by omega)
        have HM5 := hid (mp_made 5 (by omega))
        have HC513 := hid (cd_made 513 (by omega))
        generalize MZm 5 = M5 at *
        generalize MZc 513 = C5 at *
        go_wp2_with fail
        have b3 := (Below.refl wn.heap.size wn).alloc (Nat.le_refl _) (.cells M5 48)
        refine (enc_m5 wn.heap.size _ (HM5.out wn)).mono ?_
        rintro e w3 ⟨rfl, c3⟩
        have HB3 := hid (below_next HB2.out (below_next b3 c3))
        clear b3 c3
        go_wp2_with fail
        have b4 := (Below.refl w3.heap.size w3).alloc (Nat.le_refl _) (.cells C5 51)
        refine (enc_c513 w3.heap.size _ (HC513.out w3)).mono ?_
        rintro e w4 ⟨rfl, c4⟩
        have HB4 := hid (below_next HB3.out (below_next b4 c4))
        clear b4 c4 mk5 mk513 HM5 HC513
        go_wp2_with fail
        have b5 := (Below.refl w4.heap.size w4).alloc (Nat.le_refl _) (.cells (cellsM (⟨0, 0, 0, 256⟩ : M4)).toArray 48)
        have b5' := (Below.refl (w4.alloc (.cells (cellsM (⟨0, 0, 0, 256⟩ : M4)).toArray 48)).heap.size (w4.alloc (.cells (cellsM (⟨0, 0, 0, 256⟩ : M4)).toArray 48))).alloc (Nat.le_refl _) (.cells (cellsI (⟨0, 16, 0, 0, 0⟩ : I5)).toArray 51)
        have q5 : (w4.alloc (.cells (cellsM (⟨0, 0, 0, 256⟩ : M4)).toArray 48)).heap.size = w4.heap.size + 1 := World.size_alloc _ _
        have m5 := ((mp_lit ⟨0, 0, 0, 256⟩ w4).kept b5' (by rw [q5]; exact Nat.le_refl _)).wide (show w4.heap.size + 1 ≤ ((w4.alloc (.cells (cellsM (⟨0, 0, 0, 256⟩ : M4)).toArray 48)).alloc (.cells (cellsI (⟨0, 16, 0, 0, 0⟩ : I5)).toArray 51)).heap.size by simp)
        have c5 := (cd_lit ⟨0, 16, 0, 0, 0⟩ (by unfold I5.ok; decide) (w4.alloc (.cells (cellsM (⟨0, 0, 0, 256⟩ : M4)).toArray 48))).wide (show _ ≤ ((w4.alloc (.cells (cellsM (⟨0, 0, 0, 256⟩ : M4)).toArray 48)).alloc (.cells (cellsI (⟨0, 16, 0, 0, 0⟩ : I5)).toArray 51)).heap.size by simp)
        rw [q5] at c5
        refine (enc_bad 26 (some ⟨w4.heap.size, 0, none⟩) (some ⟨w4.heap.size + 1, 0, none⟩) 1 1 1 1 [⟨0, 0, 0, 256⟩] [⟨0, 16, 0, 0, 0⟩] rfl rfl (by decide) (by decide) _ m5 c5).mono ?_
        rintro e w5 ⟨rfl, d5⟩
        have HB5 := hid (below_next HB4.out (below_next b5 (below_next b5' d5)))
        clear b5 b5' q5 m5 c5 d5
        go_wp2_with fail
        have b6 := (Below.refl w5.heap.size w5).alloc (Nat.le_refl _) (.cells (cellsI (⟨0, 16, 0, 0, 0⟩ : I5)).toArray 51)
        have c6 := (cd_lit ⟨0, 16, 0, 0, 0⟩ (by unfold I5.ok; decide) w5).wide (show w5.heap.size + 1 ≤ (w5.alloc (.cells (cellsI (⟨0, 16, 0, 0, 0⟩ : I5)).toArray 51)).heap.size by simp)
        refine (enc_bad 21 none (some ⟨w5.heap.size, 0, none⟩) 0 1 0 1 [] [⟨0, 16, 0, 0, 0⟩] rfl rfl (by decide) (by decide) _ ⟨rfl, by decide, .inl rfl⟩ c6).mono ?_
        rintro e w6 ⟨rfl, d6⟩
        have HB6 := hid (below_next HB5.out (below_next b6 d6))
        clear b6 c6 d6
        go_wp2_with fail
        have b7 := (Below.refl w6.heap.size w6).alloc (Nat.le_refl _) (.cells (cellsM (⟨-1, 0, 0, 0⟩ : M4)).toArray 48)
        have m7 := (mp_lit ⟨-1, 0, 0, 0⟩ w6).wide (show w6.heap.size + 1 ≤ (w6.alloc (.cells (cellsM (⟨-1, 0, 0, 0⟩ : M4)).toArray 48)).heap.size by simp)
        refine (enc_bad 26 (some ⟨w6.heap.size, 0, none⟩) none 1 0 1 0 [⟨-1, 0, 0, 0⟩] [] rfl rfl (by decide) (by decide) _ m7 ⟨rfl, (fun x h => by cases h), by decide, .inl rfl⟩).mono ?_
        rintro e w7 ⟨rfl, d7⟩
        have HB7 := hid (below_next HB6.out (below_next b7 d7))
        clear b7 m7 d7
        go_wp2_with fail
        refine (HWK.out _).mono ?_
        rintro e w8 ⟨rfl, b8⟩
        go_wp2
        go_ret
        exact ⟨rfl, below_next HB7.out b8⟩
end Go.Proofs.Ytolpgcoebmboeaa
