/-
  StateSound: the walks.
-/
import Derived.Test.YtcgokiahlldaoaaFStVo
import Derived.Deep.MidRow
import Derived.Deep.RegionHeld3
namespace Go.Proofs.Ytcgokiahlldaoaa
set_option linter.unusedSimpArgs false
set_option linter.unusedVariables false
set_option maxRecDepth 100000
set_option maxRecDepth 100000
open Go.ChangeShapes Go.WideShapes Go.ChangeAt Go.RowKit Me

theorem st_entry_v {w : World} (A B : St) (V : Vw) (hV : FOk V.fr) {CA CB CV : Array Value} (ha : (stC A).toArray = CA) (hb : (stC B).toArray = CB) (hc : (vwC V).toArray = CV) : RwT w.heap.size w (((w.alloc (.cells CA 36)).alloc (.cells CB 36)).alloc (.cells CV 49)) w.heap.size 740 (stC A) ∧
    RwT w.heap.size w (((w.alloc (.cells CA 36)).alloc (.cells CB 36)).alloc (.cells CV 49)) (w.heap.size + 1) 740 (stC B) ∧
    RwT w.heap.size w (((w.alloc (.cells CA 36)).alloc (.cells CB 36)).alloc (.cells CV 49)) (w.heap.size + 1 + 1) 877 (vwC V) := by
  subst ha hb hc
  have a := RwT.new (g := w.heap.size) (n := 740) (w := w) (W := w) (cs := stC A) 36 (Below.refl _ _) (Nat.le_refl _) (by rw [stC_len])
  have b := RwT.new (g := w.heap.size) (n := 740) (w := w) (cs := stC B) 36 a.i.bel (by simp) (by rw [stC_len])
  have c := RwT.new (g := w.heap.size) (n := 877) (w := w) (cs := vwC V) 49 b.i.bel (by simp; omega) (vwC_len V hV).symm
  refine ⟨(a.alloc (by simp) _).alloc (by simp; omega) _, ?_, ?_⟩
  · have := b.alloc (by simp; omega) (.cells (vwC V).toArray 49)
    simpa using this
  · simpa using c
set_option maxHeartbeats 16000000 in
theorem snd_0 (A B : St) (V : Vw) (hA : StOk A) (hB : StOk B) (hV : VwOk V) (he : sHolds A V = false) (w : World) : Calls Try.prog 7 #[stV A, stV B, vwV V] w fun e w' => e = .returned (.bool true) ∧ Below w.heap.size w w' := by
  have HV : Hid (∀ W, Calls Try.prog 17 #[.agg (vwC V).toArray] W fun e w' => e = .returned (.agg (vwC V).toArray) ∧ Below W.heap.size W w') := hid fun W => view_any V hV W
  have HHa : Hid (∀ W, Calls Try.prog 16 #[.agg (stC A).toArray, .agg (vwC V).toArray] W fun e w' => e = .returned (.bool false) ∧ Below W.heap.size W w') := hid fun W => he ▸ uHolds_any A V hA hV W
  have HW := hid wakes_any
  have ZV : ∀ w, (zeroValue 55).run Try.prog w = .ok (.agg (vwC (vw0 0)).toArray) w := (zero_of_info zv_info).1
  have hlV : (vwC V).length = 877 := vwC_len _ hV.2.1
  have hF := hid hV.2.1
  have hi49 : Hid ((Try.prog.info? 49).map (·.size) = some (vwC V).length) := hid (by rw [hlV]; exact yinfo49)
  have hi55 := hid (yhv V hV.2.1)
  have YN : ∀ (W : World), Below w.heap.size w W → w.heap.size ≤ W.heap.size → RwT w.heap.size w ((W.alloc (.cells (vwC (vw0 0)).toArray 55)).setCells W.heap.size 0 (vwC V)) W.heap.size 877 (vwC V) := fun W h hg => ynew_vw V hV.2.1 h hg
  have YT := ythere_vw
  generalize vw0 0 = Z0 at *
  replace YN := hid YN
  replace YT := hid YT
  unfold stV vwV
  obtain ⟨CA, hCA⟩ : ∃ CF, (stC A).toArray = CF := ⟨_, rfl⟩
  obtain ⟨CB, hCB⟩ : ∃ CF, (stC B).toArray = CF := ⟨_, rfl⟩
  obtain ⟨CV, hCV⟩ : ∃ CF, (vwC V).toArray = CF := ⟨_, rfl⟩
  obtain ⟨XA, XB, XV⟩ := st_entry_v (w := w) A B V hV.2.1 hCA hCB hCV
  rw [hCA, hCB, hCV]
  replace XA := hid XA
  replace XB := hid XB
  replace XV := hid XV
  clear hCA hCB hCV hA hB hV hlV he
  go_enter Try.func7, Try.ntmps7
  go_wp2_with (first | ((with_reducible refine at_load (d := some 9) 49 ?_); refine wpList_load_g (by rfl) 49 _ rfl (w.heap.size + 1 + 1) 0 rfl (vwC V) _ XV.out.i.r0 Try.underlying49 rfl hi49.out ?_))
  refine (HV.out _).mono ?_
  rintro e w1 ⟨rfl, z⟩
  have XAn := XA.out.next z (by simp; omega)
  have XBn := XB.out.next z (by simp; omega)
  have XVn := XV.out.next z (by simp; omega)
  clear z XA XB XV
  have XA := hid XAn
  clear XAn
  have XB := hid XBn
  clear XBn
  have XV := hid XVn
  clear XVn
  have BE := XA.out.i.bel
  have XX := hid (YN.out w1 BE BE.size)
  have TX := hid (YT.out w1)
  have XAn := XA.out.made (o := .cells (vwC Z0).toArray 55) (c := w1.heap.size) (m := 0) (vs := vwC V) BE.size rfl
  clear XA
  have XA := hid XAn
  clear XAn
  have XBn := XB.out.made (o := .cells (vwC Z0).toArray 55) (c := w1.heap.size) (m := 0) (vs := vwC V) BE.size rfl
  clear XB
  have XB := hid XBn
  clear XBn
  have XVn := XV.out.made (o := .cells (vwC Z0).toArray 55) (c := w1.heap.size) (m := 0) (vs := vwC V) BE.size rfl
  clear XV
  have XV := hid XVn
  clear XVn
  have lJ := BE.size
  clear BE
  go_wp2_with (first | ((with_reducible refine at_load (d := some 11) 36 ?_); refine wpList_load_g (by rfl) 36 _ rfl w.heap.size 0 rfl (stC A) _ XA.out.i.r0 Try.underlying36 rfl (yhs _) ?_) | ((with_reducible refine at_load (d := some 12) 55 ?_); refine wpList_load_g (by rfl) 55 _ rfl w1.heap.size 0 rfl (vwC V) _ XX.out.i.r0 Try.underlying55 rfl hi55.out ?_) | ((with_reducible refine at_store (x := .tmp 7) (y := .tmp 10) 55 ?_); refine wpList_store_vw (.tmp 7) (.tmp 10) rfl rfl w1.heap.size V hF.out rfl rfl TX.out ?_))
  refine (HHa.out _).mono ?_
  rintro e w2 ⟨rfl, z⟩
  have XAn := XA.out.next z XA.out.i.bel.size
  have XBn := XB.out.next z XA.out.i.bel.size
  have XVn := XV.out.next z XA.out.i.bel.size
  have XXn := XX.out.next z XA.out.i.bel.size
  clear z XA XB XV XX
  have XA := hid XAn
  clear XAn
  have XB := hid XBn
  clear XBn
  have XV := hid XVn
  clear XVn
  have XX := hid XXn
  clear XXn
  go_wp2_with fail
  have xa := XA.out.i.r0
  have xas := XA.out.i.sz
  have xb := XB.out.i.r0
  have xbs := XB.out.i.sz
  have xx := XX.out.i.r0
  have xxs := XX.out.i.sz
  have keepS : ∀ W, Below w2.heap.size w2 W → W.rangeAt w.heap.size 0 (stC A) ∧ W.rangeAt (w.heap.size + 1) 0 (stC B) ∧ W.rangeAt w1.heap.size 0 (vwC V) ∧ Below w2.heap.size w2 W := fun W hW => ⟨range_below xa xas (Me.bcell hW).1, range_below xb xbs (Me.bcell hW).1, range_below xx xxs (Me.bcell hW).1, hW⟩
  have hu55 := Try.underlying55
  have hu36 := Try.underlying36
  have hi5 := hi55.out
  have hiA := yhs A
  have hiB := yhs B
  have hB66 := Below.refl w2.heap.size w2
  refine wp_region_held_drew (S := (fun w' : World => w'.rangeAt w.heap.size 0 (stC A) ∧ w'.rangeAt (w.heap.size + 1) 0 (stC B) ∧ w'.rangeAt w1.heap.size 0 (vwC V) ∧ Below w2.heap.size w2 w')) (by kernel_rfl) ?_ (fun hHeld => ?_)
  · (try dsimp only); (refine keepS _ ?_; first | (with_reducible assumption) | ((with_reducible refine Below.drew ?_); with_reducible assumption) | exact below_dr _)
  have hBk := below_dr w2
  refine take_d (i := 0) (v := ?vsnd0r1) rfl (by rfl) (by kernel_rfl) (by kernel_rfl) (by kernel_rfl) (fun _ _ _ h => h) (Or.inl ⟨by rfl, ?hsnd0r1⟩) (by assumption) ?rsnd0r1
  case hsnd0r1 => (intro wS hSw; (try dsimp only at hSw); go_simp; try (with_reducible rfl))
  (try simp only [Act.put, List.setIfInBounds_toArray, List.set_cons_zero, List.set_cons_succ])
  refine take_d (i := 1) (v := ?vsnd0r2) rfl (by rfl) (by kernel_rfl) (by kernel_rfl) (by kernel_rfl) (fun _ _ _ h => h) (Or.inl ⟨by rfl, ?hsnd0r2⟩) (by assumption) ?rsnd0r2
  case hsnd0r2 => (intro wS hSw; (try dsimp only at hSw); go_simp; try (with_reducible rfl))
  (try simp only [Act.put, List.setIfInBounds_toArray, List.set_cons_zero, List.set_cons_succ])
  refine take_d (i := 2) (v := undef) rfl (by rfl) (by kernel_rfl) (by kernel_rfl) (by kernel_rfl) (fun _ _ _ h => h) (Or.inr ⟨by rfl, rfl⟩) (by assumption) ?rsnd0r3
  (try simp only [Act.put, List.setIfInBounds_toArray, List.set_cons_zero, List.set_cons_succ])
  refine take_d (i := 3) (v := undef) rfl (by rfl) (by kernel_rfl) (by kernel_rfl) (by kernel_rfl) (fun _ _ _ h => h) (Or.inr ⟨by rfl, rfl⟩) (by assumption) ?rsnd0r4
  (try simp only [Act.put, List.setIfInBounds_toArray, List.set_cons_zero, List.set_cons_succ])
  refine take_d (i := 4) (v := ?vsnd0r5) rfl (by rfl) (by kernel_rfl) (by kernel_rfl) (by kernel_rfl) (fun _ _ _ h => h) (Or.inl ⟨by rfl, ?hsnd0r5⟩) (by assumption) ?rsnd0r5
  case hsnd0r5 => (intro wS hSw; (try dsimp only at hSw); go_simp; try (with_reducible rfl))
  (try simp only [Act.put, List.setIfInBounds_toArray, List.set_cons_zero, List.set_cons_succ])
  refine take_d (i := 5) (v := ?vsnd0r6) rfl (by rfl) (by kernel_rfl) (by kernel_rfl) (by kernel_rfl) (fun _ _ _ h => h) (Or.inl ⟨by rfl, ?hsnd0r6⟩) (by assumption) ?rsnd0r6
  case hsnd0r6 => (intro wS hSw; (try dsimp only at hSw); go_simp; try (with_reducible rfl))
  (try simp only [Act.put, List.setIfInBounds_toArray, List.set_cons_zero, List.set_cons_succ])
  refine take_d (i := 6) (v := undef) rfl (by rfl) (by kernel_rfl) (by kernel_rfl) (by kernel_rfl) (fun _ _ _ h => h) (Or.inr ⟨by rfl, rfl⟩) (by assumption) ?rsnd0r7
  (try simp only [Act.put, List.setIfInBounds_toArray, List.set_cons_zero, List.set_cons_succ])
  refine take_d (i := 7) (v := undef) rfl (by rfl) (by kernel_rfl) (by kernel_rfl) (by kernel_rfl) (fun _ _ _ h => h) (Or.inr ⟨by rfl, rfl⟩) (by assumption) ?rsnd0r8
  (try simp only [Act.put, List.setIfInBounds_toArray, List.set_cons_zero, List.set_cons_succ])
  refine take_d (i := 8) (v := undef) rfl (by rfl) (by kernel_rfl) (by kernel_rfl) (by kernel_rfl) (fun _ _ _ h => h) (Or.inr ⟨by rfl, rfl⟩) (by assumption) ?rsnd0r9
  (try simp only [Act.put, List.setIfInBounds_toArray, List.set_cons_zero, List.set_cons_succ])
  refine take_d (i := 9) (v := undef) rfl (by rfl) (by kernel_rfl) (by kernel_rfl) (by kernel_rfl) (fun _ _ _ h => h) (Or.inr ⟨by rfl, rfl⟩) (by assumption) ?rsnd0r10
  (try simp only [Act.put, List.setIfInBounds_toArray, List.set_cons_zero, List.set_cons_succ])
  refine take_d (i := 10) (v := undef) rfl (by rfl) (by kernel_rfl) (by kernel_rfl) (by kernel_rfl) (fun _ _ _ h => h) (Or.inr ⟨by rfl, rfl⟩) (by assumption) ?rsnd0r11
  (try simp only [Act.put, List.setIfInBounds_toArray, List.set_cons_zero, List.set_cons_succ])
  refine take_d (i := 11) (v := undef) rfl (by rfl) (by kernel_rfl) (by kernel_rfl) (by kernel_rfl) (fun _ _ _ h => h) (Or.inr ⟨by rfl, rfl⟩) (by assumption) ?rsnd0r12
  (try simp only [Act.put, List.setIfInBounds_toArray, List.set_cons_zero, List.set_cons_succ])
  refine take_d (i := 12) (v := undef) rfl (by rfl) (by kernel_rfl) (by kernel_rfl) (by kernel_rfl) (fun _ _ _ h => h) (Or.inr ⟨by rfl, rfl⟩) (by assumption) ?rsnd0r13
  (try simp only [Act.put, List.setIfInBounds_toArray, List.set_cons_zero, List.set_cons_succ])
  refine take_d (i := 13) (v := undef) rfl (by rfl) (by kernel_rfl) (by kernel_rfl) (by kernel_rfl) (fun _ _ _ h => h) (Or.inr ⟨by rfl, rfl⟩) (by assumption) ?rsnd0r14
  (try simp only [Act.put, List.setIfInBounds_toArray, List.set_cons_zero, List.set_cons_succ])
  refine take_d (i := 14) (v := undef) rfl (by rfl) (by kernel_rfl) (by kernel_rfl) (by kernel_rfl) (fun _ _ _ h => h) (Or.inr ⟨by rfl, rfl⟩) (by assumption) ?rsnd0r15
  (try simp only [Act.put, List.setIfInBounds_toArray, List.set_cons_zero, List.set_cons_succ])
  refine take_d (i := 15) (v := undef) rfl (by rfl) (by kernel_rfl) (by kernel_rfl) (by kernel_rfl) (fun _ _ _ h => h) (Or.inr ⟨by rfl, rfl⟩) (by assumption) ?rsnd0r16
  (try simp only [Act.put, List.setIfInBounds_toArray, List.set_cons_zero, List.set_cons_succ])
  refine take_d (i := 16) (v := undef) rfl (by rfl) (by kernel_rfl) (by kernel_rfl) (by kernel_rfl) (fun _ _ _ h => h) (Or.inr ⟨by rfl, rfl⟩) (by assumption) ?rsnd0r17
  (try simp only [Act.put, List.setIfInBounds_toArray, List.set_cons_zero, List.set_cons_succ])
  refine take_d (i := 17) (v := undef) rfl (by rfl) (by kernel_rfl) (by kernel_rfl) (by kernel_rfl) (fun _ _ _ h => h) (Or.inr ⟨by rfl, rfl⟩) (by assumption) ?rsnd0r18
  (try simp only [Act.put, List.setIfInBounds_toArray, List.set_cons_zero, List.set_cons_succ])
  refine take_d (i := 18) (v := undef) rfl (by rfl) (by kernel_rfl) (by kernel_rfl) (by kernel_rfl) (fun _ _ _ h => h) (Or.inr ⟨by rfl, rfl⟩) (by assumption) ?rsnd0r19
  (try simp only [Act.put, List.setIfInBounds_toArray, List.set_cons_zero, List.set_cons_succ])
  refine take_d (i := 19) (v := undef) rfl (by rfl) (by kernel_rfl) (by kernel_rfl) (by kernel_rfl) (fun _ _ _ h => h) (Or.inr ⟨by rfl, rfl⟩) (by assumption) ?rsnd0r20
  (try simp only [Act.put, List.setIfInBounds_toArray, List.set_cons_zero, List.set_cons_succ])
  refine take_d (i := 20) (v := ?vsnd0r21) rfl (by rfl) (by kernel_rfl) (by kernel_rfl) (by kernel_rfl) (fun _ _ _ h => h) (Or.inl ⟨by rfl, ?hsnd0r21⟩) (by assumption) ?rsnd0r21
  case hsnd0r21 => (intro wS hSw; (try dsimp only at hSw); go_simp; try (with_reducible rfl))
  (try simp only [Act.put, List.setIfInBounds_toArray, List.set_cons_zero, List.set_cons_succ])
  refine wpAnyH_done (by kernel_rfl) ?_ _
  go_split_ands
  have BB := below_next XA.out.i.bel hBk
  go_wp2_with fail
  refine (HW.out _).mono ?_
  rintro e wz ⟨rfl, z⟩
  go_wp2
  go_ret
  exact ⟨rfl, below_next BB z⟩
set_option maxHeartbeats 16000000 in
theorem snd_100 (A B : St) (V : Vw) (hA : StOk A) (hB : StOk B) (hV : VwOk V) (he : sHolds A V = true) (iab : sIn A B = false) (mb : sMay B = false) (w : World) : Calls Try.prog 7 #[stV A, stV B, vwV V] w fun e w' => e = .returned (.bool true) ∧ Below w.heap.size w w' := by
  have HV : Hid (∀ W, Calls Try.prog 17 #[.agg (vwC V).toArray] W fun e w' => e = .returned (.agg (vwC V).toArray) ∧ Below W.heap.size W w') := hid fun W => view_any V hV W
  have HHa : Hid (∀ W, Calls Try.prog 16 #[.agg (stC A).toArray, .agg (vwC V).toArray] W fun e w' => e = .returned (.bool true) ∧ Below W.heap.size W w') := hid fun W => he ▸ uHolds_any A V hA hV W
  have ma := ((sHolds_iff A V).1 he).1
  have HMa : Hid (∀ W, Calls Try.prog 11 #[.agg (stC A).toArray] W fun e w' => e = .returned (.bool true) ∧ Below W.heap.size W w') := hid fun W => ma ▸ uMay_any A hA W
  have HIab : Hid (∀ W, Calls Try.prog 19 #[.agg (stC A).toArray, .agg (stC B).toArray] W fun e w' => e = .returned (.bool false) ∧ Below W.heap.size W w') := hid fun W => iab ▸ uIn_any A B hA hB W
  have HMb : Hid (∀ W, Calls Try.prog 11 #[.agg (stC B).toArray] W fun e w' => e = .returned (.bool false) ∧ Below W.heap.size W w') := hid fun W => mb ▸ uMay_any B hB W
  clear ma
  have HW := hid wakes_any
  have ZV : ∀ w, (zeroValue 55).run Try.prog w = .ok (.agg (vwC (vw0 0)).toArray) w := (zero_of_info zv_info).1
  have hlV : (vwC V).length = 877 := vwC_len _ hV.2.1
  have hF := hid hV.2.1
  have hi49 : Hid ((Try.prog.info? 49).map (·.size) = some (vwC V).length) := hid (by rw [hlV]; exact yinfo49)
  have hi55 := hid (yhv V hV.2.1)
  have YN : ∀ (W : World), Below w.heap.size w W → w.heap.size ≤ W.heap.size → RwT w.heap.size w ((W.alloc (.cells (vwC (vw0 0)).toArray 55)).setCells W.heap.size 0 (vwC V)) W.heap.size 877 (vwC V) := fun W h hg => ynew_vw V hV.2.1 h hg
  have YT := ythere_vw
  generalize vw0 0 = Z0 at *
  replace YN := hid YN
  replace YT := hid YT
  unfold stV vwV
  obtain ⟨CA, hCA⟩ : ∃ CF, (stC A).toArray = CF := ⟨_, rfl⟩
  obtain ⟨CB, hCB⟩ : ∃ CF, (stC B).toArray = CF := ⟨_, rfl⟩
  obtain ⟨CV, hCV⟩ : ∃ CF, (vwC V).toArray = CF := ⟨_, rfl⟩
  obtain ⟨XA, XB, XV⟩ := st_entry_v (w := w) A B V hV.2.1 hCA hCB hCV
  rw [hCA, hCB, hCV]
  replace XA := hid XA
  replace XB := hid XB
  replace XV := hid XV
  clear hCA hCB hCV hA hB hV hlV he iab mb
  go_enter Try.func7, Try.ntmps7
  go_wp2_with (first | ((with_reducible refine at_load (d := some 9) 49 ?_); refine wpList_load_g (by rfl) 49 _ rfl (w.heap.size + 1 + 1) 0 rfl (vwC V) _ XV.out.i.r0 Try.underlying49 rfl hi49.out ?_))
  refine (HV.out _).mono ?_
  rintro e w1 ⟨rfl, z⟩
  have XAn := XA.out.next z (by simp; omega)
  have XBn := XB.out.next z (by simp; omega)
  have XVn := XV.out.next z (by simp; omega)
  clear z XA XB XV
  have XA := hid XAn
  clear XAn
  have XB := hid XBn
  clear XBn
  have XV := hid XVn
  clear XVn
  have BE := XA.out.i.bel
  have XX := hid (YN.out w1 BE BE.size)
  have TX := hid (YT.out w1)
  have XAn := XA.out.made (o := .cells (vwC Z0).toArray 55) (c := w1.heap.size) (m := 0) (vs := vwC V) BE.size rfl
  clear XA
  have XA := hid XAn
  clear XAn
  have XBn := XB.out.made (o := .cells (vwC Z0).toArray 55) (c := w1.heap.size) (m := 0) (vs := vwC V) BE.size rfl
  clear XB
  have XB := hid XBn
  clear XBn
  have XVn := XV.out.made (o := .cells (vwC Z0).toArray 55) (c := w1.heap.size) (m := 0) (vs := vwC V) BE.size rfl
  clear XV
  have XV := hid XVn
  clear XVn
  have lJ := BE.size
  clear BE
  go_wp2_with (first | ((with_reducible refine at_load (d := some 11) 36 ?_); refine wpList_load_g (by rfl) 36 _ rfl w.heap.size 0 rfl (stC A) _ XA.out.i.r0 Try.underlying36 rfl (yhs _) ?_) | ((with_reducible refine at_load (d := some 12) 55 ?_); refine wpList_load_g (by rfl) 55 _ rfl w1.heap.size 0 rfl (vwC V) _ XX.out.i.r0 Try.underlying55 rfl hi55.out ?_) | ((with_reducible refine at_store (x := .tmp 7) (y := .tmp 10) 55 ?_); refine wpList_store_vw (.tmp 7) (.tmp 10) rfl rfl w1.heap.size V hF.out rfl rfl TX.out ?_))
  refine (HHa.out _).mono ?_
  rintro e w2 ⟨rfl, z⟩
  have XAn := XA.out.next z XA.out.i.bel.size
  have XBn := XB.out.next z XA.out.i.bel.size
  have XVn := XV.out.next z XA.out.i.bel.size
  have XXn := XX.out.next z XA.out.i.bel.size
  clear z XA XB XV XX
  have XA := hid XAn
  clear XAn
  have XB := hid XBn
  clear XBn
  have XV := hid XVn
  clear XVn
  have XX := hid XXn
  clear XXn
  go_wp2_with (first | ((with_reducible refine at_load (d := some 16) 36 ?_); refine wpList_load_g (by rfl) 36 _ rfl w.heap.size 0 rfl (stC A) _ XA.out.i.r0 Try.underlying36 rfl (yhs _) ?_))
  refine (HMa.out _).mono ?_
  rintro e w3 ⟨rfl, z⟩
  have XAn := XA.out.next z XA.out.i.bel.size
  have XBn := XB.out.next z XA.out.i.bel.size
  have XVn := XV.out.next z XA.out.i.bel.size
  have XXn := XX.out.next z XA.out.i.bel.size
  clear z XA XB XV XX
  have XA := hid XAn
  clear XAn
  have XB := hid XBn
  clear XBn
  have XV := hid XVn
  clear XVn
  have XX := hid XXn
  clear XXn
  go_wp2_with (first | ((with_reducible refine at_load (d := some 22) 36 ?_); refine wpList_load_g (by rfl) 36 _ rfl w.heap.size 0 rfl (stC A) _ XA.out.i.r0 Try.underlying36 rfl (yhs _) ?_) | ((with_reducible refine at_load (d := some 23) 36 ?_); refine wpList_load_g (by rfl) 36 _ rfl (w.heap.size + 1) 0 rfl (stC B) _ XB.out.i.r0 Try.underlying36 rfl (yhs _) ?_))
  refine (HIab.out _).mono ?_
  rintro e w4 ⟨rfl, z⟩
  have XAn := XA.out.next z XA.out.i.bel.size
  have XBn := XB.out.next z XA.out.i.bel.size
  have XVn := XV.out.next z XA.out.i.bel.size
  have XXn := XX.out.next z XA.out.i.bel.size
  clear z XA XB XV XX
  have XA := hid XAn
  clear XAn
  have XB := hid XBn
  clear XBn
  have XV := hid XVn
  clear XVn
  have XX := hid XXn
  clear XXn
  go_wp2_with fail
  have xa := XA.out.i.r0
  have xas := XA.out.i.sz
  have xb := XB.out.i.r0
  have xbs := XB.out.i.sz
  have xx := XX.out.i.r0
  have xxs := XX.out.i.sz
  have keepS : ∀ W, Below w4.heap.size w4 W → W.rangeAt w.heap.size 0 (stC A) ∧ W.rangeAt (w.heap.size + 1) 0 (stC B) ∧ W.rangeAt w1.heap.size 0 (vwC V) ∧ Below w4.heap.size w4 W := fun W hW => ⟨range_below xa xas (Me.bcell hW).1, range_below xb xbs (Me.bcell hW).1, range_below xx xxs (Me.bcell hW).1, hW⟩
  have hu55 := Try.underlying55
  have hu36 := Try.underlying36
  have hi5 := hi55.out
  have hiA := yhs A
  have hiB := yhs B
  have hB66 := Below.refl w4.heap.size w4
  refine wp_region_held_drew (S := (fun w' : World => w'.rangeAt w.heap.size 0 (stC A) ∧ w'.rangeAt (w.heap.size + 1) 0 (stC B) ∧ w'.rangeAt w1.heap.size 0 (vwC V) ∧ Below w4.heap.size w4 w')) (by kernel_rfl) ?_ (fun hHeld => ?_)
  · (try dsimp only); (refine keepS _ ?_; first | (with_reducible assumption) | ((with_reducible refine Below.drew ?_); with_reducible assumption) | exact below_dr _)
  have hBk := below_dr w4
  refine take_d (i := 0) (v := ?vsnd100r1) rfl (by rfl) (by kernel_rfl) (by kernel_rfl) (by kernel_rfl) (fun _ _ _ h => h) (Or.inl ⟨by rfl, ?hsnd100r1⟩) (by assumption) ?rsnd100r1
  case hsnd100r1 => (intro wS hSw; (try dsimp only at hSw); go_simp; try (with_reducible rfl))
  (try simp only [Act.put, List.setIfInBounds_toArray, List.set_cons_zero, List.set_cons_succ])
  refine take_d (i := 1) (v := ?vsnd100r2) rfl (by rfl) (by kernel_rfl) (by kernel_rfl) (by kernel_rfl) (fun _ _ _ h => h) (Or.inl ⟨by rfl, ?hsnd100r2⟩) (by assumption) ?rsnd100r2
  case hsnd100r2 => (intro wS hSw; (try dsimp only at hSw); go_simp; try (with_reducible rfl))
  (try simp only [Act.put, List.setIfInBounds_toArray, List.set_cons_zero, List.set_cons_succ])
  refine take_d (i := 2) (v := _) rfl (by rfl) (by kernel_rfl) (by kernel_rfl) (by kernel_rfl) (fun _ _ _ h => h) (yieldsIf_load_mid (by rfl) _ _ rfl _ _ rfl (stC B) _ ?hsnd100r3 hu36 rfl hiB) (by assumption) ?rsnd100r3
  case hsnd100r3 => (intro wS hSw; (try dsimp only at hSw); go_split_ands; assumption)
  (try simp only [Act.put, List.setIfInBounds_toArray, List.set_cons_zero, List.set_cons_succ])
  refine wpAnyH_ready (rs := [3]) (by kernel_rfl) (by simp) ?_
  refine AllReadyH.cons rfl (fun K hK => ?_) AllReadyH.nil
  go_simp
  go_at_call 11
  refine (HMb.out _).mono ?_
  rintro e wsnd100r4 ⟨rfl, bksnd100r4⟩
  have hBn := below_next hBk bksnd100r4
  clear hBk bksnd100r4
  have hBk := hBn
  clear hBn
  try go_simp
  refine hK.out _ _ ?_ (fun hHeld => ?_)
  · (try dsimp only); exact keepS _ hBk
  clear hK K
  (try simp only [Act.put, List.setIfInBounds_toArray, List.set_cons_zero, List.set_cons_succ])
  refine take_d (i := 4) (v := ?vsnd100r5) rfl (by rfl) (by kernel_rfl) (by kernel_rfl) (by kernel_rfl) (fun _ _ _ h => h) (Or.inl ⟨by rfl, ?hsnd100r5⟩) (by assumption) ?rsnd100r5
  case hsnd100r5 => (intro wS hSw; (try dsimp only at hSw); go_simp; try (with_reducible rfl))
  (try simp only [Act.put, List.setIfInBounds_toArray, List.set_cons_zero, List.set_cons_succ])
  refine take_d (i := 5) (v := ?vsnd100r6) rfl (by rfl) (by kernel_rfl) (by kernel_rfl) (by kernel_rfl) (fun _ _ _ h => h) (Or.inl ⟨by rfl, ?hsnd100r6⟩) (by assumption) ?rsnd100r6
  case hsnd100r6 => (intro wS hSw; (try dsimp only at hSw); go_simp; try (with_reducible rfl))
  (try simp only [Act.put, List.setIfInBounds_toArray, List.set_cons_zero, List.set_cons_succ])
  refine take_d (i := 6) (v := undef) rfl (by rfl) (by kernel_rfl) (by kernel_rfl) (by kernel_rfl) (fun _ _ _ h => h) (Or.inr ⟨by rfl, rfl⟩) (by assumption) ?rsnd100r7
  (try simp only [Act.put, List.setIfInBounds_toArray, List.set_cons_zero, List.set_cons_succ])
  refine take_d (i := 7) (v := undef) rfl (by rfl) (by kernel_rfl) (by kernel_rfl) (by kernel_rfl) (fun _ _ _ h => h) (Or.inr ⟨by rfl, rfl⟩) (by assumption) ?rsnd100r8
  (try simp only [Act.put, List.setIfInBounds_toArray, List.set_cons_zero, List.set_cons_succ])
  refine take_d (i := 8) (v := undef) rfl (by rfl) (by kernel_rfl) (by kernel_rfl) (by kernel_rfl) (fun _ _ _ h => h) (Or.inr ⟨by rfl, rfl⟩) (by assumption) ?rsnd100r9
  (try simp only [Act.put, List.setIfInBounds_toArray, List.set_cons_zero, List.set_cons_succ])
  refine take_d (i := 9) (v := undef) rfl (by rfl) (by kernel_rfl) (by kernel_rfl) (by kernel_rfl) (fun _ _ _ h => h) (Or.inr ⟨by rfl, rfl⟩) (by assumption) ?rsnd100r10
  (try simp only [Act.put, List.setIfInBounds_toArray, List.set_cons_zero, List.set_cons_succ])
  refine take_d (i := 10) (v := undef) rfl (by rfl) (by kernel_rfl) (by kernel_rfl) (by kernel_rfl) (fun _ _ _ h => h) (Or.inr ⟨by rfl, rfl⟩) (by assumption) ?rsnd100r11
  (try simp only [Act.put, List.setIfInBounds_toArray, List.set_cons_zero, List.set_cons_succ])
  refine take_d (i := 11) (v := undef) rfl (by rfl) (by kernel_rfl) (by kernel_rfl) (by kernel_rfl) (fun _ _ _ h => h) (Or.inr ⟨by rfl, rfl⟩) (by assumption) ?rsnd100r12
  (try simp only [Act.put, List.setIfInBounds_toArray, List.set_cons_zero, List.set_cons_succ])
  refine take_d (i := 12) (v := undef) rfl (by rfl) (by kernel_rfl) (by kernel_rfl) (by kernel_rfl) (fun _ _ _ h => h) (Or.inr ⟨by rfl, rfl⟩) (by assumption) ?rsnd100r13
  (try simp only [Act.put, List.setIfInBounds_toArray, List.set_cons_zero, List.set_cons_succ])
  refine take_d (i := 13) (v := undef) rfl (by rfl) (by kernel_rfl) (by kernel_rfl) (by kernel_rfl) (fun _ _ _ h => h) (Or.inr ⟨by rfl, rfl⟩) (by assumption) ?rsnd100r14
  (try simp only [Act.put, List.setIfInBounds_toArray, List.set_cons_zero, List.set_cons_succ])
  refine take_d (i := 14) (v := undef) rfl (by rfl) (by kernel_rfl) (by kernel_rfl) (by kernel_rfl) (fun _ _ _ h => h) (Or.inr ⟨by rfl, rfl⟩) (by assumption) ?rsnd100r15
  (try simp only [Act.put, List.setIfInBounds_toArray, List.set_cons_zero, List.set_cons_succ])
  refine take_d (i := 15) (v := undef) rfl (by rfl) (by kernel_rfl) (by kernel_rfl) (by kernel_rfl) (fun _ _ _ h => h) (Or.inr ⟨by rfl, rfl⟩) (by assumption) ?rsnd100r16
  (try simp only [Act.put, List.setIfInBounds_toArray, List.set_cons_zero, List.set_cons_succ])
  refine take_d (i := 16) (v := undef) rfl (by rfl) (by kernel_rfl) (by kernel_rfl) (by kernel_rfl) (fun _ _ _ h => h) (Or.inr ⟨by rfl, rfl⟩) (by assumption) ?rsnd100r17
  (try simp only [Act.put, List.setIfInBounds_toArray, List.set_cons_zero, List.set_cons_succ])
  refine take_d (i := 17) (v := undef) rfl (by rfl) (by kernel_rfl) (by kernel_rfl) (by kernel_rfl) (fun _ _ _ h => h) (Or.inr ⟨by rfl, rfl⟩) (by assumption) ?rsnd100r18
  (try simp only [Act.put, List.setIfInBounds_toArray, List.set_cons_zero, List.set_cons_succ])
  refine take_d (i := 18) (v := undef) rfl (by rfl) (by kernel_rfl) (by kernel_rfl) (by kernel_rfl) (fun _ _ _ h => h) (Or.inr ⟨by rfl, rfl⟩) (by assumption) ?rsnd100r19
  (try simp only [Act.put, List.setIfInBounds_toArray, List.set_cons_zero, List.set_cons_succ])
  refine take_d (i := 19) (v := undef) rfl (by rfl) (by kernel_rfl) (by kernel_rfl) (by kernel_rfl) (fun _ _ _ h => h) (Or.inr ⟨by rfl, rfl⟩) (by assumption) ?rsnd100r20
  (try simp only [Act.put, List.setIfInBounds_toArray, List.set_cons_zero, List.set_cons_succ])
  refine take_d (i := 20) (v := ?vsnd100r21) rfl (by rfl) (by kernel_rfl) (by kernel_rfl) (by kernel_rfl) (fun _ _ _ h => h) (Or.inl ⟨by rfl, ?hsnd100r21⟩) (by assumption) ?rsnd100r21
  case hsnd100r21 => (intro wS hSw; (try dsimp only at hSw); go_simp; try (with_reducible rfl))
  (try simp only [Act.put, List.setIfInBounds_toArray, List.set_cons_zero, List.set_cons_succ])
  refine wpAnyH_done (by kernel_rfl) ?_ _
  go_split_ands
  have BB := below_next XA.out.i.bel hBk
  go_wp2_with fail
  refine (HW.out _).mono ?_
  rintro e wz ⟨rfl, z⟩
  go_wp2
  go_ret
  exact ⟨rfl, below_next BB z⟩
set_option maxHeartbeats 16000000 in
theorem snd_101 (A B : St) (V : Vw) (hA : StOk A) (hB : StOk B) (hV : VwOk V) (he : sHolds A V = true) (iab : sIn A B = false) (mb : sMay B = true) (w : World) : Calls Try.prog 7 #[stV A, stV B, vwV V] w fun e w' => e = .returned (.bool true) ∧ Below w.heap.size w w' := by
  have HV : Hid (∀ W, Calls Try.prog 17 #[.agg (vwC V).toArray] W fun e w' => e = .returned (.agg (vwC V).toArray) ∧ Below W.heap.size W w') := hid fun W => view_any V hV W
  have HHa : Hid (∀ W, Calls Try.prog 16 #[.agg (stC A).toArray, .agg (vwC V).toArray] W fun e w' => e = .returned (.bool true) ∧ Below W.heap.size W w') := hid fun W => he ▸ uHolds_any A V hA hV W
  have ma := ((sHolds_iff A V).1 he).1
  have HMa : Hid (∀ W, Calls Try.prog 11 #[.agg (stC A).toArray] W fun e w' => e = .returned (.bool true) ∧ Below W.heap.size W w') := hid fun W => ma ▸ uMay_any A hA W
  have HIab : Hid (∀ W, Calls Try.prog 19 #[.agg (stC A).toArray, .agg (stC B).toArray] W fun e w' => e = .returned (.bool false) ∧ Below W.heap.size W w') := hid fun W => iab ▸ uIn_any A B hA hB W
  have HMb : Hid (∀ W, Calls Try.prog 11 #[.agg (stC B).toArray] W fun e w' => e = .returned (.bool true) ∧ Below W.heap.size W w') := hid fun W => mb ▸ uMay_any B hB W
  obtain ⟨j1, j2, j3⟩ := sJoin_up ma mb
  obtain ⟨k1, k2, k3⟩ := sJoin_up mb ma
  have hj := sHolds_in hV he j2
  have hk := sHolds_in hV he k3
  have oj := sJoin_StOk hA hB
  have ok := sJoin_StOk hB hA
  have HJ : Hid (∀ W, Calls Try.prog 21 #[.agg (stC A).toArray, .agg (stC B).toArray] W fun e w' => e = .returned (.agg (stC (sJoin A B)).toArray) ∧ Below W.heap.size W w') := hid fun W => uJoin_any A B hA hB W
  have HK : Hid (∀ W, Calls Try.prog 21 #[.agg (stC B).toArray, .agg (stC A).toArray] W fun e w' => e = .returned (.agg (stC (sJoin B A)).toArray) ∧ Below W.heap.size W w') := hid fun W => uJoin_any B A hB hA W
  have HHj : Hid (∀ W, Calls Try.prog 16 #[.agg (stC (sJoin A B)).toArray, .agg (vwC V).toArray] W fun e w' => e = .returned (.bool true) ∧ Below W.heap.size W w') := hid fun W => hj ▸ uHolds_any (sJoin A B) V oj hV W
  have HHk : Hid (∀ W, Calls Try.prog 16 #[.agg (stC (sJoin B A)).toArray, .agg (vwC V).toArray] W fun e w' => e = .returned (.bool true) ∧ Below W.heap.size W w') := hid fun W => hk ▸ uHolds_any (sJoin B A) V ok hV W
  generalize sJoin A B = J at *
  generalize sJoin B A = K at *
  clear j1 j2 j3 k1 k2 k3 hj hk oj ok
  clear ma
  have HW := hid wakes_any
  have ZV : ∀ w, (zeroValue 55).run Try.prog w = .ok (.agg (vwC (vw0 0)).toArray) w := (zero_of_info zv_info).1
  have hlV : (vwC V).length = 877 := vwC_len _ hV.2.1
  have hF := hid hV.2.1
  have hi49 : Hid ((Try.prog.info? 49).map (·.size) = some (vwC V).length) := hid (by rw [hlV]; exact yinfo49)
  have hi55 := hid (yhv V hV.2.1)
  have YN : ∀ (W : World), Below w.heap.size w W → w.heap.size ≤ W.heap.size → RwT w.heap.size w ((W.alloc (.cells (vwC (vw0 0)).toArray 55)).setCells W.heap.size 0 (vwC V)) W.heap.size 877 (vwC V) := fun W h hg => ynew_vw V hV.2.1 h hg
  have YT := ythere_vw
  generalize vw0 0 = Z0 at *
  replace YN := hid YN
  replace YT := hid YT
  unfold stV vwV
  obtain ⟨CA, hCA⟩ : ∃ CF, (stC A).toArray = CF := ⟨_, rfl⟩
  obtain ⟨CB, hCB⟩ : ∃ CF, (stC B).toArray = CF := ⟨_, rfl⟩
  obtain ⟨CV, hCV⟩ : ∃ CF, (vwC V).toArray = CF := ⟨_, rfl⟩
  obtain ⟨XA, XB, XV⟩ := st_entry_v (w := w) A B V hV.2.1 hCA hCB hCV
  rw [hCA, hCB, hCV]
  replace XA := hid XA
  replace XB := hid XB
  replace XV := hid XV
  clear hCA hCB hCV hA hB hV hlV he iab mb
  go_enter Try.func7, Try.ntmps7
  go_wp2_with (first | ((with_reducible refine at_load (d := some 9) 49 ?_); refine wpList_load_g (by rfl) 49 _ rfl (w.heap.size + 1 + 1) 0 rfl (vwC V) _ XV.out.i.r0 Try.underlying49 rfl hi49.out ?_))
  refine (HV.out _).mono ?_
  rintro e w1 ⟨rfl, z⟩
  have XAn := XA.out.next z (by simp; omega)
  have XBn := XB.out.next z (by simp; omega)
  have XVn := XV.out.next z (by simp; omega)
  clear z XA XB XV
  have XA := hid XAn
  clear XAn
  have XB := hid XBn
  clear XBn
  have XV := hid XVn
  clear XVn
  have BE := XA.out.i.bel
  have XX := hid (YN.out w1 BE BE.size)
  have TX := hid (YT.out w1)
  have XAn := XA.out.made (o := .cells (vwC Z0).toArray 55) (c := w1.heap.size) (m := 0) (vs := vwC V) BE.size rfl
  clear XA
  have XA := hid XAn
  clear XAn
  have XBn := XB.out.made (o := .cells (vwC Z0).toArray 55) (c := w1.heap.size) (m := 0) (vs := vwC V) BE.size rfl
  clear XB
  have XB := hid XBn
  clear XBn
  have XVn := XV.out.made (o := .cells (vwC Z0).toArray 55) (c := w1.heap.size) (m := 0) (vs := vwC V) BE.size rfl
  clear XV
  have XV := hid XVn
  clear XVn
  have lJ := BE.size
  clear BE
  go_wp2_with (first | ((with_reducible refine at_load (d := some 11) 36 ?_); refine wpList_load_g (by rfl) 36 _ rfl w.heap.size 0 rfl (stC A) _ XA.out.i.r0 Try.underlying36 rfl (yhs _) ?_) | ((with_reducible refine at_load (d := some 12) 55 ?_); refine wpList_load_g (by rfl) 55 _ rfl w1.heap.size 0 rfl (vwC V) _ XX.out.i.r0 Try.underlying55 rfl hi55.out ?_) | ((with_reducible refine at_store (x := .tmp 7) (y := .tmp 10) 55 ?_); refine wpList_store_vw (.tmp 7) (.tmp 10) rfl rfl w1.heap.size V hF.out rfl rfl TX.out ?_))
  refine (HHa.out _).mono ?_
  rintro e w2 ⟨rfl, z⟩
  have XAn := XA.out.next z XA.out.i.bel.size
  have XBn := XB.out.next z XA.out.i.bel.size
  have XVn := XV.out.next z XA.out.i.bel.size
  have XXn := XX.out.next z XA.out.i.bel.size
  clear z XA XB XV XX
  have XA := hid XAn
  clear XAn
  have XB := hid XBn
  clear XBn
  have XV := hid XVn
  clear XVn
  have XX := hid XXn
  clear XXn
  go_wp2_with (first | ((with_reducible refine at_load (d := some 16) 36 ?_); refine wpList_load_g (by rfl) 36 _ rfl w.heap.size 0 rfl (stC A) _ XA.out.i.r0 Try.underlying36 rfl (yhs _) ?_))
  refine (HMa.out _).mono ?_
  rintro e w3 ⟨rfl, z⟩
  have XAn := XA.out.next z XA.out.i.bel.size
  have XBn := XB.out.next z XA.out.i.bel.size
  have XVn := XV.out.next z XA.out.i.bel.size
  have XXn := XX.out.next z XA.out.i.bel.size
  clear z XA XB XV XX
  have XA := hid XAn
  clear XAn
  have XB := hid XBn
  clear XBn
  have XV := hid XVn
  clear XVn
  have XX := hid XXn
  clear XXn
  go_wp2_with (first | ((with_reducible refine at_load (d := some 22) 36 ?_); refine wpList_load_g (by rfl) 36 _ rfl w.heap.size 0 rfl (stC A) _ XA.out.i.r0 Try.underlying36 rfl (yhs _) ?_) | ((with_reducible refine at_load (d := some 23) 36 ?_); refine wpList_load_g (by rfl) 36 _ rfl (w.heap.size + 1) 0 rfl (stC B) _ XB.out.i.r0 Try.underlying36 rfl (yhs _) ?_))
  refine (HIab.out _).mono ?_
  rintro e w4 ⟨rfl, z⟩
  have XAn := XA.out.next z XA.out.i.bel.size
  have XBn := XB.out.next z XA.out.i.bel.size
  have XVn := XV.out.next z XA.out.i.bel.size
  have XXn := XX.out.next z XA.out.i.bel.size
  clear z XA XB XV XX
  have XA := hid XAn
  clear XAn
  have XB := hid XBn
  clear XBn
  have XV := hid XVn
  clear XVn
  have XX := hid XXn
  clear XXn
  go_wp2_with fail
  have xa := XA.out.i.r0
  have xas := XA.out.i.sz
  have xb := XB.out.i.r0
  have xbs := XB.out.i.sz
  have xx := XX.out.i.r0
  have xxs := XX.out.i.sz
  have keepS : ∀ W, Below w4.heap.size w4 W → W.rangeAt w.heap.size 0 (stC A) ∧ W.rangeAt (w.heap.size + 1) 0 (stC B) ∧ W.rangeAt w1.heap.size 0 (vwC V) ∧ Below w4.heap.size w4 W := fun W hW => ⟨range_below xa xas (Me.bcell hW).1, range_below xb xbs (Me.bcell hW).1, range_below xx xxs (Me.bcell hW).1, hW⟩
  have hu55 := Try.underlying55
  have hu36 := Try.underlying36
  have hi5 := hi55.out
  have hiA := yhs A
  have hiB := yhs B
  have hB66 := Below.refl w4.heap.size w4
  refine wp_region_held_drew (S := (fun w' : World => w'.rangeAt w.heap.size 0 (stC A) ∧ w'.rangeAt (w.heap.size + 1) 0 (stC B) ∧ w'.rangeAt w1.heap.size 0 (vwC V) ∧ Below w4.heap.size w4 w')) (by kernel_rfl) ?_ (fun hHeld => ?_)
  · (try dsimp only); (refine keepS _ ?_; first | (with_reducible assumption) | ((with_reducible refine Below.drew ?_); with_reducible assumption) | exact below_dr _)
  have hBk := below_dr w4
  refine take_d (i := 0) (v := ?vsnd101r1) rfl (by rfl) (by kernel_rfl) (by kernel_rfl) (by kernel_rfl) (fun _ _ _ h => h) (Or.inl ⟨by rfl, ?hsnd101r1⟩) (by assumption) ?rsnd101r1
  case hsnd101r1 => (intro wS hSw; (try dsimp only at hSw); go_simp; try (with_reducible rfl))
  (try simp only [Act.put, List.setIfInBounds_toArray, List.set_cons_zero, List.set_cons_succ])
  refine take_d (i := 1) (v := ?vsnd101r2) rfl (by rfl) (by kernel_rfl) (by kernel_rfl) (by kernel_rfl) (fun _ _ _ h => h) (Or.inl ⟨by rfl, ?hsnd101r2⟩) (by assumption) ?rsnd101r2
  case hsnd101r2 => (intro wS hSw; (try dsimp only at hSw); go_simp; try (with_reducible rfl))
  (try simp only [Act.put, List.setIfInBounds_toArray, List.set_cons_zero, List.set_cons_succ])
  refine take_d (i := 2) (v := _) rfl (by rfl) (by kernel_rfl) (by kernel_rfl) (by kernel_rfl) (fun _ _ _ h => h) (yieldsIf_load_mid (by rfl) _ _ rfl _ _ rfl (stC B) _ ?hsnd101r3 hu36 rfl hiB) (by assumption) ?rsnd101r3
  case hsnd101r3 => (intro wS hSw; (try dsimp only at hSw); go_split_ands; assumption)
  (try simp only [Act.put, List.setIfInBounds_toArray, List.set_cons_zero, List.set_cons_succ])
  refine wpAnyH_ready (rs := [3]) (by kernel_rfl) (by simp) ?_
  refine AllReadyH.cons rfl (fun K hK => ?_) AllReadyH.nil
  go_simp
  go_at_call 11
  refine (HMb.out _).mono ?_
  rintro e wsnd101r4 ⟨rfl, bksnd101r4⟩
  have hBn := below_next hBk bksnd101r4
  clear hBk bksnd101r4
  have hBk := hBn
  clear hBn
  try go_simp
  refine hK.out _ _ ?_ (fun hHeld => ?_)
  · (try dsimp only); exact keepS _ hBk
  clear hK K
  (try simp only [Act.put, List.setIfInBounds_toArray, List.set_cons_zero, List.set_cons_succ])
  refine take_d (i := 4) (v := ?vsnd101r5) rfl (by rfl) (by kernel_rfl) (by kernel_rfl) (by kernel_rfl) (fun _ _ _ h => h) (Or.inl ⟨by rfl, ?hsnd101r5⟩) (by assumption) ?rsnd101r5
  case hsnd101r5 => (intro wS hSw; (try dsimp only at hSw); go_simp; try (with_reducible rfl))
  (try simp only [Act.put, List.setIfInBounds_toArray, List.set_cons_zero, List.set_cons_succ])
  refine take_d (i := 5) (v := ?vsnd101r6) rfl (by rfl) (by kernel_rfl) (by kernel_rfl) (by kernel_rfl) (fun _ _ _ h => h) (Or.inl ⟨by rfl, ?hsnd101r6⟩) (by assumption) ?rsnd101r6
  case hsnd101r6 => (intro wS hSw; (try dsimp only at hSw); go_simp; try (with_reducible rfl))
  (try simp only [Act.put, List.setIfInBounds_toArray, List.set_cons_zero, List.set_cons_succ])
  refine take_d (i := 6) (v := _) rfl (by rfl) (by kernel_rfl) (by kernel_rfl) (by kernel_rfl) (fun _ _ _ h => h) (yieldsIf_load_mid (by rfl) _ _ rfl _ _ rfl (stC A) _ ?hsnd101r7 hu36 rfl hiA) (by assumption) ?rsnd101r7
  case hsnd101r7 => (intro wS hSw; (try dsimp only at hSw); go_split_ands; assumption)
  (try simp only [Act.put, List.setIfInBounds_toArray, List.set_cons_zero, List.set_cons_succ])
  refine take_d (i := 7) (v := _) rfl (by rfl) (by kernel_rfl) (by kernel_rfl) (by kernel_rfl) (fun _ _ _ h => h) (yieldsIf_load_mid (by rfl) _ _ rfl _ _ rfl (stC B) _ ?hsnd101r8 hu36 rfl hiB) (by assumption) ?rsnd101r8
  case hsnd101r8 => (intro wS hSw; (try dsimp only at hSw); go_split_ands; assumption)
  (try simp only [Act.put, List.setIfInBounds_toArray, List.set_cons_zero, List.set_cons_succ])
  refine take_d (i := 9) (v := _) rfl (by rfl) (by kernel_rfl) (by kernel_rfl) (by kernel_rfl) (fun _ _ _ h => h) (yieldsIf_load_mid (by rfl) _ _ rfl _ _ rfl (vwC V) _ ?hsnd101r9 hu55 rfl hi5) (by assumption) ?rsnd101r9
  case hsnd101r9 => (intro wS hSw; (try dsimp only at hSw); go_split_ands; assumption)
  (try simp only [Act.put, List.setIfInBounds_toArray, List.set_cons_zero, List.set_cons_succ])
  refine wpAnyH_ready (rs := [8]) (by kernel_rfl) (by simp) ?_
  refine AllReadyH.cons rfl (fun K hK => ?_) AllReadyH.nil
  go_simp
  go_at_call 21
  refine (HJ.out _).mono ?_
  rintro e wsnd101r10 ⟨rfl, bksnd101r10⟩
  have hBn := below_next hBk bksnd101r10
  clear hBk bksnd101r10
  have hBk := hBn
  clear hBn
  try go_simp
  refine hK.out _ _ ?_ (fun hHeld => ?_)
  · (try dsimp only); exact keepS _ hBk
  clear hK K
  (try simp only [Act.put, List.setIfInBounds_toArray, List.set_cons_zero, List.set_cons_succ])
  refine wpAnyH_ready (rs := [10]) (by kernel_rfl) (by simp) ?_
  refine AllReadyH.cons rfl (fun K hK => ?_) AllReadyH.nil
  go_simp
  go_at_call 16
  refine (HHj.out _).mono ?_
  rintro e wsnd101r11 ⟨rfl, bksnd101r11⟩
  have hBn := below_next hBk bksnd101r11
  clear hBk bksnd101r11
  have hBk := hBn
  clear hBn
  try go_simp
  refine hK.out _ _ ?_ (fun hHeld => ?_)
  · (try dsimp only); exact keepS _ hBk
  clear hK K
  (try simp only [Act.put, List.setIfInBounds_toArray, List.set_cons_zero, List.set_cons_succ])
  refine take_d (i := 11) (v := ?vsnd101r12) rfl (by rfl) (by kernel_rfl) (by kernel_rfl) (by kernel_rfl) (fun _ _ _ h => h) (Or.inl ⟨by rfl, ?hsnd101r12⟩) (by assumption) ?rsnd101r12
  case hsnd101r12 => (intro wS hSw; (try dsimp only at hSw); go_simp; try (with_reducible rfl))
  (try simp only [Act.put, List.setIfInBounds_toArray, List.set_cons_zero, List.set_cons_succ])
  refine take_d (i := 12) (v := ?vsnd101r13) rfl (by rfl) (by kernel_rfl) (by kernel_rfl) (by kernel_rfl) (fun _ _ _ h => h) (Or.inl ⟨by rfl, ?hsnd101r13⟩) (by assumption) ?rsnd101r13
  case hsnd101r13 => (intro wS hSw; (try dsimp only at hSw); go_simp; try (with_reducible rfl))
  (try simp only [Act.put, List.setIfInBounds_toArray, List.set_cons_zero, List.set_cons_succ])
  refine take_d (i := 13) (v := _) rfl (by rfl) (by kernel_rfl) (by kernel_rfl) (by kernel_rfl) (fun _ _ _ h => h) (yieldsIf_load_mid (by rfl) _ _ rfl _ _ rfl (stC B) _ ?hsnd101r14 hu36 rfl hiB) (by assumption) ?rsnd101r14
  case hsnd101r14 => (intro wS hSw; (try dsimp only at hSw); go_split_ands; assumption)
  (try simp only [Act.put, List.setIfInBounds_toArray, List.set_cons_zero, List.set_cons_succ])
  refine take_d (i := 14) (v := _) rfl (by rfl) (by kernel_rfl) (by kernel_rfl) (by kernel_rfl) (fun _ _ _ h => h) (yieldsIf_load_mid (by rfl) _ _ rfl _ _ rfl (stC A) _ ?hsnd101r15 hu36 rfl hiA) (by assumption) ?rsnd101r15
  case hsnd101r15 => (intro wS hSw; (try dsimp only at hSw); go_split_ands; assumption)
  (try simp only [Act.put, List.setIfInBounds_toArray, List.set_cons_zero, List.set_cons_succ])
  refine take_d (i := 16) (v := _) rfl (by rfl) (by kernel_rfl) (by kernel_rfl) (by kernel_rfl) (fun _ _ _ h => h) (yieldsIf_load_mid (by rfl) _ _ rfl _ _ rfl (vwC V) _ ?hsnd101r16 hu55 rfl hi5) (by assumption) ?rsnd101r16
  case hsnd101r16 => (intro wS hSw; (try dsimp only at hSw); go_split_ands; assumption)
  (try simp only [Act.put, List.setIfInBounds_toArray, List.set_cons_zero, List.set_cons_succ])
  refine wpAnyH_ready (rs := [15]) (by kernel_rfl) (by simp) ?_
  refine AllReadyH.cons rfl (fun K hK => ?_) AllReadyH.nil
  go_simp
  go_at_call 21
  refine (HK.out _).mono ?_
  rintro e wsnd101r17 ⟨rfl, bksnd101r17⟩
  have hBn := below_next hBk bksnd101r17
  clear hBk bksnd101r17
  have hBk := hBn
  clear hBn
  try go_simp
  refine hK.out _ _ ?_ (fun hHeld => ?_)
  · (try dsimp only); exact keepS _ hBk
  clear hK K
  (try simp only [Act.put, List.setIfInBounds_toArray, List.set_cons_zero, List.set_cons_succ])
  refine wpAnyH_ready (rs := [17]) (by kernel_rfl) (by simp) ?_
  refine AllReadyH.cons rfl (fun K hK => ?_) AllReadyH.nil
  go_simp
  go_at_call 16
  refine (HHk.out _).mono ?_
  rintro e wsnd101r18 ⟨rfl, bksnd101r18⟩
  have hBn := below_next hBk bksnd101r18
  clear hBk bksnd101r18
  have hBk := hBn
  clear hBn
  try go_simp
  refine hK.out _ _ ?_ (fun hHeld => ?_)
  · (try dsimp only); exact keepS _ hBk
  clear hK K
  (try simp only [Act.put, List.setIfInBounds_toArray, List.set_cons_zero, List.set_cons_succ])
  refine take_d (i := 18) (v := ?vsnd101r19) rfl (by rfl) (by kernel_rfl) (by kernel_rfl) (by kernel_rfl) (fun _ _ _ h => h) (Or.inl ⟨by rfl, ?hsnd101r19⟩) (by assumption) ?rsnd101r19
  case hsnd101r19 => (intro wS hSw; (try dsimp only at hSw); go_simp; try (with_reducible rfl))
  (try simp only [Act.put, List.setIfInBounds_toArray, List.set_cons_zero, List.set_cons_succ])
  refine take_d (i := 19) (v := ?vsnd101r20) rfl (by rfl) (by kernel_rfl) (by kernel_rfl) (by kernel_rfl) (fun _ _ _ h => h) (Or.inl ⟨by rfl, ?hsnd101r20⟩) (by assumption) ?rsnd101r20
  case hsnd101r20 => (intro wS hSw; (try dsimp only at hSw); go_simp; try (with_reducible rfl))
  (try simp only [Act.put, List.setIfInBounds_toArray, List.set_cons_zero, List.set_cons_succ])
  refine take_d (i := 20) (v := ?vsnd101r21) rfl (by rfl) (by kernel_rfl) (by kernel_rfl) (by kernel_rfl) (fun _ _ _ h => h) (Or.inl ⟨by rfl, ?hsnd101r21⟩) (by assumption) ?rsnd101r21
  case hsnd101r21 => (intro wS hSw; (try dsimp only at hSw); go_simp; try (with_reducible rfl))
  (try simp only [Act.put, List.setIfInBounds_toArray, List.set_cons_zero, List.set_cons_succ])
  refine wpAnyH_done (by kernel_rfl) ?_ _
  go_split_ands
  have BB := below_next XA.out.i.bel hBk
  go_wp2_with fail
  refine (HW.out _).mono ?_
  rintro e wz ⟨rfl, z⟩
  go_wp2
  go_ret
  exact ⟨rfl, below_next BB z⟩
set_option maxHeartbeats 16000000 in
theorem snd_111 (A B : St) (V : Vw) (hA : StOk A) (hB : StOk B) (hV : VwOk V) (he : sHolds A V = true) (iab : sIn A B = true) (mb : sMay B = true) (w : World) : Calls Try.prog 7 #[stV A, stV B, vwV V] w fun e w' => e = .returned (.bool true) ∧ Below w.heap.size w w' := by
  have HV : Hid (∀ W, Calls Try.prog 17 #[.agg (vwC V).toArray] W fun e w' => e = .returned (.agg (vwC V).toArray) ∧ Below W.heap.size W w') := hid fun W => view_any V hV W
  have HHa : Hid (∀ W, Calls Try.prog 16 #[.agg (stC A).toArray, .agg (vwC V).toArray] W fun e w' => e = .returned (.bool true) ∧ Below W.heap.size W w') := hid fun W => he ▸ uHolds_any A V hA hV W
  have ma := ((sHolds_iff A V).1 he).1
  have HMa : Hid (∀ W, Calls Try.prog 11 #[.agg (stC A).toArray] W fun e w' => e = .returned (.bool true) ∧ Below W.heap.size W w') := hid fun W => ma ▸ uMay_any A hA W
  have HIab : Hid (∀ W, Calls Try.prog 19 #[.agg (stC A).toArray, .agg (stC B).toArray] W fun e w' => e = .returned (.bool true) ∧ Below W.heap.size W w') := hid fun W => iab ▸ uIn_any A B hA hB W
  have hb1 := sHolds_in hV he iab
  have HHb : Hid (∀ W, Calls Try.prog 16 #[.agg (stC B).toArray, .agg (vwC V).toArray] W fun e w' => e = .returned (.bool true) ∧ Below W.heap.size W w') := hid fun W => hb1 ▸ uHolds_any B V hB hV W
  have HMb : Hid (∀ W, Calls Try.prog 11 #[.agg (stC B).toArray] W fun e w' => e = .returned (.bool true) ∧ Below W.heap.size W w') := hid fun W => mb ▸ uMay_any B hB W
  obtain ⟨j1, j2, j3⟩ := sJoin_up ma mb
  obtain ⟨k1, k2, k3⟩ := sJoin_up mb ma
  have hj := sHolds_in hV he j2
  have hk := sHolds_in hV he k3
  have oj := sJoin_StOk hA hB
  have ok := sJoin_StOk hB hA
  have HJ : Hid (∀ W, Calls Try.prog 21 #[.agg (stC A).toArray, .agg (stC B).toArray] W fun e w' => e = .returned (.agg (stC (sJoin A B)).toArray) ∧ Below W.heap.size W w') := hid fun W => uJoin_any A B hA hB W
  have HK : Hid (∀ W, Calls Try.prog 21 #[.agg (stC B).toArray, .agg (stC A).toArray] W fun e w' => e = .returned (.agg (stC (sJoin B A)).toArray) ∧ Below W.heap.size W w') := hid fun W => uJoin_any B A hB hA W
  have HHj : Hid (∀ W, Calls Try.prog 16 #[.agg (stC (sJoin A B)).toArray, .agg (vwC V).toArray] W fun e w' => e = .returned (.bool true) ∧ Below W.heap.size W w') := hid fun W => hj ▸ uHolds_any (sJoin A B) V oj hV W
  have HHk : Hid (∀ W, Calls Try.prog 16 #[.agg (stC (sJoin B A)).toArray, .agg (vwC V).toArray] W fun e w' => e = .returned (.bool true) ∧ Below W.heap.size W w') := hid fun W => hk ▸ uHolds_any (sJoin B A) V ok hV W
  generalize sJoin A B = J at *
  generalize sJoin B A = K at *
  clear j1 j2 j3 k1 k2 k3 hj hk oj ok
  clear ma hb1
  have HW := hid wakes_any
  have ZV : ∀ w, (zeroValue 55).run Try.prog w = .ok (.agg (vwC (vw0 0)).toArray) w := (zero_of_info zv_info).1
  have hlV : (vwC V).length = 877 := vwC_len _ hV.2.1
  have hF := hid hV.2.1
  have hi49 : Hid ((Try.prog.info? 49).map (·.size) = some (vwC V).length) := hid (by rw [hlV]; exact yinfo49)
  have hi55 := hid (yhv V hV.2.1)
  have YN : ∀ (W : World), Below w.heap.size w W → w.heap.size ≤ W.heap.size → RwT w.heap.size w ((W.alloc (.cells (vwC (vw0 0)).toArray 55)).setCells W.heap.size 0 (vwC V)) W.heap.size 877 (vwC V) := fun W h hg => ynew_vw V hV.2.1 h hg
  have YT := ythere_vw
  generalize vw0 0 = Z0 at *
  replace YN := hid YN
  replace YT := hid YT
  unfold stV vwV
  obtain ⟨CA, hCA⟩ : ∃ CF, (stC A).toArray = CF := ⟨_, rfl⟩
  obtain ⟨CB, hCB⟩ : ∃ CF, (stC B).toArray = CF := ⟨_, rfl⟩
  obtain ⟨CV, hCV⟩ : ∃ CF, (vwC V).toArray = CF := ⟨_, rfl⟩
  obtain ⟨XA, XB, XV⟩ := st_entry_v (w := w) A B V hV.2.1 hCA hCB hCV
  rw [hCA, hCB, hCV]
  replace XA := hid XA
  replace XB := hid XB
  replace XV := hid XV
  clear hCA hCB hCV hA hB hV hlV he iab mb
  go_enter Try.func7, Try.ntmps7
  go_wp2_with (first | ((with_reducible refine at_load (d := some 9) 49 ?_); refine wpList_load_g (by rfl) 49 _ rfl (w.heap.size + 1 + 1) 0 rfl (vwC V) _ XV.out.i.r0 Try.underlying49 rfl hi49.out ?_))
  refine (HV.out _).mono ?_
  rintro e w1 ⟨rfl, z⟩
  have XAn := XA.out.next z (by simp; omega)
  have XBn := XB.out.next z (by simp; omega)
  have XVn := XV.out.next z (by simp; omega)
  clear z XA XB XV
  have XA := hid XAn
  clear XAn
  have XB := hid XBn
  clear XBn
  have XV := hid XVn
  clear XVn
  have BE := XA.out.i.bel
  have XX := hid (YN.out w1 BE BE.size)
  have TX := hid (YT.out w1)
  have XAn := XA.out.made (o := .cells (vwC Z0).toArray 55) (c := w1.heap.size) (m := 0) (vs := vwC V) BE.size rfl
  clear XA
  have XA := hid XAn
  clear XAn
  have XBn := XB.out.made (o := .cells (vwC Z0).toArray 55) (c := w1.heap.size) (m := 0) (vs := vwC V) BE.size rfl
  clear XB
  have XB := hid XBn
  clear XBn
  have XVn := XV.out.made (o := .cells (vwC Z0).toArray 55) (c := w1.heap.size) (m := 0) (vs := vwC V) BE.size rfl
  clear XV
  have XV := hid XVn
  clear XVn
  have lJ := BE.size
  clear BE
  go_wp2_with (first | ((with_reducible refine at_load (d := some 11) 36 ?_); refine wpList_load_g (by rfl) 36 _ rfl w.heap.size 0 rfl (stC A) _ XA.out.i.r0 Try.underlying36 rfl (yhs _) ?_) | ((with_reducible refine at_load (d := some 12) 55 ?_); refine wpList_load_g (by rfl) 55 _ rfl w1.heap.size 0 rfl (vwC V) _ XX.out.i.r0 Try.underlying55 rfl hi55.out ?_) | ((with_reducible refine at_store (x := .tmp 7) (y := .tmp 10) 55 ?_); refine wpList_store_vw (.tmp 7) (.tmp 10) rfl rfl w1.heap.size V hF.out rfl rfl TX.out ?_))
  refine (HHa.out _).mono ?_
  rintro e w2 ⟨rfl, z⟩
  have XAn := XA.out.next z XA.out.i.bel.size
  have XBn := XB.out.next z XA.out.i.bel.size
  have XVn := XV.out.next z XA.out.i.bel.size
  have XXn := XX.out.next z XA.out.i.bel.size
  clear z XA XB XV XX
  have XA := hid XAn
  clear XAn
  have XB := hid XBn
  clear XBn
  have XV := hid XVn
  clear XVn
  have XX := hid XXn
  clear XXn
  go_wp2_with (first | ((with_reducible refine at_load (d := some 16) 36 ?_); refine wpList_load_g (by rfl) 36 _ rfl w.heap.size 0 rfl (stC A) _ XA.out.i.r0 Try.underlying36 rfl (yhs _) ?_))
  refine (HMa.out _).mono ?_
  rintro e w3 ⟨rfl, z⟩
  have XAn := XA.out.next z XA.out.i.bel.size
  have XBn := XB.out.next z XA.out.i.bel.size
  have XVn := XV.out.next z XA.out.i.bel.size
  have XXn := XX.out.next z XA.out.i.bel.size
  clear z XA XB XV XX
  have XA := hid XAn
  clear XAn
  have XB := hid XBn
  clear XBn
  have XV := hid XVn
  clear XVn
  have XX := hid XXn
  clear XXn
  go_wp2_with (first | ((with_reducible refine at_load (d := some 22) 36 ?_); refine wpList_load_g (by rfl) 36 _ rfl w.heap.size 0 rfl (stC A) _ XA.out.i.r0 Try.underlying36 rfl (yhs _) ?_) | ((with_reducible refine at_load (d := some 23) 36 ?_); refine wpList_load_g (by rfl) 36 _ rfl (w.heap.size + 1) 0 rfl (stC B) _ XB.out.i.r0 Try.underlying36 rfl (yhs _) ?_))
  refine (HIab.out _).mono ?_
  rintro e w4 ⟨rfl, z⟩
  have XAn := XA.out.next z XA.out.i.bel.size
  have XBn := XB.out.next z XA.out.i.bel.size
  have XVn := XV.out.next z XA.out.i.bel.size
  have XXn := XX.out.next z XA.out.i.bel.size
  clear z XA XB XV XX
  have XA := hid XAn
  clear XAn
  have XB := hid XBn
  clear XBn
  have XV := hid XVn
  clear XVn
  have XX := hid XXn
  clear XXn
  go_wp2_with (first | ((with_reducible refine at_load (d := some 27) 36 ?_); refine wpList_load_g (by rfl) 36 _ rfl (w.heap.size + 1) 0 rfl (stC B) _ XB.out.i.r0 Try.underlying36 rfl (yhs _) ?_) | ((with_reducible refine at_load (d := some 28) 55 ?_); refine wpList_load_g (by rfl) 55 _ rfl w1.heap.size 0 rfl (vwC V) _ XX.out.i.r0 Try.underlying55 rfl hi55.out ?_))
  refine (HHb.out _).mono ?_
  rintro e w5 ⟨rfl, z⟩
  have XAn := XA.out.next z XA.out.i.bel.size
  have XBn := XB.out.next z XA.out.i.bel.size
  have XVn := XV.out.next z XA.out.i.bel.size
  have XXn := XX.out.next z XA.out.i.bel.size
  clear z XA XB XV XX
  have XA := hid XAn
  clear XAn
  have XB := hid XBn
  clear XBn
  have XV := hid XVn
  clear XVn
  have XX := hid XXn
  clear XXn
  go_wp2_with fail
  have xa := XA.out.i.r0
  have xas := XA.out.i.sz
  have xb := XB.out.i.r0
  have xbs := XB.out.i.sz
  have xx := XX.out.i.r0
  have xxs := XX.out.i.sz
  have keepS : ∀ W, Below w5.heap.size w5 W → W.rangeAt w.heap.size 0 (stC A) ∧ W.rangeAt (w.heap.size + 1) 0 (stC B) ∧ W.rangeAt w1.heap.size 0 (vwC V) ∧ Below w5.heap.size w5 W := fun W hW => ⟨range_below xa xas (Me.bcell hW).1, range_below xb xbs (Me.bcell hW).1, range_below xx xxs (Me.bcell hW).1, hW⟩
  have hu55 := Try.underlying55
  have hu36 := Try.underlying36
  have hi5 := hi55.out
  have hiA := yhs A
  have hiB := yhs B
  have hB66 := Below.refl w5.heap.size w5
  refine wp_region_held_drew (S := (fun w' : World => w'.rangeAt w.heap.size 0 (stC A) ∧ w'.rangeAt (w.heap.size + 1) 0 (stC B) ∧ w'.rangeAt w1.heap.size 0 (vwC V) ∧ Below w5.heap.size w5 w')) (by kernel_rfl) ?_ (fun hHeld => ?_)
  · (try dsimp only); (refine keepS _ ?_; first | (with_reducible assumption) | ((with_reducible refine Below.drew ?_); with_reducible assumption) | exact below_dr _)
  have hBk := below_dr w5
  refine take_d (i := 0) (v := ?vsnd111r1) rfl (by rfl) (by kernel_rfl) (by kernel_rfl) (by kernel_rfl) (fun _ _ _ h => h) (Or.inl ⟨by rfl, ?hsnd111r1⟩) (by assumption) ?rsnd111r1
  case hsnd111r1 => (intro wS hSw; (try dsimp only at hSw); go_simp; try (with_reducible rfl))
  (try simp only [Act.put, List.setIfInBounds_toArray, List.set_cons_zero, List.set_cons_succ])
  refine take_d (i := 1) (v := ?vsnd111r2) rfl (by rfl) (by kernel_rfl) (by kernel_rfl) (by kernel_rfl) (fun _ _ _ h => h) (Or.inl ⟨by rfl, ?hsnd111r2⟩) (by assumption) ?rsnd111r2
  case hsnd111r2 => (intro wS hSw; (try dsimp only at hSw); go_simp; try (with_reducible rfl))
  (try simp only [Act.put, List.setIfInBounds_toArray, List.set_cons_zero, List.set_cons_succ])
  refine take_d (i := 2) (v := _) rfl (by rfl) (by kernel_rfl) (by kernel_rfl) (by kernel_rfl) (fun _ _ _ h => h) (yieldsIf_load_mid (by rfl) _ _ rfl _ _ rfl (stC B) _ ?hsnd111r3 hu36 rfl hiB) (by assumption) ?rsnd111r3
  case hsnd111r3 => (intro wS hSw; (try dsimp only at hSw); go_split_ands; assumption)
  (try simp only [Act.put, List.setIfInBounds_toArray, List.set_cons_zero, List.set_cons_succ])
  refine wpAnyH_ready (rs := [3]) (by kernel_rfl) (by simp) ?_
  refine AllReadyH.cons rfl (fun K hK => ?_) AllReadyH.nil
  go_simp
  go_at_call 11
  refine (HMb.out _).mono ?_
  rintro e wsnd111r4 ⟨rfl, bksnd111r4⟩
  have hBn := below_next hBk bksnd111r4
  clear hBk bksnd111r4
  have hBk := hBn
  clear hBn
  try go_simp
  refine hK.out _ _ ?_ (fun hHeld => ?_)
  · (try dsimp only); exact keepS _ hBk
  clear hK K
  (try simp only [Act.put, List.setIfInBounds_toArray, List.set_cons_zero, List.set_cons_succ])
  refine take_d (i := 4) (v := ?vsnd111r5) rfl (by rfl) (by kernel_rfl) (by kernel_rfl) (by kernel_rfl) (fun _ _ _ h => h) (Or.inl ⟨by rfl, ?hsnd111r5⟩) (by assumption) ?rsnd111r5
  case hsnd111r5 => (intro wS hSw; (try dsimp only at hSw); go_simp; try (with_reducible rfl))
  (try simp only [Act.put, List.setIfInBounds_toArray, List.set_cons_zero, List.set_cons_succ])
  refine take_d (i := 5) (v := ?vsnd111r6) rfl (by rfl) (by kernel_rfl) (by kernel_rfl) (by kernel_rfl) (fun _ _ _ h => h) (Or.inl ⟨by rfl, ?hsnd111r6⟩) (by assumption) ?rsnd111r6
  case hsnd111r6 => (intro wS hSw; (try dsimp only at hSw); go_simp; try (with_reducible rfl))
  (try simp only [Act.put, List.setIfInBounds_toArray, List.set_cons_zero, List.set_cons_succ])
  refine take_d (i := 6) (v := _) rfl (by rfl) (by kernel_rfl) (by kernel_rfl) (by kernel_rfl) (fun _ _ _ h => h) (yieldsIf_load_mid (by rfl) _ _ rfl _ _ rfl (stC A) _ ?hsnd111r7 hu36 rfl hiA) (by assumption) ?rsnd111r7
  case hsnd111r7 => (intro wS hSw; (try dsimp only at hSw); go_split_ands; assumption)
  (try simp only [Act.put, List.setIfInBounds_toArray, List.set_cons_zero, List.set_cons_succ])
  refine take_d (i := 7) (v := _) rfl (by rfl) (by kernel_rfl) (by kernel_rfl) (by kernel_rfl) (fun _ _ _ h => h) (yieldsIf_load_mid (by rfl) _ _ rfl _ _ rfl (stC B) _ ?hsnd111r8 hu36 rfl hiB) (by assumption) ?rsnd111r8
  case hsnd111r8 => (intro wS hSw; (try dsimp only at hSw); go_split_ands; assumption)
  (try simp only [Act.put, List.setIfInBounds_toArray, List.set_cons_zero, List.set_cons_succ])
  refine take_d (i := 9) (v := _) rfl (by rfl) (by kernel_rfl) (by kernel_rfl) (by kernel_rfl) (fun _ _ _ h => h) (yieldsIf_load_mid (by rfl) _ _ rfl _ _ rfl (vwC V) _ ?hsnd111r9 hu55 rfl hi5) (by assumption) ?rsnd111r9
  case hsnd111r9 => (intro wS hSw; (try dsimp only at hSw); go_split_ands; assumption)
  (try simp only [Act.put, List.setIfInBounds_toArray, List.set_cons_zero, List.set_cons_succ])
  refine wpAnyH_ready (rs := [8]) (by kernel_rfl) (by simp) ?_
  refine AllReadyH.cons rfl (fun K hK => ?_) AllReadyH.nil
  go_simp
  go_at_call 21
  refine (HJ.out _).mono ?_
  rintro e wsnd111r10 ⟨rfl, bksnd111r10⟩
  have hBn := below_next hBk bksnd111r10
  clear hBk bksnd111r10
  have hBk := hBn
  clear hBn
  try go_simp
  refine hK.out _ _ ?_ (fun hHeld => ?_)
  · (try dsimp only); exact keepS _ hBk
  clear hK K
  (try simp only [Act.put, List.setIfInBounds_toArray, List.set_cons_zero, List.set_cons_succ])
  refine wpAnyH_ready (rs := [10]) (by kernel_rfl) (by simp) ?_
  refine AllReadyH.cons rfl (fun K hK => ?_) AllReadyH.nil
  go_simp
  go_at_call 16
  refine (HHj.out _).mono ?_
  rintro e wsnd111r11 ⟨rfl, bksnd111r11⟩
  have hBn := below_next hBk bksnd111r11
  clear hBk bksnd111r11
  have hBk := hBn
  clear hBn
  try go_simp
  refine hK.out _ _ ?_ (fun hHeld => ?_)
  · (try dsimp only); exact keepS _ hBk
  clear hK K
  (try simp only [Act.put, List.setIfInBounds_toArray, List.set_cons_zero, List.set_cons_succ])
  refine take_d (i := 11) (v := ?vsnd111r12) rfl (by rfl) (by kernel_rfl) (by kernel_rfl) (by kernel_rfl) (fun _ _ _ h => h) (Or.inl ⟨by rfl, ?hsnd111r12⟩) (by assumption) ?rsnd111r12
  case hsnd111r12 => (intro wS hSw; (try dsimp only at hSw); go_simp; try (with_reducible rfl))
  (try simp only [Act.put, List.setIfInBounds_toArray, List.set_cons_zero, List.set_cons_succ])
  refine take_d (i := 12) (v := ?vsnd111r13) rfl (by rfl) (by kernel_rfl) (by kernel_rfl) (by kernel_rfl) (fun _ _ _ h => h) (Or.inl ⟨by rfl, ?hsnd111r13⟩) (by assumption) ?rsnd111r13
  case hsnd111r13 => (intro wS hSw; (try dsimp only at hSw); go_simp; try (with_reducible rfl))
  (try simp only [Act.put, List.setIfInBounds_toArray, List.set_cons_zero, List.set_cons_succ])
  refine take_d (i := 13) (v := _) rfl (by rfl) (by kernel_rfl) (by kernel_rfl) (by kernel_rfl) (fun _ _ _ h => h) (yieldsIf_load_mid (by rfl) _ _ rfl _ _ rfl (stC B) _ ?hsnd111r14 hu36 rfl hiB) (by assumption) ?rsnd111r14
  case hsnd111r14 => (intro wS hSw; (try dsimp only at hSw); go_split_ands; assumption)
  (try simp only [Act.put, List.setIfInBounds_toArray, List.set_cons_zero, List.set_cons_succ])
  refine take_d (i := 14) (v := _) rfl (by rfl) (by kernel_rfl) (by kernel_rfl) (by kernel_rfl) (fun _ _ _ h => h) (yieldsIf_load_mid (by rfl) _ _ rfl _ _ rfl (stC A) _ ?hsnd111r15 hu36 rfl hiA) (by assumption) ?rsnd111r15
  case hsnd111r15 => (intro wS hSw; (try dsimp only at hSw); go_split_ands; assumption)
  (try simp only [Act.put, List.setIfInBounds_toArray, List.set_cons_zero, List.set_cons_succ])
  refine take_d (i := 16) (v := _) rfl (by rfl) (by kernel_rfl) (by kernel_rfl) (by kernel_rfl) (fun _ _ _ h => h) (yieldsIf_load_mid (by rfl) _ _ rfl _ _ rfl (vwC V) _ ?hsnd111r16 hu55 rfl hi5) (by assumption) ?rsnd111r16
  case hsnd111r16 => (intro wS hSw; (try dsimp only at hSw); go_split_ands; assumption)
  (try simp only [Act.put, List.setIfInBounds_toArray, List.set_cons_zero, List.set_cons_succ])
  refine wpAnyH_ready (rs := [15]) (by kernel_rfl) (by simp) ?_
  refine AllReadyH.cons rfl (fun K hK => ?_) AllReadyH.nil
  go_simp
  go_at_call 21
  refine (HK.out _).mono ?_
  rintro e wsnd111r17 ⟨rfl, bksnd111r17⟩
  have hBn := below_next hBk bksnd111r17
  clear hBk bksnd111r17
  have hBk := hBn
  clear hBn
  try go_simp
  refine hK.out _ _ ?_ (fun hHeld => ?_)
  · (try dsimp only); exact keepS _ hBk
  clear hK K
  (try simp only [Act.put, List.setIfInBounds_toArray, List.set_cons_zero, List.set_cons_succ])
  refine wpAnyH_ready (rs := [17]) (by kernel_rfl) (by simp) ?_
  refine AllReadyH.cons rfl (fun K hK => ?_) AllReadyH.nil
  go_simp
  go_at_call 16
  refine (HHk.out _).mono ?_
  rintro e wsnd111r18 ⟨rfl, bksnd111r18⟩
  have hBn := below_next hBk bksnd111r18
  clear hBk bksnd111r18
  have hBk := hBn
  clear hBn
  try go_simp
  refine hK.out _ _ ?_ (fun hHeld => ?_)
  · (try dsimp only); exact keepS _ hBk
  clear hK K
  (try simp only [Act.put, List.setIfInBounds_toArray, List.set_cons_zero, List.set_cons_succ])
  refine take_d (i := 18) (v := ?vsnd111r19) rfl (by rfl) (by kernel_rfl) (by kernel_rfl) (by kernel_rfl) (fun _ _ _ h => h) (Or.inl ⟨by rfl, ?hsnd111r19⟩) (by assumption) ?rsnd111r19
  case hsnd111r19 => (intro wS hSw; (try dsimp only at hSw); go_simp; try (with_reducible rfl))
  (try simp only [Act.put, List.setIfInBounds_toArray, List.set_cons_zero, List.set_cons_succ])
  refine take_d (i := 19) (v := ?vsnd111r20) rfl (by rfl) (by kernel_rfl) (by kernel_rfl) (by kernel_rfl) (fun _ _ _ h => h) (Or.inl ⟨by rfl, ?hsnd111r20⟩) (by assumption) ?rsnd111r20
  case hsnd111r20 => (intro wS hSw; (try dsimp only at hSw); go_simp; try (with_reducible rfl))
  (try simp only [Act.put, List.setIfInBounds_toArray, List.set_cons_zero, List.set_cons_succ])
  refine take_d (i := 20) (v := ?vsnd111r21) rfl (by rfl) (by kernel_rfl) (by kernel_rfl) (by kernel_rfl) (fun _ _ _ h => h) (Or.inl ⟨by rfl, ?hsnd111r21⟩) (by assumption) ?rsnd111r21
  case hsnd111r21 => (intro wS hSw; (try dsimp only at hSw); go_simp; try (with_reducible rfl))
  (try simp only [Act.put, List.setIfInBounds_toArray, List.set_cons_zero, List.set_cons_succ])
  refine wpAnyH_done (by kernel_rfl) ?_ _
  go_split_ands
  have BB := below_next XA.out.i.bel hBk
  go_wp2_with fail
  refine (HW.out _).mono ?_
  rintro e wz ⟨rfl, z⟩
  go_wp2
  go_ret
  exact ⟨rfl, below_next BB z⟩
theorem sound_walk (A B : St) (V : Vw) (hA : StOk A) (hB : StOk B) (hV : VwOk V) (w : World) : Calls Try.prog 7 #[stV A, stV B, vwV V] w fun e w' => e = .returned (.bool true) ∧ Below w.heap.size w w' := by
  cases he : sHolds A V
  · exact snd_0 A B V hA hB hV he w
  cases iab : sIn A B
  · cases mb : sMay B
    · exact snd_100 A B V hA hB hV he iab mb w
    · exact snd_101 A B V hA hB hV he iab mb w
  · exact snd_111 A B V hA hB hV he iab (sIn_may iab).2 w
end Go.Proofs.Ytcgokiahlldaoaa
