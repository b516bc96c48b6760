/-
  MemLoads: the walk.
-/
import Derived.Test.YtjlaenkfjejbkaaMdL
import Derived.Test.YtjlaenkfjejbkaaMdO
import Derived.Test.YtjlaenkfjejbkaaMbJ
namespace Go.Proofs.Ytjlaenkfjejbkaa
set_option linter.unusedSimpArgs false
set_option linter.unusedVariables false
open Go.ChangeShapes Go.WideShapes Go.ChangeAt Go.RowKit

theorem take_d {P : Program} {ops : Array Oper} {Q : Exit → Act → World → Prop} {md : Region.Mode} {S : World → Prop} {i d : Nat} {oi : Oper} {v : Value} {fuel : Nat} {listed : Array Bool} {tm : Array Value} {df : List Deferred} {w : World} (hi : ops[i]? = some oi) (hd : oi.dst = some d)
    (hs : Region.noSelect ops = true) (hf : Region.free md ops listed i = true) (hr : (Region.ready md ops listed).contains i = true)
    (hQ : ∀ c a w, Q (.panic c) (a.put oi.dst v) w → Q (.panic c) a w) (hy : YieldsIf P ops S oi v ⟨tm, df⟩) (hS : S w)
    (h : wpAnyH P md ops Q S fuel (listed.setIfInBounds i true) ⟨tm.setIfInBounds d v, df⟩ w) : wpAnyH P md ops Q S (fuel + 1) listed ⟨tm, df⟩ w := by
  refine wpAnyH_take hi hs hf hr hQ hy hS ?_
  rw [hd]
  exact h
theorem cellsV_new (W : World) (k m n o : Int) (T : TypeId) : CV (W.alloc (.cells #[.int .u8 k, .int .i64 m, .int .u64 n, .int .i64 o] T)) W.heap.size ⟨k, m, n, o⟩ := cellsV (Below.refl _ _)
theorem keepL {w6 W : World} {g4 g5 B : Nat} {v u : Vl} {F : Nat → Sl} (h4 : CV w6 g4 v) (h5 : CV w6 g5 u) (hr : w6.rangeAt B 0 (fC F)) (hB : B < w6.heap.size) (hb : Below w6.heap.size w6 W) :
    W.cell? ⟨g4, 0, none⟩ = some (.int .u8 v.k) ∧ W.cell? ⟨g4, 1, none⟩ = some (.int .i64 v.m) ∧ W.cell? ⟨g4, 2, none⟩ = some (.int .u64 v.n) ∧ W.cell? ⟨g4, 3, none⟩ = some (.int .i64 v.o) ∧
    W.cell? ⟨g5, 0, none⟩ = some (.int .u8 u.k) ∧ W.cell? ⟨g5, 1, none⟩ = some (.int .i64 u.m) ∧ W.cell? ⟨g5, 2, none⟩ = some (.int .u64 u.n) ∧ W.cell? ⟨g5, 3, none⟩ = some (.int .i64 u.o) ∧ W.rangeAt B 0 (fC F) ∧ Below w6.heap.size w6 W :=
  ⟨cn hb h4.1, cn hb h4.2.1, cn hb h4.2.2.1, cn hb h4.2.2.2, cn hb h5.1, cn hb h5.2.1, cn hb h5.2.2.1, cn hb h5.2.2.2, range_below hr hB (bcell hb).1, hb⟩

set_option maxRecDepth 100000 in
set_option maxHeartbeats 3200000 in
theorem memLoads_walk (F : Nat → Sl) (off size : Int) (w : World) (hF : FOk F) (ho : -9223372036854775808 ≤ off ∧ off < 9223372036854775808) :
    Calls Try.prog 3 #[fV F, .int .i64 off, .int .i64 size] w fun e w' => e = .returned (.bool true) ∧ Below w.heap.size w w' := by
  have HAw := hid awake_any
  have HOf := hid (fun W => Of_any F W hF)
  have HLd := hid (fun W => Load_any F off size W hF ho)
  have HRl := hid (fun W => rLoad_any F off size W hF ho)
  have HRt := hid (fun W => Right_any F W hF)
  have HRr := hid (fun W => rRight_any F W hF)
  have hi : (Try.prog.info? 29).map (·.size) = some (fC F).length := by rw [fC_len hF]; kernel_rfl
  have HI := hid hi
  have I0 := hid (FrI.first w F 29)
  generalize loadF F off size = A at HLd HRl
  obtain ⟨⟨ka, ma, na, oa⟩, ha⟩ := A
  generalize rightF F = r at HRt HRr
  unfold fV at HOf HLd HRl HRt HRr ⊢
  unfold vV at HLd HRl
  dsimp only at HLd HRl
  clear hF ho hi
  go_enter Try.func3, Try.ntmps3
  go_wp2_with ((with_reducible refine at_load 29 ?_); refine wpList_load_mid rfl 29 _ rfl w.heap.size 0 rfl (fC F) _ I0.out.r0 Try.underlying29 rfl HI.out ?_)
  refine (HOf.out _).mono ?_
  rintro e w1 ⟨rfl, b1⟩
  have I1 := hid (I0.out.next b1)
  clear b1 I0
  go_wp2_with fail
  refine (HLd.out _).mono ?_
  rintro e w2 ⟨rfl, b2⟩
  have I2 := hid (I1.out.next b2)
  clear b2 I1
  go_wp2_with ((with_reducible refine at_load 29 ?_); refine wpList_load_mid rfl 29 _ rfl w.heap.size 0 rfl (fC F) _ (World.rangeAt_alloc I2.out.r0 _) Try.underlying29 rfl HI.out ?_)
  refine (HRl.out _).mono ?_
  rintro e w3 ⟨rfl, b3⟩
  have I3 := hid ((I2.out.next ((Below.refl _ _).alloc (Nat.le_refl _) _)).next b3)
  have X7 := hid (cellsV b3)
  clear b3 I2 HLd HRl
  go_wp2_with fail
  have I4 := hid (I3.out.next ((Below.refl _ _).alloc (Nat.le_refl _) (.cells #[.int .u8 ka, .int .i64 ma, .int .u64 na, .int .i64 oa] 25)))
  have X9 := hid (cellsV_new w3 ka ma na oa 25)
  have X7' := hid (X7.out.alloc (.cells #[.int .u8 ka, .int .i64 ma, .int .u64 na, .int .i64 oa] 25))
  clear I3 X7
  generalize w3.alloc (.cells #[.int .u8 ka, .int .i64 ma, .int .u64 na, .int .i64 oa] 25) = w6 at *
  generalize w2.heap.size = g7 at *
  generalize w3.heap.size = g9 at *
  have EQA := eqv_same ka ma na oa
  have hi1 := HI.out
  have hu := Try.underlying29
  have B66 := Below.refl w6.heap.size w6
  refine wp_region_held_drew (S := (fun w' : World => w'.cell? ⟨g7, 0, none⟩ = some (.int .u8 ka) ∧ w'.cell? ⟨g7, 1, none⟩ = some (.int .i64 ma) ∧ w'.cell? ⟨g7, 2, none⟩ = some (.int .u64 na) ∧ w'.cell? ⟨g7, 3, none⟩ = some (.int .i64 oa) ∧ w'.cell? ⟨g9, 0, none⟩ = some (.int .u8 ka) ∧ w'.cell? ⟨g9, 1, none⟩ = some (.int .i64 ma) ∧ w'.cell? ⟨g9, 2, none⟩ = some (.int .u64 na) ∧ w'.cell? ⟨g9, 3, none⟩ = some (.int .i64 oa) ∧ w'.rangeAt w.heap.size 0 (fC F) ∧ Below w6.heap.size w6 w')) (by kernel_rfl) ?_ (fun hHeld => ?_)
  · (try dsimp only); (refine keepL X7'.out X9.out I4.out.r0 I4.out.sz ?_; (try go_split_ands); first | (with_reducible assumption) | ((with_reducible refine Below.drew ?_); with_reducible assumption))
  refine wpAnyH_ready (rs := [0]) (by kernel_rfl) (by simp) ?_
  refine AllReadyH.cons rfl (fun K hK => ?_) AllReadyH.nil
  go_simp
  go_at_call 14
  go_split_ands
  refine (HAw.out _).mono ?_
  rintro e w7 ⟨rfl, b7⟩
  have hB7 := belowM (w2 := w6) b7 (by with_reducible assumption)
  clear b7
  try go_simp
  refine hK.out _ _ ?_ (fun hHeld => ?_)
  · (try dsimp only); (refine keepL X7'.out X9.out I4.out.r0 I4.out.sz ?_; (try go_split_ands); first | (with_reducible assumption) | ((with_reducible refine Below.drew ?_); with_reducible assumption))
  clear hK K hB7
  (try simp only [Act.put,  List.setIfInBounds_toArray, List.set_cons_zero, List.set_cons_succ])
  refine take_d (i := 1) (v := ?v1) rfl (by rfl) (by kernel_rfl) (by kernel_rfl) (by kernel_rfl) (fun _ _ _ h => h) (Or.inl ⟨by rfl, ?h1⟩) (by assumption) ?r1
  case h1 => (intro wS hSw; (try dsimp only at hSw); go_simp; try (with_reducible rfl))
  (try simp only [Act.put,  List.setIfInBounds_toArray, List.set_cons_zero, List.set_cons_succ])
  refine take_d (i := 2) (v := ?v2) rfl (by rfl) (by kernel_rfl) (by kernel_rfl) (by kernel_rfl) (fun _ _ _ h => h) (Or.inl ⟨by rfl, ?h2⟩) (by assumption) ?r2
  case h2 => (intro wS hSw; (try dsimp only at hSw); go_simp; try (with_reducible rfl))
  (try simp only [Act.put,  List.setIfInBounds_toArray, List.set_cons_zero, List.set_cons_succ])
  refine take_d (i := 3) (v := ?v3) rfl (by rfl) (by kernel_rfl) (by kernel_rfl) (by kernel_rfl) (fun _ _ _ h => h) (Or.inl ⟨by rfl, ?h3⟩) (by assumption) ?r3
  case h3 => (intro wS hSw; (try dsimp only at hSw); go_simp; try (with_reducible rfl))
  (try simp only [Act.put,  List.setIfInBounds_toArray, List.set_cons_zero, List.set_cons_succ])
  refine take_d (i := 4) (v := ?v4) rfl (by rfl) (by kernel_rfl) (by kernel_rfl) (by kernel_rfl) (fun _ _ _ h => h) (Or.inl ⟨by rfl, ?h4⟩) (by assumption) ?r4
  case h4 => (intro wS hSw; (try dsimp only at hSw); go_simp; try (with_reducible rfl))
  (try simp only [Act.put,  List.setIfInBounds_toArray, List.set_cons_zero, List.set_cons_succ])
  refine take_d (i := 5) (v := ?v5) rfl (by rfl) (by kernel_rfl) (by kernel_rfl) (by kernel_rfl) (fun _ _ _ h => h) (Or.inl ⟨by rfl, ?h5⟩) (by assumption) ?r5
  case h5 => (intro wS hSw; (try dsimp only at hSw); go_simp; try (with_reducible rfl))
  (try simp only [Act.put,  List.setIfInBounds_toArray, List.set_cons_zero, List.set_cons_succ])
  refine take_d (i := 6) (v := ?v6) rfl (by rfl) (by kernel_rfl) (by kernel_rfl) (by kernel_rfl) (fun _ _ _ h => h) (Or.inl ⟨by rfl, ?h6⟩) (by assumption) ?r6
  case h6 => (intro wS hSw; (try dsimp only at hSw); go_simp; try (with_reducible rfl))
  (try simp only [Act.put,  List.setIfInBounds_toArray, List.set_cons_zero, List.set_cons_succ])
  refine take_d (i := 7) (v := ?v7) rfl (by rfl) (by kernel_rfl) (by kernel_rfl) (by kernel_rfl) (fun _ _ _ h => h) (Or.inl ⟨by rfl, ?h7⟩) (by assumption) ?r7
  case h7 => (intro wS hSw; (try dsimp only at hSw); go_simp; try (with_reducible rfl))
  (try simp only [Act.put,  List.setIfInBounds_toArray, List.set_cons_zero, List.set_cons_succ])
  refine take_d (i := 8) (v := ?v8) rfl (by rfl) (by kernel_rfl) (by kernel_rfl) (by kernel_rfl) (fun _ _ _ h => h) (Or.inl ⟨by rfl, ?h8⟩) (by assumption) ?r8
  case h8 => (intro wS hSw; (try dsimp only at hSw); go_simp; try (with_reducible rfl))
  (try simp only [Act.put,  List.setIfInBounds_toArray, List.set_cons_zero, List.set_cons_succ])
  refine take_d (i := 9) (v := ?v9) rfl (by rfl) (by kernel_rfl) (by kernel_rfl) (by kernel_rfl) (fun _ _ _ h => h) (Or.inl ⟨by rfl, ?h9⟩) (by assumption) ?r9
  case h9 => (intro wS hSw; (try dsimp only at hSw); go_simp; try (with_reducible rfl))
  (try simp only [Act.put,  List.setIfInBounds_toArray, List.set_cons_zero, List.set_cons_succ])
  refine take_d (i := 10) (v := ?v10) rfl (by rfl) (by kernel_rfl) (by kernel_rfl) (by kernel_rfl) (fun _ _ _ h => h) (Or.inl ⟨by rfl, ?h10⟩) (by assumption) ?r10
  case h10 => (intro wS hSw; (try dsimp only at hSw); go_simp; try (with_reducible rfl))
  (try simp only [Act.put,  List.setIfInBounds_toArray, List.set_cons_zero, List.set_cons_succ])
  refine take_d (i := 11) (v := ?v11) rfl (by rfl) (by kernel_rfl) (by kernel_rfl) (by kernel_rfl) (fun _ _ _ h => h) (Or.inl ⟨by rfl, ?h11⟩) (by assumption) ?r11
  case h11 => (intro wS hSw; (try dsimp only at hSw); go_simp; try (with_reducible rfl))
  (try simp only [Act.put,  List.setIfInBounds_toArray, List.set_cons_zero, List.set_cons_succ])
  refine take_d (i := 12) (v := _) rfl (by rfl) (by kernel_rfl) (by kernel_rfl) (by kernel_rfl) (fun _ _ _ h => h) (yieldsIf_load_mid (by rfl) _ _ rfl _ _ rfl (fC F) _ ?h12 hu rfl hi1) (by assumption) ?r12
  case h12 => (intro wS hSw; (try dsimp only at hSw); go_split_ands; assumption)
  (try simp only [Act.put,  List.setIfInBounds_toArray, List.set_cons_zero, List.set_cons_succ])
  refine take_d (i := 15) (v := _) rfl (by rfl) (by kernel_rfl) (by kernel_rfl) (by kernel_rfl) (fun _ _ _ h => h) (yieldsIf_load_mid (by rfl) _ _ rfl _ _ rfl (fC F) _ ?h15 hu rfl hi1) (by assumption) ?r15
  case h15 => (intro wS hSw; (try dsimp only at hSw); go_split_ands; assumption)
  (try simp only [Act.put,  List.setIfInBounds_toArray, List.set_cons_zero, List.set_cons_succ])
  refine wpAnyH_ready (rs := [13]) (by kernel_rfl) (by simp) ?_
  refine AllReadyH.cons rfl (fun K hK => ?_) AllReadyH.nil
  go_simp
  go_at_call 12
  go_split_ands
  refine (HOf.out _).mono ?_
  rintro e w7 ⟨rfl, b7⟩
  have hB7 := belowM (w2 := w6) b7 (by with_reducible assumption)
  clear b7
  try go_simp
  refine hK.out _ _ ?_ (fun hHeld => ?_)
  · (try dsimp only); (refine keepL X7'.out X9.out I4.out.r0 I4.out.sz ?_; (try go_split_ands); first | (with_reducible assumption) | ((with_reducible refine Below.drew ?_); with_reducible assumption))
  clear hK K hB7
  (try simp only [Act.put,  List.setIfInBounds_toArray, List.set_cons_zero, List.set_cons_succ])
  refine wpAnyH_ready (rs := [14]) (by kernel_rfl) (by simp) ?_
  refine AllReadyH.cons rfl (fun K hK => ?_) AllReadyH.nil
  go_simp
  go_at_call 15
  go_split_ands
  refine (HRt.out _).mono ?_
  rintro e w7 ⟨rfl, b7⟩
  have hB7 := belowM (w2 := w6) b7 (by with_reducible assumption)
  clear b7
  try go_simp
  refine hK.out _ _ ?_ (fun hHeld => ?_)
  · (try dsimp only); (refine keepL X7'.out X9.out I4.out.r0 I4.out.sz ?_; (try go_split_ands); first | (with_reducible assumption) | ((with_reducible refine Below.drew ?_); with_reducible assumption))
  clear hK K hB7
  (try simp only [Act.put,  List.setIfInBounds_toArray, List.set_cons_zero, List.set_cons_succ])
  refine wpAnyH_ready (rs := [16]) (by kernel_rfl) (by simp) ?_
  refine AllReadyH.cons rfl (fun K hK => ?_) AllReadyH.nil
  go_simp
  go_at_call 16
  go_split_ands
  refine (HRr.out _).mono ?_
  rintro e w7 ⟨rfl, b7⟩
  have hB7 := belowM (w2 := w6) b7 (by with_reducible assumption)
  clear b7
  try go_simp
  refine hK.out _ _ ?_ (fun hHeld => ?_)
  · (try dsimp only); (refine keepL X7'.out X9.out I4.out.r0 I4.out.sz ?_; (try go_split_ands); first | (with_reducible assumption) | ((with_reducible refine Below.drew ?_); with_reducible assumption))
  clear hK K hB7
  (try simp only [Act.put,  List.setIfInBounds_toArray, List.set_cons_zero, List.set_cons_succ])
  refine take_d (i := 17) (v := ?v17) rfl (by rfl) (by kernel_rfl) (by kernel_rfl) (by kernel_rfl) (fun _ _ _ h => h) (Or.inl ⟨by rfl, ?h17⟩) (by assumption) ?r17
  case h17 => (intro wS hSw; (try dsimp only at hSw); go_simp; try (with_reducible rfl))
  (try simp only [Act.put,  List.setIfInBounds_toArray, List.set_cons_zero, List.set_cons_succ])
  refine take_d (i := 18) (v := ?v18) rfl (by rfl) (by kernel_rfl) (by kernel_rfl) (by kernel_rfl) (fun _ _ _ h => h) (Or.inl ⟨by rfl, ?h18⟩) (by assumption) ?r18
  case h18 => (intro wS hSw; (try dsimp only at hSw); go_simp; try (with_reducible rfl))
  (try simp only [Act.put,  List.setIfInBounds_toArray, List.set_cons_zero, List.set_cons_succ])
  refine take_d (i := 19) (v := ?v19) rfl (by rfl) (by kernel_rfl) (by kernel_rfl) (by kernel_rfl) (fun _ _ _ h => h) (Or.inl ⟨by rfl, ?h19⟩) (by assumption) ?r19
  case h19 => (intro wS hSw; (try dsimp only at hSw); go_simp; try (with_reducible rfl))
  (try simp only [Act.put,  List.setIfInBounds_toArray, List.set_cons_zero, List.set_cons_succ])
  refine wpAnyH_done (by kernel_rfl) ?_ _
  go_split_ands
  go_wp2
  go_ret
  have hz6 := I4.out.bel.size
  exact ⟨rfl, below_next_w I4.out.bel (by with_reducible assumption) hz6⟩

end Go.Proofs.Ytjlaenkfjejbkaa
