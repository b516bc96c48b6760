/-
  The laws' Of: the document's frame as the program's.
-/
import Derived.Test.YtjlaenkfjejbkaaMdA
import Derived.Test.YtjlaenkfjejbkaaMeR
import Derived.BigRegion
namespace Go.Proofs.Ytjlaenkfjejbkaa
set_option linter.unusedSimpArgs false
set_option linter.unusedVariables false
open Go.ChangeShapes Go.WideShapes Go.ChangeAt Go.RowKit

theorem info33o : (Try.prog.info? 33).map (·.size) = some 13 := by kernel_rfl
theorem info22o : (Try.prog.info? 22).map (·.size) = some 8 := by kernel_rfl
theorem info25o : (Try.prog.info? 25).map (·.size) = some 4 := by kernel_rfl
theorem bld_slot (s : Sl) (hs : SOk s) (W : World) : (Instr.build 33 #[(0, .int .u8 s.h), (1, .agg (bC s.b).toArray), (2, .agg (vC s.v).toArray)]).run Try.prog W = .ok (.agg (sC s).toArray) W := by
  obtain ⟨h, l, v⟩ := s
  obtain ⟨a, b, c, d, e, f, g, i, rfl⟩ := eight hs.2.1
  show (Instr.build 33 #[(0, .int .u8 h), (1, .agg #[.int .u8 a, .int .u8 b, .int .u8 c, .int .u8 d, .int .u8 e, .int .u8 f, .int .u8 g, .int .u8 i]), (2, .agg #[.int .u8 v.k, .int .i64 v.m, .int .u64 v.n, .int .i64 v.o])]).run Try.prog W = .ok (.agg #[.int .u8 h, .int .u8 a, .int .u8 b, .int .u8 c, .int .u8 d, .int .u8 e, .int .u8 f, .int .u8 g, .int .u8 i, .int .u8 v.k, .int .i64 v.m, .int .u64 v.n, .int .i64 v.o]) W
  kernel_rfl
/-- The frame so far. -/
def ofF (F : Nat → Sl) (k : Nat) : Nat → Sl := fun j => if j < k then F j else s0
theorem ofF_zero (F : Nat → Sl) : ofF F 0 = f0 := by
  funext j
  simp [ofF, f0]
theorem ofF_succ (F : Nat → Sl) (k : Nat) : setF (ofF F k) k (F k) = ofF F (k + 1) := by
  funext j
  unfold setF ofF
  by_cases h : j = k
  · subst h
    simp
  · by_cases h2 : j < k
    · rw [if_neg h, if_pos h2, if_pos (by omega)]
    · rw [if_neg h, if_neg h2, if_neg (by omega)]
theorem ofF_ok {F : Nat → Sl} (hF : FOk F) (k : Nat) : FOk (ofF F k) := by
  intro j hj
  unfold ofF
  split
  · exact hF j hj
  · exact s0_ok
theorem flat_congr {α β : Type} {l : List α} {f g : α → List β} (h : ∀ x ∈ l, f x = g x) : l.flatMap f = l.flatMap g := by
  induction l with
  | nil => rfl
  | cons a l ih =>
    rw [List.flatMap_cons, List.flatMap_cons, h a (List.mem_cons_self ..), ih (fun x hx => h x (List.mem_cons_of_mem _ hx))]
theorem ofF_all {F : Nat → Sl} (hF : FOk F) : fC (ofF F 64) = fC F := by
  unfold fC
  apply flat_congr
  intro k hk
  have := List.mem_range.1 hk
  simp [ofF, this]
structure OfI (g : Nat) (w W : World) (F G : Nat → Sl) : Prop where
  bel : Below g w W
  sz : g + 2 < W.heap.size
  r : W.rangeAt g 0 (fC F)
  t1 : W.there (g + 1) 0 832
  r2 : W.rangeAt (g + 2) 0 (fC G)
  t2 : W.there (g + 2) 0 832
theorem OfI.first (w : World) (F : Nat → Sl) (t : TypeId) (hF : FOk F) : OfI w.heap.size w (((w.alloc (.cells (fC F).toArray t)).alloc (.cells (fC f0).toArray 35)).alloc (.cells (fC f0).toArray 35)) F f0 := by
  refine ⟨(((Below.refl _ _).alloc (Nat.le_refl _) _).alloc (by simp) _).alloc (by simp; omega) _, by simp, ?_, ?_, ?_, ?_⟩
  · exact World.rangeAt_alloc (World.rangeAt_alloc (range_new w (fC F).toArray t) _) _
  · have := there_box (w.alloc (.cells (fC F).toArray t)) (fC f0).toArray 35 832 f0_size
    have := World.there_alloc this (.cells (fC f0).toArray 35)
    simpa using this
  · have := range_new ((w.alloc (.cells (fC F).toArray t)).alloc (.cells (fC f0).toArray 35)) (fC f0).toArray 35
    simpa using this
  · have := there_box ((w.alloc (.cells (fC F).toArray t)).alloc (.cells (fC f0).toArray 35)) (fC f0).toArray 35 832 f0_size
    simpa using this
theorem OfI.drew {g : Nat} {w W : World} {F G : Nat → Sl} (h : OfI g w W F G) : OfI g w W.drew F G :=
  ⟨h.bel.drew, h.sz, (World.rangeAt_drew _ _ _ _).2 h.r, (World.there_drew _ _ _ _).2 h.t1, (World.rangeAt_drew _ _ _ _).2 h.r2, (World.there_drew _ _ _ _).2 h.t2⟩
theorem OfI.put {g k : Nat} {w W : World} {F G : Nat → Sl} {s : Sl} (h : OfI g w W F G) (hG : FOk G) (hs : SOk s) (hk : k < 64) : OfI g w (W.setCells (g + 2) (k * 13) (sC s)) F (setF G k s) := by
  have hz := (below_setCells (n := 0) (a := W) (g + 2) (Nat.zero_le _) (sC s) (k * 13) W (Below.refl _ _)).size
  exact ⟨below_setCells (g + 2) (by omega) _ _ _ h.bel, by have := h.sz; omega, World.rangeAt_setCells_apart h.r (g + 2) _ _ (Or.inl (by omega)), World.there_setCells h.t1 (g + 2) _ _, frame_put hG hs hk h.r2 h.t2, World.there_setCells h.t2 (g + 2) _ _⟩

set_option maxRecDepth 100000 in
set_option maxHeartbeats 1600000 in
theorem Of_any (F : Nat → Sl) (w : World) (hF : FOk F) : Calls Try.prog 12 #[fV F] w fun e w' => e = .returned (fV F) ∧ Below w.heap.size w w' := by
  have ZF0 := (zero_of_info zf_info).1
  have ZF : ∀ w, (zeroValue 35).run Try.prog w = .ok (.agg (fC f0).toArray) w := ZF0
  have I0 := hid (OfI.first w F 29 hF)
  have HF := hid hF
  have HFV : Hid (fV (ofF F 64) = fV F) := hid (by unfold fV; rw [ofF_all hF])
  rw [← HFV.out]
  unfold fV
  obtain ⟨CF, hCF⟩ : ∃ CF, (fC F).toArray = CF := ⟨_, rfl⟩
  have e0 : (fC (ofF F 64)).toArray = CF := by rw [ofF_all hF, hCF]
  have HE0 := hid e0
  rw [e0]
  rw [hCF] at I0
  clear hF ZF0 hCF e0
  go_enter Try.func12, Try.ntmps12
  go_wp2_with fail
  go_loopw [5] (fun i w' => ∃ k : Nat, k ≤ 64 ∧ i = .int .i64 k ∧ Hid (OfI w.heap.size w w' F (ofF F k))) (fun i _ => 64 - (intOf i).toNat)
  case atStart => exact ⟨0, by omega, rfl, by rw [ofF_zero]; exact I0⟩
  case round =>
    obtain ⟨k, hk, rfl, I1⟩ := hrel
    by_cases hlt : k < 64
    · have hlt' : (k : Int) < 64 := by omega
      have hs := HF.out k hlt
      have hrk := range_at HF.out I1.out.r k hlt
      rw [Nat.zero_add] at hrk
      have hsucc := hid (ofF_succ F k)
      have hp := (I1.out.put (ofF_ok HF.out k) hs hlt).drew
      rw [hsucc.out] at hp
      have HP := hid hp
      clear hp
      have BLD := bld_slot (F k) hs
      have HSO := hid hs
      generalize F k = s at hrk hs hsucc HP BLD HSO
      have c0 : wr.cell? ⟨w.heap.size, k * 13, none⟩ = some (.int .u8 s.h) := hrk 0 _ rfl
      have rb : wr.rangeAt w.heap.size (k * 13 + 1) (bC s.b) := fun j v hv => by
        have := hrk (1 + j) v (by
          unfold sC
          rw [Nat.add_comm 1 j, List.getElem?_cons_succ, List.getElem?_append_left (List.getElem?_eq_some_iff.1 hv).1]
          exact hv)
        rwa [← Nat.add_assoc] at this
      have hbl : (bC s.b).length = 8 := by rw [show bC s.b = s.b.map (Value.int .u8) from rfl, List.length_map, hs.2.1]
      have rv : wr.rangeAt w.heap.size (k * 13 + 9) (vC s.v) := fun j v hv => by
        have := hrk (9 + j) v (by
          unfold sC
          rw [show 9 + j = (8 + j) + 1 by omega, List.getElem?_cons_succ, List.getElem?_append_right (by omega), hbl, Nat.add_sub_cancel_left]
          exact hv)
        rwa [← Nat.add_assoc] at this
      have hs2 := hs
      obtain ⟨sh, sl, ⟨sk, sm, sn, so⟩⟩ := s
      obtain ⟨b0, b1, b2, b3, b4, b5, b6, b7, rfl⟩ := eight hs2.2.1
      dsimp only at c0 rb rv
      have cb0 : wr.cell? ⟨w.heap.size, k * 13 + 1, none⟩ = some (.int .u8 b0) := rb 0 _ rfl
      have cb1 : wr.cell? ⟨w.heap.size, k * 13 + 1 + 1, none⟩ = some (.int .u8 b1) := rb 1 _ rfl
      have cb2 : wr.cell? ⟨w.heap.size, k * 13 + 1 + 2, none⟩ = some (.int .u8 b2) := rb 2 _ rfl
      have cb3 : wr.cell? ⟨w.heap.size, k * 13 + 1 + 3, none⟩ = some (.int .u8 b3) := rb 3 _ rfl
      have cb4 : wr.cell? ⟨w.heap.size, k * 13 + 1 + 4, none⟩ = some (.int .u8 b4) := rb 4 _ rfl
      have cb5 : wr.cell? ⟨w.heap.size, k * 13 + 1 + 5, none⟩ = some (.int .u8 b5) := rb 5 _ rfl
      have cb6 : wr.cell? ⟨w.heap.size, k * 13 + 1 + 6, none⟩ = some (.int .u8 b6) := rb 6 _ rfl
      have cb7 : wr.cell? ⟨w.heap.size, k * 13 + 1 + 7, none⟩ = some (.int .u8 b7) := rb 7 _ rfl
      have cv0 : wr.cell? ⟨w.heap.size, k * 13 + 9, none⟩ = some (.int .u8 sk) := rv 0 _ rfl
      have cv1 : wr.cell? ⟨w.heap.size, k * 13 + 9 + 1, none⟩ = some (.int .i64 sm) := rv 1 _ rfl
      have cv2 : wr.cell? ⟨w.heap.size, k * 13 + 9 + 2, none⟩ = some (.int .u64 sn) := rv 2 _ rfl
      have cv3 : wr.cell? ⟨w.heap.size, k * 13 + 9 + 3, none⟩ = some (.int .i64 so) := rv 3 _ rfl
      obtain ⟨t0, ht0⟩ : ∃ v, wr.cell? ⟨w.heap.size + 1 + 1, k * 13, none⟩ = some v := by
        have := (I1.out.t2 (k * 13 + 0) (by omega)).1
        rw [Nat.zero_add] at this
        exact Option.isSome_iff_exists.1 this
      have hf0 : wr.frozen? ⟨w.heap.size + 1 + 1, k * 13, none⟩ = false := by
        have := (I1.out.t2 (k * 13 + 0) (by omega)).2
        rwa [Nat.zero_add] at this
      obtain ⟨t1, ht1⟩ : ∃ v, wr.cell? ⟨w.heap.size + 1 + 1, k * 13 + 1, none⟩ = some v := by
        have := (I1.out.t2 (k * 13 + 1) (by omega)).1
        rw [Nat.zero_add] at this
        exact Option.isSome_iff_exists.1 this
      have hf1 : wr.frozen? ⟨w.heap.size + 1 + 1, k * 13 + 1, none⟩ = false := by
        have := (I1.out.t2 (k * 13 + 1) (by omega)).2
        rwa [Nat.zero_add] at this
      obtain ⟨t2, ht2⟩ : ∃ v, wr.cell? ⟨w.heap.size + 1 + 1, k * 13 + 2, none⟩ = some v := by
        have := (I1.out.t2 (k * 13 + 2) (by omega)).1
        rw [Nat.zero_add] at this
        exact Option.isSome_iff_exists.1 this
      have hf2 : wr.frozen? ⟨w.heap.size + 1 + 1, k * 13 + 2, none⟩ = false := by
        have := (I1.out.t2 (k * 13 + 2) (by omega)).2
        rwa [Nat.zero_add] at this
      obtain ⟨t3, ht3⟩ : ∃ v, wr.cell? ⟨w.heap.size + 1 + 1, k * 13 + 3, none⟩ = some v := by
        have := (I1.out.t2 (k * 13 + 3) (by omega)).1
        rw [Nat.zero_add] at this
        exact Option.isSome_iff_exists.1 this
      have hf3 : wr.frozen? ⟨w.heap.size + 1 + 1, k * 13 + 3, none⟩ = false := by
        have := (I1.out.t2 (k * 13 + 3) (by omega)).2
        rwa [Nat.zero_add] at this
      obtain ⟨t4, ht4⟩ : ∃ v, wr.cell? ⟨w.heap.size + 1 + 1, k * 13 + 4, none⟩ = some v := by
        have := (I1.out.t2 (k * 13 + 4) (by omega)).1
        rw [Nat.zero_add] at this
        exact Option.isSome_iff_exists.1 this
      have hf4 : wr.frozen? ⟨w.heap.size + 1 + 1, k * 13 + 4, none⟩ = false := by
        have := (I1.out.t2 (k * 13 + 4) (by omega)).2
        rwa [Nat.zero_add] at this
      obtain ⟨t5, ht5⟩ : ∃ v, wr.cell? ⟨w.heap.size + 1 + 1, k * 13 + 5, none⟩ = some v := by
        have := (I1.out.t2 (k * 13 + 5) (by omega)).1
        rw [Nat.zero_add] at this
        exact Option.isSome_iff_exists.1 this
      have hf5 : wr.frozen? ⟨w.heap.size + 1 + 1, k * 13 + 5, none⟩ = false := by
        have := (I1.out.t2 (k * 13 + 5) (by omega)).2
        rwa [Nat.zero_add] at this
      obtain ⟨t6, ht6⟩ : ∃ v, wr.cell? ⟨w.heap.size + 1 + 1, k * 13 + 6, none⟩ = some v := by
        have := (I1.out.t2 (k * 13 + 6) (by omega)).1
        rw [Nat.zero_add] at this
        exact Option.isSome_iff_exists.1 this
      have hf6 : wr.frozen? ⟨w.heap.size + 1 + 1, k * 13 + 6, none⟩ = false := by
        have := (I1.out.t2 (k * 13 + 6) (by omega)).2
        rwa [Nat.zero_add] at this
      obtain ⟨t7, ht7⟩ : ∃ v, wr.cell? ⟨w.heap.size + 1 + 1, k * 13 + 7, none⟩ = some v := by
        have := (I1.out.t2 (k * 13 + 7) (by omega)).1
        rw [Nat.zero_add] at this
        exact Option.isSome_iff_exists.1 this
      have hf7 : wr.frozen? ⟨w.heap.size + 1 + 1, k * 13 + 7, none⟩ = false := by
        have := (I1.out.t2 (k * 13 + 7) (by omega)).2
        rwa [Nat.zero_add] at this
      obtain ⟨t8, ht8⟩ : ∃ v, wr.cell? ⟨w.heap.size + 1 + 1, k * 13 + 8, none⟩ = some v := by
        have := (I1.out.t2 (k * 13 + 8) (by omega)).1
        rw [Nat.zero_add] at this
        exact Option.isSome_iff_exists.1 this
      have hf8 : wr.frozen? ⟨w.heap.size + 1 + 1, k * 13 + 8, none⟩ = false := by
        have := (I1.out.t2 (k * 13 + 8) (by omega)).2
        rwa [Nat.zero_add] at this
      obtain ⟨t9, ht9⟩ : ∃ v, wr.cell? ⟨w.heap.size + 1 + 1, k * 13 + 9, none⟩ = some v := by
        have := (I1.out.t2 (k * 13 + 9) (by omega)).1
        rw [Nat.zero_add] at this
        exact Option.isSome_iff_exists.1 this
      have hf9 : wr.frozen? ⟨w.heap.size + 1 + 1, k * 13 + 9, none⟩ = false := by
        have := (I1.out.t2 (k * 13 + 9) (by omega)).2
        rwa [Nat.zero_add] at this
      obtain ⟨t10, ht10⟩ : ∃ v, wr.cell? ⟨w.heap.size + 1 + 1, k * 13 + 10, none⟩ = some v := by
        have := (I1.out.t2 (k * 13 + 10) (by omega)).1
        rw [Nat.zero_add] at this
        exact Option.isSome_iff_exists.1 this
      have hf10 : wr.frozen? ⟨w.heap.size + 1 + 1, k * 13 + 10, none⟩ = false := by
        have := (I1.out.t2 (k * 13 + 10) (by omega)).2
        rwa [Nat.zero_add] at this
      obtain ⟨t11, ht11⟩ : ∃ v, wr.cell? ⟨w.heap.size + 1 + 1, k * 13 + 11, none⟩ = some v := by
        have := (I1.out.t2 (k * 13 + 11) (by omega)).1
        rw [Nat.zero_add] at this
        exact Option.isSome_iff_exists.1 this
      have hf11 : wr.frozen? ⟨w.heap.size + 1 + 1, k * 13 + 11, none⟩ = false := by
        have := (I1.out.t2 (k * 13 + 11) (by omega)).2
        rwa [Nat.zero_add] at this
      obtain ⟨t12, ht12⟩ : ∃ v, wr.cell? ⟨w.heap.size + 1 + 1, k * 13 + 12, none⟩ = some v := by
        have := (I1.out.t2 (k * 13 + 12) (by omega)).1
        rw [Nat.zero_add] at this
        exact Option.isSome_iff_exists.1 this
      have hf12 : wr.frozen? ⟨w.heap.size + 1 + 1, k * 13 + 12, none⟩ = false := by
        have := (I1.out.t2 (k * 13 + 12) (by omega)).2
        rwa [Nat.zero_add] at this
      clear hrk hs hs2 rb rv hbl
      go_wp2_with fail
      go_region
      clear c0 cb0 cb1 cb2 cb3 cb4 cb5 cb6 cb7 cv0 cv1 cv2 cv3 ht0 hf0 ht1 hf1 ht2 hf2 ht3 hf3 ht4 hf4 ht5 hf5 ht6 hf6 ht7 hf7 ht8 hf8 ht9 hf9 ht10 hf10 ht11 hf11 ht12 hf12
      go_wp2
      go_roundw
      case rel => exact ⟨k + 1, by omega, by go_num, hid HP.out⟩
      case measure => simp [intOf]; omega
    · have hk8 : k = 64 := by omega
      subst hk8
      have HFO := hid (ofF_ok HF.out 64)
      have HGI : Hid ((Try.prog.info? 35).map (·.size) = some (fC (ofF F 64)).length) := hid (by rw [fC_len HFO.out]; exact info35)
      have HR2 := hid I1.out.r2
      have HT1 := hid I1.out.t1
      go_wp2_with (first | ((with_reducible refine at_load 35 ?_); refine wpList_load_mid rfl 35 _ rfl (w.heap.size + 2) 0 rfl (fC (ofF F 64)) _ HR2.out Try.underlying35 rfl HGI.out ?_) | ((with_reducible refine at_store 35 ?_); refine wpList_store_f _ _ rfl rfl (w.heap.size + 1) (ofF F 64) HFO.out rfl rfl HT1.out ?_))
      rw [← HE0.out]
      exact bodyPost_ret (res_one rfl _ _ (w.heap.size + 1) 0 (fC (ofF F 64)) _ rfl (World.rangeAt_setCells_same _ (w.heap.size + 1) 0 (fC (ofF F 64)) (by rw [fC_len HFO.out]; exact HT1.out)) Try.underlying35 rfl HGI.out) rfl ⟨rfl, below_setCells (w.heap.size + 1) (Nat.le_succ _) (fC (ofF F 64)) 0 _ I1.out.bel⟩

end Go.Proofs.Ytjlaenkfjejbkaa
