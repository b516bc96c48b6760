/-
  The document's Load.
-/
import Derived.Test.YtjlaenkfjejbkaaMdR
import Derived.Test.YtjlaenkfjejbkaaMeL
namespace Go.Proofs.Ytjlaenkfjejbkaa
set_option linter.unusedSimpArgs false
set_option linter.unusedVariables false
open Go.ChangeShapes Go.WideShapes Go.ChangeAt Go.RowKit

def CVz (W : World) (g : Nat) : Prop := W.cell? ⟨g, 0, none⟩ = some (.int .u8 0) ∧ W.cell? ⟨g, 1, none⟩ = some (.int .i64 0) ∧ W.cell? ⟨g, 2, none⟩ = some (.int .u64 0) ∧ W.cell? ⟨g, 3, none⟩ = some (.int .i64 0)
/-- What Load keeps: the answer's place, the frame, the slot. -/
structure RlI (w : World) (g : Nat) (F : Nat → Sl) (s : Sl) (W : World) : Prop where
  rr : RrI w g F s W
  lo : w.heap.size + 1 < W.heap.size
  z : CVz W (w.heap.size + 1)
  t : W.there (w.heap.size + 1) 0 4
theorem RlI.next {w W V : World} {g : Nat} {F : Nat → Sl} {s : Sl} (h : RlI w g F s W) (b : Below W.heap.size W V) : RlI w g F s V :=
  ⟨h.rr.next b, Nat.lt_of_lt_of_le h.lo b.size, ⟨cn b h.z.1, cn b h.z.2.1, cn b h.z.2.2.1, cn b h.z.2.2.2⟩, there_below h.t h.lo (bcell b).1 (bcell b).2⟩
theorem RlI.fz {w W : World} {g : Nat} {F : Nat → Sl} {s : Sl} (h : RlI w g F s W) : W.frozen? ⟨w.heap.size + 1, 0, none⟩ = false ∧ W.frozen? ⟨w.heap.size + 1, 1, none⟩ = false ∧ W.frozen? ⟨w.heap.size + 1, 2, none⟩ = false ∧ W.frozen? ⟨w.heap.size + 1, 3, none⟩ = false :=
  ⟨(h.t 0 (by decide)).2, (h.t 1 (by decide)).2, (h.t 2 (by decide)).2, (h.t 3 (by decide)).2⟩
theorem RlI.mk3 {w w1 : World} {F : Nat → Sl} {s : Sl} {o : Obj} (h : FrI w.heap.size w w1 F) (hlo : w.heap.size + 1 < w1.heap.size) (hz : CVz w1 (w.heap.size + 1)) (ht : w1.there (w.heap.size + 1) 0 4) (hs : SOk s) (hT : (w1.alloc o).there w1.heap.size 0 13) : RlI w w1.heap.size F s ((w1.alloc o).setCells w1.heap.size 0 (sC s)) := by
  have b : Below w1.heap.size w1 ((w1.alloc o).setCells w1.heap.size 0 (sC s)) := below_setCells w1.heap.size (Nat.le_refl _) (sC s) 0 _ ((Below.refl _ _).alloc (Nat.le_refl _) _)
  exact ⟨RrI.mk3 h hs hT, Nat.lt_of_lt_of_le hlo b.size, ⟨cn b hz.1, cn b hz.2.1, cn b hz.2.2.1, cn b hz.2.2.2⟩, there_below ht hlo (bcell b).1 (bcell b).2⟩
theorem rload_a (F : Nat → Sl) (off size : Int) (w : World) (hF : FOk F) (ho : -9223372036854775808 ≤ off ∧ off < 9223372036854775808) (hr : rightF F = false) :
    Calls Try.prog 13 #[fV F, .int .i64 off, .int .i64 size] w fun e w' => e = .returned (.tuple #[vV (loadF F off size).1, .int .i64 (loadF F off size).2]) ∧ Below w.heap.size w w' := by
  have HRt : Hid (∀ W, Calls Try.prog 16 #[.agg (fC F).toArray] W fun e w' => e = .returned (.bool false) ∧ Below W.heap.size W w') := fun W => hr ▸ rRight_any F W hF
  have HI35 : Hid ((Try.prog.info? 29).map (·.size) = some (fC F).length) := hid (by rw [fC_len hF]; kernel_rfl)
  have I0 := hid (frI_two w F 29 (.cells #[.int .u8 0, .int .i64 0, .int .u64 0, .int .i64 0] 25))
  have HR0 := hid I0.out.r0
  have BV := bld_v0
  unfold fV
  have hL : loadF F off size = (v0, 1) := by simp [loadF, hr]
  rw [hL]
  unfold vV v0
  dsimp only
  clear hL hr hF ho
  go_enter Try.func13, Try.ntmps13
  go_wp2_with (refine wpList_load_mid (op := ⟨_, .load 29 _, _, _, _, _⟩) rfl 29 _ rfl w.heap.size 0 rfl (fC F) _ HR0.out Try.underlying29 rfl HI35.out ?_)
  refine (HRt.out _).mono ?_
  rintro e w1 ⟨rfl, b1⟩
  have I1 := hid (I0.out.next b1)
  have p1 : w.heap.size + 1 < w1.heap.size := by have := b1.size; simp at this; omega
  have q1 : w.heap.size < w1.heap.size := by omega
  obtain ⟨hc1, hf1⟩ := bcell b1
  clear b1 HR0
  go_wp2
  exact bodyPost_ret (v := .tuple #[.agg #[.int .u8 0, .int .i64 0, .int .u64 0, .int .i64 0], .int .i64 1]) (by simp [results, Try.results13, go_sem, hc1, p1, q1]) rfl ⟨rfl, ((((I1.out.bel.setCell (by simp) _).setCell (by simp) _).setCell (by simp) _).setCell (by simp) _)⟩
theorem rload_b (F : Nat → Sl) (off size : Int) (w : World) (hF : FOk F) (ho : -9223372036854775808 ≤ off ∧ off < 9223372036854775808) (hr : rightF F = true) (hs : sizeB size = false) :
    Calls Try.prog 13 #[fV F, .int .i64 off, .int .i64 size] w fun e w' => e = .returned (.tuple #[vV (loadF F off size).1, .int .i64 (loadF F off size).2]) ∧ Below w.heap.size w w' := by
  have HRt : Hid (∀ W, Calls Try.prog 16 #[.agg (fC F).toArray] W fun e w' => e = .returned (.bool true) ∧ Below W.heap.size W w') := fun W => hr ▸ rRight_any F W hF
  have HI35 : Hid ((Try.prog.info? 29).map (·.size) = some (fC F).length) := hid (by rw [fC_len hF]; kernel_rfl)
  have I0 := hid (frI_two w F 29 (.cells #[.int .u8 0, .int .i64 0, .int .u64 0, .int .i64 0] 25))
  have HR0 := hid I0.out.r0
  have BV := bld_v0
  unfold fV
  have hL : loadF F off size = (v0, 1) := by simp [loadF, hr, hs]
  have HZ : Hid (∀ W, Calls Try.prog 32 #[.int .i64 size] W fun e w' => e = .returned (.bool false) ∧ W = w') := fun W => hs ▸ rsized_any size W
  rw [hL]
  unfold vV v0
  dsimp only
  clear hL hr hF ho hs
  go_enter Try.func13, Try.ntmps13
  go_wp2_with (refine wpList_load_mid (op := ⟨_, .load 29 _, _, _, _, _⟩) rfl 29 _ rfl w.heap.size 0 rfl (fC F) _ HR0.out Try.underlying29 rfl HI35.out ?_)
  refine (HRt.out _).mono ?_
  rintro e w1 ⟨rfl, b1⟩
  have I1 := hid (I0.out.next b1)
  have p1 : w.heap.size + 1 < w1.heap.size := by have := b1.size; simp at this; omega
  have q1 : w.heap.size < w1.heap.size := by omega
  obtain ⟨hc1, hf1⟩ := bcell b1
  clear b1 HR0
  go_wp2_with ((go_at_call 32; refine (HZ.out _).mono ?_; rintro e w9 ⟨rfl, rfl⟩))
  exact bodyPost_ret (v := .tuple #[.agg #[.int .u8 0, .int .i64 0, .int .u64 0, .int .i64 0], .int .i64 1]) (by simp [results, Try.results13, go_sem, hc1, p1, q1]) rfl ⟨rfl, ((((I1.out.bel.setCell (by simp) _).setCell (by simp) _).setCell (by simp) _).setCell (by simp) _)⟩
theorem rload_c (F : Nat → Sl) (off size : Int) (w : World) (hF : FOk F) (ho : -9223372036854775808 ≤ off ∧ off < 9223372036854775808) (hr : rightF F = true) (hs : sizeB size = true) (hp : placeE off size ≠ 0) :
    Calls Try.prog 13 #[fV F, .int .i64 off, .int .i64 size] w fun e w' => e = .returned (.tuple #[vV (loadF F off size).1, .int .i64 (loadF F off size).2]) ∧ Below w.heap.size w w' := by
  have HRt : Hid (∀ W, Calls Try.prog 16 #[.agg (fC F).toArray] W fun e w' => e = .returned (.bool true) ∧ Below W.heap.size W w') := fun W => hr ▸ rRight_any F W hF
  have HI35 : Hid ((Try.prog.info? 29).map (·.size) = some (fC F).length) := hid (by rw [fC_len hF]; kernel_rfl)
  have I0 := hid (frI_two w F 29 (.cells #[.int .u8 0, .int .i64 0, .int .u64 0, .int .i64 0] 25))
  have HR0 := hid I0.out.r0
  have BV := bld_v0
  unfold fV
  have hL : loadF F off size = (v0, placeE off size) := by simp [loadF, hr, hs, hp]
  have HZ : Hid (∀ W, Calls Try.prog 32 #[.int .i64 size] W fun e w' => e = .returned (.bool true) ∧ W = w') := fun W => hs ▸ rsized_any size W
  have HO := hid (fun W => rplace_any off size W hs ho)
  rw [hL]
  generalize placeE off size = E at HO hp ⊢
  have hE : (E != 0) = true := by simpa using hp
  unfold vV v0
  dsimp only
  clear hL hr hF ho hs hp
  go_enter Try.func13, Try.ntmps13
  go_wp2_with (refine wpList_load_mid (op := ⟨_, .load 29 _, _, _, _, _⟩) rfl 29 _ rfl w.heap.size 0 rfl (fC F) _ HR0.out Try.underlying29 rfl HI35.out ?_)
  refine (HRt.out _).mono ?_
  rintro e w1 ⟨rfl, b1⟩
  have I1 := hid (I0.out.next b1)
  have p1 : w.heap.size + 1 < w1.heap.size := by have := b1.size; simp at this; omega
  have q1 : w.heap.size < w1.heap.size := by omega
  obtain ⟨hc1, hf1⟩ := bcell b1
  clear b1 HR0
  go_wp2_with (first | (go_at_call 32; refine (HZ.out _).mono ?_; rintro e w9 ⟨rfl, rfl⟩) | (go_at_call 33; refine (HO.out _).mono ?_; rintro e w9 ⟨rfl, rfl⟩))
  exact bodyPost_ret (v := .tuple #[.agg #[.int .u8 0, .int .i64 0, .int .u64 0, .int .i64 0], .int .i64 E]) (by simp [results, Try.results13, go_sem, hc1, p1, q1]) rfl ⟨rfl, ((((I1.out.bel.setCell (by simp) _).setCell (by simp) _).setCell (by simp) _).setCell (by simp) _)⟩
set_option maxHeartbeats 3200000 in
theorem rload_d (F : Nat → Sl) (off size : Int) (w : World) (hF : FOk F) (ho : -9223372036854775808 ≤ off ∧ off < 9223372036854775808) (hr : rightF F = true) (hs : sizeB size = true) (hp : placeE off size = 0) :
    Calls Try.prog 13 #[fV F, .int .i64 off, .int .i64 size] w fun e w' => e = .returned (.tuple #[vV (loadF F off size).1, .int .i64 (loadF F off size).2]) ∧ Below w.heap.size w w' := by
  have HRt : Hid (∀ W, Calls Try.prog 16 #[.agg (fC F).toArray] W fun e w' => e = .returned (.bool true) ∧ Below W.heap.size W w') := fun W => hr ▸ rRight_any F W hF
  have HI35 : Hid ((Try.prog.info? 29).map (·.size) = some (fC F).length) := hid (by rw [fC_len hF]; kernel_rfl)
  have I0 := hid (frI_two w F 29 (.cells #[.int .u8 0, .int .i64 0, .int .u64 0, .int .i64 0] 25))
  have hsz2 : (w.alloc (.cells (fC F).toArray 29)).heap.size = w.heap.size + 1 := by simp
  have t0 := there_box (w.alloc (.cells (fC F).toArray 29)) #[.int .u8 0, .int .i64 0, .int .u64 0, .int .i64 0] 25 4 rfl
  rw [hsz2] at t0
  have T0 := hid t0
  clear t0 hsz2
  have HR0 := hid I0.out.r0
  have BV := bld_v0
  unfold fV
  have hL : loadF F off size = loadS (F (off / 8).toNat) (off % 8).toNat size.toNat := by simp [loadF, hr, hs, hp]
  have HZ : Hid (∀ W, Calls Try.prog 32 #[.int .i64 size] W fun e w' => e = .returned (.bool true) ∧ W = w') := fun W => hs ▸ rsized_any size W
  have HO := hid (fun W => rplace_any off size W hs ho)
  rw [hp] at HO
  obtain ⟨h0, h1, hz, h2, e1, e2, e3⟩ := place_ok hs hp
  have hsr : rightS (F (off / 8).toNat) = true := List.all_eq_true.1 hr _ (List.mem_range.2 h2)
  rw [hL]
  clear hL
  generalize (off / 8).toNat = K at *
  generalize (off % 8).toNat = i at *
  generalize size.toNat = n at *
  subst e3
  have hso := hF K h2
  have hrkF := fun (W : World) (hW : FrI w.heap.size w W F) => range_at hF hW.r0 K h2
  generalize hFK : F K = s at hso hsr hrkF ⊢
  clear hFK
  obtain ⟨sh, sl, ⟨vk, vm, vn, vo⟩⟩ := s
  have HSO := hid hso
  have HRKF := hid hrkF
  have HS : Hid ((Try.prog.info? 27).map (·.size) = some (sC (⟨sh, sl, ⟨vk, vm, vn, vo⟩⟩ : Sl)).length) := hid (by rw [sC_len hso]; exact info27)
  have HF := hid hF
  have hK : (K : Int) < 64 := by omega
  have HSR := hid hsr
  have HZP := hid hz
  have hn1 : 1 ≤ n ∧ n ≤ 8 := by rcases hz.1 with h | h | h | h <;> omega
  have hin := hz.2
  clear hr hF hs hp hz hsr hso hrkF
  have h512 := h1
  clear h1
  by_cases hv : (⟨vk, vm, vn, vo⟩ : Vl) = v0
  · injection hv with q1 q2 q3 q4
    subst q1 q2 q3 q4
    have HAdr : Hid (∀ W, Calls Try.prog 34 #[.agg #[.int .u8 0, .int .i64 0, .int .u64 0, .int .i64 0]] W fun e w' => e = .returned (.bool false) ∧ Below W.heap.size W w') := hid (fun W => raddr_any v0 W)
    have hlS : loadS ⟨sh, sl, ⟨0, 0, 0, 0⟩⟩ i n = if allB sh i n = true then (⟨1, 0, numL (partL sl i n), 0⟩, 0) else (v0, 40) := by
      unfold loadS
      rw [if_pos (show (⟨sh, sl, ⟨0, 0, 0, 0⟩⟩ : Sl).v = v0 from rfl)]
    rw [hlS]
    have hl8 : sl.length = 8 := HSO.out.2.1
    have hlb : ∀ x ∈ sl, 0 ≤ x ∧ x < 256 := HSO.out.2.2.1
    have hPl := part_len (l := sl) (i := i) (s := n) (by omega)
    have HPB := hid (part_bd (i := i) (s := n) hlb)
    have HPE : Hid (∀ k (h : k < n) (h2 : k < (partL sl i n).length), sl.getD (i + k) 0 = (partL sl i n)[k]) := hid (fun k h h2 => by
      rw [List.getD_eq_getElem?_getD, List.getElem?_eq_getElem (by omega)]
      simp [partL])
    generalize partL sl i n = P at hPl HPB HPE ⊢
    have hmod : off % 8 = (i : Int) := e2
    unfold vV v0
    clear hlS hlb
    cases hA : allB sh i n
    · simp only [Bool.false_eq_true, if_false]
      go_enter Try.func13, Try.ntmps13
      go_wp2_with (refine wpList_load_mid (op := ⟨_, .load 29 _, _, _, _, _⟩) rfl 29 _ rfl w.heap.size 0 rfl (fC F) _ HR0.out Try.underlying29 rfl HI35.out ?_)
      refine (HRt.out _).mono ?_
      rintro e w1 ⟨rfl, b1⟩
      have I1 := hid (I0.out.next b1)
      have p1 : w.heap.size + 1 < w1.heap.size := by have := b1.size; simp at this; omega
      have q1 : w.heap.size < w1.heap.size := by omega
      obtain ⟨hc1, hf1⟩ := bcell b1
      have hzz : CVz w1 (w.heap.size + 1) := ⟨by rw [hc1 _ _ (by simp)]; simp [go_sem], by rw [hc1 _ _ (by simp)]; simp [go_sem], by rw [hc1 _ _ (by simp)]; simp [go_sem], by rw [hc1 _ _ (by simp)]; simp [go_sem]⟩
      have htt : w1.there (w.heap.size + 1) 0 4 := there_below T0.out (by simp) hc1 hf1
      have HT := hid (there_box w1 #[.int .u8 0, .int .u8 0, .int .u8 0, .int .u8 0, .int .u8 0, .int .u8 0, .int .u8 0, .int .u8 0, .int .u8 0, .int .u8 0, .int .i64 0, .int .u64 0, .int .i64 0] 27 13 rfl)
      have J4 := hid (RlI.mk3 (s := ⟨sh, sl, ⟨0, 0, 0, 0⟩⟩) I1.out p1 hzz htt HSO.out HT.out)
      have HRk : Hid (w1.rangeAt w.heap.size (K * 13) (sC ⟨sh, sl, ⟨0, 0, 0, 0⟩⟩)) := hid (by have := HRKF.out _ I1.out; rwa [Nat.zero_add] at this)
      clear b1 HR0 hc1 hf1 hzz htt
      go_wp2_with (first | (go_at_call 32; refine (HZ.out _).mono ?_; rintro e w9 ⟨rfl, rfl⟩) | (go_at_call 33; refine (HO.out _).mono ?_; rintro e w9 ⟨rfl, rfl⟩) | ((with_reducible refine at_load 27 ?_); refine wpList_load_mid rfl 27 _ rfl w.heap.size (K * 13) rfl (sC ⟨sh, sl, ⟨0, 0, 0, 0⟩⟩) _ HRk.out Try.underlying27 rfl HS.out ?_) | ((with_reducible refine at_store 27 ?_); refine wpList_store_s _ _ rfl rfl w1.heap.size ⟨sh, sl, ⟨0, 0, 0, 0⟩⟩ HSO.out rfl rfl HT.out ?_; generalize (w1.alloc (.cells #[.int .u8 0, .int .u8 0, .int .u8 0, .int .u8 0, .int .u8 0, .int .u8 0, .int .u8 0, .int .u8 0, .int .u8 0, .int .u8 0, .int .i64 0, .int .u64 0, .int .i64 0] 27)).setCells w1.heap.size 0 (sC ⟨sh, sl, ⟨0, 0, 0, 0⟩⟩) = w4 at J4 ⊢; generalize w1.heap.size = g at J4 ⊢; obtain ⟨c0, c9, c10, c11, c12⟩ := rs_v J4.out.rr.rs HSO.out.2.1))
      refine (HAdr.out _).mono ?_
      rintro e w5 ⟨rfl, b5⟩
      have J5 := hid (J4.out.next b5)
      clear b5 c0 c9 c10 c11 c12 J4
      obtain ⟨c0, c9, c10, c11, c12⟩ := rs_v J5.out.rr.rs HSO.out.2.1
      go_wp2_with fail
      go_loopw [10, 11, 12] (fun nn pw jv w' => ∃ k : Nat, k ≤ n ∧ jv = .int .i64 k ∧ nn = .int .u64 (numL (P.take k)) ∧ pw = .int .u64 (256 ^ k % 18446744073709551616) ∧ Hid (∀ q, q < k → hasB sh (i + q) = true) ∧ Hid (RlI w g F ⟨sh, sl, ⟨0, 0, 0, 0⟩⟩ w')) (fun _ _ jv _ => n - (intOf jv).toNat)
      case atStart => exact ⟨0, Nat.zero_le _, rfl, rfl, rfl, hid (fun q hq => by omega), J5⟩
      case round =>
        obtain ⟨k, hk, rfl, rfl, rfl, HQ, JI⟩ := hrel
        by_cases hlt : k < n
        · have hlt' : (k : Int) < n := by omega
          have hik : i + k < 8 := by omega
          have HH := hid (fun W => rhas_any ⟨sh, sl, ⟨0, 0, 0, 0⟩⟩ (i + k) W HSO.out hik)
          unfold sV at HH
          dsimp only at HH
          rw [Int.natCast_add] at HH
          cases hhb : hasB sh (i + k)
          · rw [hhb] at HH
            go_wp2_with ((with_reducible refine at_load 27 ?_); refine wpList_load_mid rfl 27 _ rfl g 0 rfl (sC ⟨sh, sl, ⟨0, 0, 0, 0⟩⟩) _ JI.out.rr.rs Try.underlying27 rfl HS.out ?_)
            refine (HH.out _).mono ?_
            rintro e w7 ⟨rfl, b7⟩
            have J7 := hid (JI.out.next b7)
            clear b7
            obtain ⟨z0, z1, z2, z3⟩ := J7.out.z
            obtain ⟨y0, y1, y2, y3⟩ := J7.out.fz
            go_wp2
            exact bodyPost_ret (v := .tuple #[.agg #[.int .u8 0, .int .i64 0, .int .u64 0, .int .i64 0], .int .i64 40]) (by simp [results, Try.results13, go_sem, z0, z1, z2, z3]) rfl ⟨rfl, ((((J7.out.rr.fr.bel.setCell (by simp) _).setCell (by simp) _).setCell (by simp) _).setCell (by simp) _)⟩
          · rw [hhb] at HH
            have hkP : k < P.length := by omega
            have hx := HPB.out P[k] (List.getElem_mem hkP)
            obtain ⟨hx0, hx1⟩ := hx
            have hn := numL_bd (P.take k) (fun x hx => HPB.out x (List.mem_of_mem_take hx))
            have hs : numL (P.take (k + 1)) = numL (P.take k) + P[k] * 256 ^ k := by
              rw [List.take_succ_eq_append_getElem hkP, numL_snoc, List.length_take, Nat.min_eq_left (by omega)]
            rw [List.length_take, Nat.min_eq_left (by omega)] at hn
            have HM := hid ((mul_byte _ _ k (by omega) hn.1 hn.2 hx0 hx1).trans hs.symm)
            have HW := hid (pow_byte k (by omega))
            have hPk := HPE.out k hlt hkP
            clear hs hn
            generalize P[k] = z at HM hx0 hx1 hPk
            go_wp2_with ((with_reducible refine at_load 27 ?_); refine wpList_load_mid rfl 27 _ rfl g 0 rfl (sC ⟨sh, sl, ⟨0, 0, 0, 0⟩⟩) _ JI.out.rr.rs Try.underlying27 rfl HS.out ?_)
            refine (HH.out _).mono ?_
            rintro e w7 ⟨rfl, b7⟩
            have J7 := hid (JI.out.next b7)
            clear b7
            have hcb := rs_b J7.out.rr.rs HSO.out.2.1 (i + k) hik
            dsimp only at hcb
            rw [hPk] at hcb
            go_wp2
            go_roundw
            case rel => exact ⟨k + 1, by omega, by go_num, by rw [← HM.out], by rw [← HW.out], hid (fun q hq => (Nat.lt_succ_iff_lt_or_eq.1 hq).elim (fun r => HQ.out q r) (fun r => by subst r; exact hhb)), J7⟩
            case measure => simp [intOf]; omega
        · exfalso
          have : allB sh i n = true := by
            unfold allB
            rw [List.all_eq_true]
            exact fun q hq => HQ.out q (by have := List.mem_range.1 hq; omega)
          rw [this] at hA
          exact absurd hA (by decide)
    · simp only [if_true]
      go_enter Try.func13, Try.ntmps13
      go_wp2_with (refine wpList_load_mid (op := ⟨_, .load 29 _, _, _, _, _⟩) rfl 29 _ rfl w.heap.size 0 rfl (fC F) _ HR0.out Try.underlying29 rfl HI35.out ?_)
      refine (HRt.out _).mono ?_
      rintro e w1 ⟨rfl, b1⟩
      have I1 := hid (I0.out.next b1)
      have p1 : w.heap.size + 1 < w1.heap.size := by have := b1.size; simp at this; omega
      have q1 : w.heap.size < w1.heap.size := by omega
      obtain ⟨hc1, hf1⟩ := bcell b1
      have hzz : CVz w1 (w.heap.size + 1) := ⟨by rw [hc1 _ _ (by simp)]; simp [go_sem], by rw [hc1 _ _ (by simp)]; simp [go_sem], by rw [hc1 _ _ (by simp)]; simp [go_sem], by rw [hc1 _ _ (by simp)]; simp [go_sem]⟩
      have htt : w1.there (w.heap.size + 1) 0 4 := there_below T0.out (by simp) hc1 hf1
      have HT := hid (there_box w1 #[.int .u8 0, .int .u8 0, .int .u8 0, .int .u8 0, .int .u8 0, .int .u8 0, .int .u8 0, .int .u8 0, .int .u8 0, .int .u8 0, .int .i64 0, .int .u64 0, .int .i64 0] 27 13 rfl)
      have J4 := hid (RlI.mk3 (s := ⟨sh, sl, ⟨0, 0, 0, 0⟩⟩) I1.out p1 hzz htt HSO.out HT.out)
      have HRk : Hid (w1.rangeAt w.heap.size (K * 13) (sC ⟨sh, sl, ⟨0, 0, 0, 0⟩⟩)) := hid (by have := HRKF.out _ I1.out; rwa [Nat.zero_add] at this)
      clear b1 HR0 hc1 hf1 hzz htt
      go_wp2_with (first | (go_at_call 32; refine (HZ.out _).mono ?_; rintro e w9 ⟨rfl, rfl⟩) | (go_at_call 33; refine (HO.out _).mono ?_; rintro e w9 ⟨rfl, rfl⟩) | ((with_reducible refine at_load 27 ?_); refine wpList_load_mid rfl 27 _ rfl w.heap.size (K * 13) rfl (sC ⟨sh, sl, ⟨0, 0, 0, 0⟩⟩) _ HRk.out Try.underlying27 rfl HS.out ?_) | ((with_reducible refine at_store 27 ?_); refine wpList_store_s _ _ rfl rfl w1.heap.size ⟨sh, sl, ⟨0, 0, 0, 0⟩⟩ HSO.out rfl rfl HT.out ?_; generalize (w1.alloc (.cells #[.int .u8 0, .int .u8 0, .int .u8 0, .int .u8 0, .int .u8 0, .int .u8 0, .int .u8 0, .int .u8 0, .int .u8 0, .int .u8 0, .int .i64 0, .int .u64 0, .int .i64 0] 27)).setCells w1.heap.size 0 (sC ⟨sh, sl, ⟨0, 0, 0, 0⟩⟩) = w4 at J4 ⊢; generalize w1.heap.size = g at J4 ⊢; obtain ⟨c0, c9, c10, c11, c12⟩ := rs_v J4.out.rr.rs HSO.out.2.1))
      refine (HAdr.out _).mono ?_
      rintro e w5 ⟨rfl, b5⟩
      have J5 := hid (J4.out.next b5)
      clear b5 c0 c9 c10 c11 c12 J4
      obtain ⟨c0, c9, c10, c11, c12⟩ := rs_v J5.out.rr.rs HSO.out.2.1
      go_wp2_with fail
      go_loopw [10, 11, 12] (fun nn pw jv w' => ∃ k : Nat, k ≤ n ∧ jv = .int .i64 k ∧ nn = .int .u64 (numL (P.take k)) ∧ pw = .int .u64 (256 ^ k % 18446744073709551616) ∧ Hid (∀ q, q < k → hasB sh (i + q) = true) ∧ Hid (RlI w g F ⟨sh, sl, ⟨0, 0, 0, 0⟩⟩ w')) (fun _ _ jv _ => n - (intOf jv).toNat)
      case atStart => exact ⟨0, Nat.zero_le _, rfl, rfl, rfl, hid (fun q hq => by omega), J5⟩
      case round =>
        obtain ⟨k, hk, rfl, rfl, rfl, HQ, JI⟩ := hrel
        by_cases hlt : k < n
        · have hlt' : (k : Int) < n := by omega
          have hik : i + k < 8 := by omega
          have HH := hid (fun W => rhas_any ⟨sh, sl, ⟨0, 0, 0, 0⟩⟩ (i + k) W HSO.out hik)
          unfold sV at HH
          dsimp only at HH
          rw [Int.natCast_add] at HH
          cases hhb : hasB sh (i + k)
          · exfalso
            have := List.all_eq_true.1 hA k (List.mem_range.2 hlt)
            rw [hhb] at this
            exact absurd this (by decide)
          · rw [hhb] at HH
            have hkP : k < P.length := by omega
            have hx := HPB.out P[k] (List.getElem_mem hkP)
            obtain ⟨hx0, hx1⟩ := hx
            have hn := numL_bd (P.take k) (fun x hx => HPB.out x (List.mem_of_mem_take hx))
            have hs : numL (P.take (k + 1)) = numL (P.take k) + P[k] * 256 ^ k := by
              rw [List.take_succ_eq_append_getElem hkP, numL_snoc, List.length_take, Nat.min_eq_left (by omega)]
            rw [List.length_take, Nat.min_eq_left (by omega)] at hn
            have HM := hid ((mul_byte _ _ k (by omega) hn.1 hn.2 hx0 hx1).trans hs.symm)
            have HW := hid (pow_byte k (by omega))
            have hPk := HPE.out k hlt hkP
            clear hs hn
            generalize P[k] = z at HM hx0 hx1 hPk
            go_wp2_with ((with_reducible refine at_load 27 ?_); refine wpList_load_mid rfl 27 _ rfl g 0 rfl (sC ⟨sh, sl, ⟨0, 0, 0, 0⟩⟩) _ JI.out.rr.rs Try.underlying27 rfl HS.out ?_)
            refine (HH.out _).mono ?_
            rintro e w7 ⟨rfl, b7⟩
            have J7 := hid (JI.out.next b7)
            clear b7
            have hcb := rs_b J7.out.rr.rs HSO.out.2.1 (i + k) hik
            dsimp only at hcb
            rw [hPk] at hcb
            go_wp2
            go_roundw
            case rel => exact ⟨k + 1, by omega, by go_num, by rw [← HM.out], by rw [← HW.out], hid (fun q hq => (Nat.lt_succ_iff_lt_or_eq.1 hq).elim (fun r => HQ.out q r) (fun r => by subst r; exact hhb)), J7⟩
            case measure => simp [intOf]; omega
        · have hkn : k = n := by omega
          subst hkn
          have hPt : P.take k = P := by rw [← hPl, List.take_length]
          rw [hPt]
          obtain ⟨z0, z1, z2, z3⟩ := JI.out.z
          obtain ⟨y0, y1, y2, y3⟩ := JI.out.fz
          go_wp2
          exact bodyPost_ret (v := .tuple #[.agg #[.int .u8 1, .int .i64 0, .int .u64 (numL P), .int .i64 0], .int .i64 0]) (by simp [results, Try.results13, go_sem, z0, z1, z2, z3]) rfl ⟨rfl, ((((JI.out.rr.fr.bel.setCell (by simp) _).setCell (by simp) _).setCell (by simp) _).setCell (by simp) _)⟩
  · have hvv : (⟨sh, sl, ⟨vk, vm, vn, vo⟩⟩ : Sl).v ≠ v0 := hv
    have hra := HSR.out
    rw [addr_eq hvv, Bool.and_eq_true, Bool.and_eq_true] at hra
    obtain ⟨hm, ha, _⟩ := hra
    have hrad := radr_may hm
    rw [ha] at hrad
    dsimp only at hrad
    have HAdr : Hid (∀ W, Calls Try.prog 34 #[.agg #[.int .u8 vk, .int .i64 vm, .int .u64 vn, .int .i64 vo]] W fun e w' => e = .returned (.bool true) ∧ Below W.heap.size W w') := hid (fun W => hrad ▸ raddr_any ⟨vk, vm, vn, vo⟩ W)
    by_cases h8 : n = 8
    · have hlS : loadS ⟨sh, sl, ⟨vk, vm, vn, vo⟩⟩ i n = (⟨vk, vm, vn, vo⟩, 0) := by
        unfold loadS
        rw [if_neg hvv, if_pos h8]
      rw [hlS]
      have d8 : decide ((n : Int) < 8) = false := decide_eq_false (by omega)
      unfold vV
      clear hlS h8 hv hvv hm ha hrad
      go_enter Try.func13, Try.ntmps13
      go_wp2_with (refine wpList_load_mid (op := ⟨_, .load 29 _, _, _, _, _⟩) rfl 29 _ rfl w.heap.size 0 rfl (fC F) _ HR0.out Try.underlying29 rfl HI35.out ?_)
      refine (HRt.out _).mono ?_
      rintro e w1 ⟨rfl, b1⟩
      have I1 := hid (I0.out.next b1)
      have p1 : w.heap.size + 1 < w1.heap.size := by have := b1.size; simp at this; omega
      have q1 : w.heap.size < w1.heap.size := by omega
      obtain ⟨hc1, hf1⟩ := bcell b1
      have hzz : CVz w1 (w.heap.size + 1) := ⟨by rw [hc1 _ _ (by simp)]; simp [go_sem], by rw [hc1 _ _ (by simp)]; simp [go_sem], by rw [hc1 _ _ (by simp)]; simp [go_sem], by rw [hc1 _ _ (by simp)]; simp [go_sem]⟩
      have htt : w1.there (w.heap.size + 1) 0 4 := there_below T0.out (by simp) hc1 hf1
      have HT := hid (there_box w1 #[.int .u8 0, .int .u8 0, .int .u8 0, .int .u8 0, .int .u8 0, .int .u8 0, .int .u8 0, .int .u8 0, .int .u8 0, .int .u8 0, .int .i64 0, .int .u64 0, .int .i64 0] 27 13 rfl)
      have J4 := hid (RlI.mk3 (s := ⟨sh, sl, ⟨vk, vm, vn, vo⟩⟩) I1.out p1 hzz htt HSO.out HT.out)
      have HRk : Hid (w1.rangeAt w.heap.size (K * 13) (sC ⟨sh, sl, ⟨vk, vm, vn, vo⟩⟩)) := hid (by have := HRKF.out _ I1.out; rwa [Nat.zero_add] at this)
      clear b1 HR0 hc1 hf1 hzz htt
      go_wp2_with (first | (go_at_call 32; refine (HZ.out _).mono ?_; rintro e w9 ⟨rfl, rfl⟩) | (go_at_call 33; refine (HO.out _).mono ?_; rintro e w9 ⟨rfl, rfl⟩) | ((with_reducible refine at_load 27 ?_); refine wpList_load_mid rfl 27 _ rfl w.heap.size (K * 13) rfl (sC ⟨sh, sl, ⟨vk, vm, vn, vo⟩⟩) _ HRk.out Try.underlying27 rfl HS.out ?_) | ((with_reducible refine at_store 27 ?_); refine wpList_store_s _ _ rfl rfl w1.heap.size ⟨sh, sl, ⟨vk, vm, vn, vo⟩⟩ HSO.out rfl rfl HT.out ?_; generalize (w1.alloc (.cells #[.int .u8 0, .int .u8 0, .int .u8 0, .int .u8 0, .int .u8 0, .int .u8 0, .int .u8 0, .int .u8 0, .int .u8 0, .int .u8 0, .int .i64 0, .int .u64 0, .int .i64 0] 27)).setCells w1.heap.size 0 (sC ⟨sh, sl, ⟨vk, vm, vn, vo⟩⟩) = w4 at J4 ⊢; generalize w1.heap.size = g at J4 ⊢; obtain ⟨c0, c9, c10, c11, c12⟩ := rs_v J4.out.rr.rs HSO.out.2.1))
      refine (HAdr.out _).mono ?_
      rintro e w5 ⟨rfl, b5⟩
      have J5 := hid (J4.out.next b5)
      clear b5 c0 c9 c10 c11 c12 J4
      obtain ⟨c0, c9, c10, c11, c12⟩ := rs_v J5.out.rr.rs HSO.out.2.1
      obtain ⟨z0, z1, z2, z3⟩ := J5.out.z
      obtain ⟨y0, y1, y2, y3⟩ := J5.out.fz
      go_wp2
      exact bodyPost_ret (v := .tuple #[.agg #[.int .u8 vk, .int .i64 vm, .int .u64 vn, .int .i64 vo], .int .i64 0]) (by simp [results, Try.results13, go_sem, z0, z1, z2, z3]) rfl ⟨rfl, ((((J5.out.rr.fr.bel.setCell (by simp) _).setCell (by simp) _).setCell (by simp) _).setCell (by simp) _)⟩
    · have hlS : loadS ⟨sh, sl, ⟨vk, vm, vn, vo⟩⟩ i n = (v0, 41) := by
        unfold loadS
        rw [if_neg hvv, if_neg h8]
      rw [hlS]
      have d8 : decide ((n : Int) < 8) = true := decide_eq_true (by omega)
      unfold vV v0
      clear hlS h8 hv hvv hm ha hrad
      go_enter Try.func13, Try.ntmps13
      go_wp2_with (refine wpList_load_mid (op := ⟨_, .load 29 _, _, _, _, _⟩) rfl 29 _ rfl w.heap.size 0 rfl (fC F) _ HR0.out Try.underlying29 rfl HI35.out ?_)
      refine (HRt.out _).mono ?_
      rintro e w1 ⟨rfl, b1⟩
      have I1 := hid (I0.out.next b1)
      have p1 : w.heap.size + 1 < w1.heap.size := by have := b1.size; simp at this; omega
      have q1 : w.heap.size < w1.heap.size := by omega
      obtain ⟨hc1, hf1⟩ := bcell b1
      have hzz : CVz w1 (w.heap.size + 1) := ⟨by rw [hc1 _ _ (by simp)]; simp [go_sem], by rw [hc1 _ _ (by simp)]; simp [go_sem], by rw [hc1 _ _ (by simp)]; simp [go_sem], by rw [hc1 _ _ (by simp)]; simp [go_sem]⟩
      have htt : w1.there (w.heap.size + 1) 0 4 := there_below T0.out (by simp) hc1 hf1
      have HT := hid (there_box w1 #[.int .u8 0, .int .u8 0, .int .u8 0, .int .u8 0, .int .u8 0, .int .u8 0, .int .u8 0, .int .u8 0, .int .u8 0, .int .u8 0, .int .i64 0, .int .u64 0, .int .i64 0] 27 13 rfl)
      have J4 := hid (RlI.mk3 (s := ⟨sh, sl, ⟨vk, vm, vn, vo⟩⟩) I1.out p1 hzz htt HSO.out HT.out)
      have HRk : Hid (w1.rangeAt w.heap.size (K * 13) (sC ⟨sh, sl, ⟨vk, vm, vn, vo⟩⟩)) := hid (by have := HRKF.out _ I1.out; rwa [Nat.zero_add] at this)
      clear b1 HR0 hc1 hf1 hzz htt
      go_wp2_with (first | (go_at_call 32; refine (HZ.out _).mono ?_; rintro e w9 ⟨rfl, rfl⟩) | (go_at_call 33; refine (HO.out _).mono ?_; rintro e w9 ⟨rfl, rfl⟩) | ((with_reducible refine at_load 27 ?_); refine wpList_load_mid rfl 27 _ rfl w.heap.size (K * 13) rfl (sC ⟨sh, sl, ⟨vk, vm, vn, vo⟩⟩) _ HRk.out Try.underlying27 rfl HS.out ?_) | ((with_reducible refine at_store 27 ?_); refine wpList_store_s _ _ rfl rfl w1.heap.size ⟨sh, sl, ⟨vk, vm, vn, vo⟩⟩ HSO.out rfl rfl HT.out ?_; generalize (w1.alloc (.cells #[.int .u8 0, .int .u8 0, .int .u8 0, .int .u8 0, .int .u8 0, .int .u8 0, .int .u8 0, .int .u8 0, .int .u8 0, .int .u8 0, .int .i64 0, .int .u64 0, .int .i64 0] 27)).setCells w1.heap.size 0 (sC ⟨sh, sl, ⟨vk, vm, vn, vo⟩⟩) = w4 at J4 ⊢; generalize w1.heap.size = g at J4 ⊢; obtain ⟨c0, c9, c10, c11, c12⟩ := rs_v J4.out.rr.rs HSO.out.2.1))
      refine (HAdr.out _).mono ?_
      rintro e w5 ⟨rfl, b5⟩
      have J5 := hid (J4.out.next b5)
      clear b5 c0 c9 c10 c11 c12 J4
      obtain ⟨c0, c9, c10, c11, c12⟩ := rs_v J5.out.rr.rs HSO.out.2.1
      obtain ⟨z0, z1, z2, z3⟩ := J5.out.z
      obtain ⟨y0, y1, y2, y3⟩ := J5.out.fz
      go_wp2
      exact bodyPost_ret (v := .tuple #[.agg #[.int .u8 0, .int .i64 0, .int .u64 0, .int .i64 0], .int .i64 41]) (by simp [results, Try.results13, go_sem, z0, z1, z2, z3]) rfl ⟨rfl, ((((J5.out.rr.fr.bel.setCell (by simp) _).setCell (by simp) _).setCell (by simp) _).setCell (by simp) _)⟩

theorem rLoad_any (F : Nat → Sl) (off size : Int) (w : World) (hF : FOk F) (ho : -9223372036854775808 ≤ off ∧ off < 9223372036854775808) :
    Calls Try.prog 13 #[fV F, .int .i64 off, .int .i64 size] w fun e w' => e = .returned (.tuple #[vV (loadF F off size).1, .int .i64 (loadF F off size).2]) ∧ Below w.heap.size w w' := by
  cases hr : rightF F
  · exact rload_a F off size w hF ho hr
  cases hs : sizeB size
  · exact rload_b F off size w hF ho hr hs
  by_cases hp : placeE off size = 0
  · exact rload_d F off size w hF ho hr hs hp
  · exact rload_c F off size w hF ho hr hs hp

end Go.Proofs.Ytjlaenkfjejbkaa
