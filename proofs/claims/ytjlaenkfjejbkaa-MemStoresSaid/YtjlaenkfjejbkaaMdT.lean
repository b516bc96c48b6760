/-
  The document's Store.
-/
import Derived.Test.YtjlaenkfjejbkaaMdS
import Derived.Test.YtjlaenkfjejbkaaMdL
import Derived.Test.YtjlaenkfjejbkaaMeR
namespace Go.Proofs.Ytjlaenkfjejbkaa
set_option linter.unusedSimpArgs false
set_option linter.unusedVariables false
open Go.ChangeShapes Go.WideShapes Go.ChangeAt Go.RowKit

theorem or_step_t : ((List.range 8).all fun k => (List.range 8).all fun i => (List.range 256).all fun h => decide (8 ≤ i + k) || (orB (h : Int) i (k + 1) == (if hasB (orB (h : Int) i k) (i + k) = true then orB (h : Int) i k else orB (h : Int) i k + 2 ^ (i + k)))) = true := by kernel_rfl
theorem or_step (h : Int) (i k : Nat) (h0 : 0 ≤ h) (h1 : h < 256) (hik : i + k < 8) : orB h i (k + 1) = if hasB (orB h i k) (i + k) = true then orB h i k else orB h i k + 2 ^ (i + k) := by
  have t := or_step_t
  rw [List.all_eq_true] at t
  have t1 := t k (List.mem_range.2 (by omega))
  rw [List.all_eq_true] at t1
  have t2 := t1 i (List.mem_range.2 (by omega))
  rw [List.all_eq_true] at t2
  have t3 := t2 h.toNat (List.mem_range.2 (by omega))
  rw [show ((h.toNat : Nat) : Int) = h by omega, Bool.or_eq_true, decide_eq_true_eq, beq_iff_eq] at t3
  exact t3.resolve_left (by omega)
theorem or_zero (h : Int) (i : Nat) (h0 : 0 ≤ h) (h1 : h < 256) : orB h i 0 = h := by
  unfold orB bitsI
  simp
  have t : ((List.range 256).all fun h => decide (bits .or .u8 (h : Int) 0 = (h : Int))) = true := by kernel_rfl
  rw [List.all_eq_true] at t
  have hx := t h.toNat (List.mem_range.2 (by omega))
  rwa [decide_eq_true_eq, show ((h.toNat : Nat) : Int) = h by omega] at hx
theorem orB_bd (h : Int) (i k : Nat) : 0 ≤ orB h i k ∧ orB h i k < 256 := or8_bd _ _
theorem put_snoc {b : List Int} {i k : Nat} {x : Int} (hb : b.length = 8) (hik : i + k < 8) : putL (putL b i (layL x k)) (i + k) [x / 256 ^ k % 256] = putL b i (layL x (k + 1)) := by
  have e1 : i + (layL x k).length ≤ b.length := by rw [layL_len]; omega
  have e2 : i + (layL x (k + 1)).length ≤ b.length := by rw [layL_len]; omega
  have l1 := putL_len e1
  have e3 : i + k + ([x / 256 ^ k % 256] : List Int).length ≤ (putL b i (layL x k)).length := by rw [l1]; simp; omega
  apply List.ext_getElem?
  intro j
  by_cases h1 : j = i + k
  · subst h1
    have := putL_in e3 0 (by simp)
    rw [Nat.add_zero] at this
    rw [this, putL_in e2 k (by rw [layL_len]; omega), layL_snoc, List.getElem?_append_right (by rw [layL_len]; omega), layL_len, Nat.sub_self]
  · rw [putL_out e3 j (by simp; omega)]
    by_cases h2 : i ≤ j ∧ j < i + k
    · obtain ⟨q, rfl⟩ : ∃ q, j = i + q := ⟨j - i, by omega⟩
      rw [putL_in e1 q (by rw [layL_len]; omega), putL_in e2 q (by rw [layL_len]; omega), layL_snoc, List.getElem?_append_left (by rw [layL_len]; omega)]
    · rw [putL_out e1 j (by rw [layL_len]; omega), putL_out e2 j (by rw [layL_len]; omega)]
def CVs (W : World) (g : Nat) (v : Vl) : Prop := W.cell? ⟨g, 0, none⟩ = some (.int .u8 v.k) ∧ W.cell? ⟨g, 1, none⟩ = some (.int .i64 v.m) ∧ W.cell? ⟨g, 2, none⟩ = some (.int .u64 v.n) ∧ W.cell? ⟨g, 3, none⟩ = some (.int .i64 v.o)
/-- What Store keeps: the frame, the value, the answer's place. -/
structure StP (w : World) (F : Nat → Sl) (v : Vl) (W : World) : Prop where
  bel : Below w.heap.size w W
  sz : w.heap.size + 2 < W.heap.size
  r0 : W.rangeAt w.heap.size 0 (fC F)
  t0 : W.there w.heap.size 0 832
  cv : CVs W (w.heap.size + 1) v
  t2 : W.there (w.heap.size + 2) 0 832
theorem StP.next {w W V : World} {F : Nat → Sl} {v : Vl} (h : StP w F v W) (b : Below W.heap.size W V) : StP w F v V := by
  obtain ⟨hc, hf⟩ := bcell b
  have := h.sz
  exact ⟨below_next_w h.bel b (by omega), Nat.lt_of_lt_of_le h.sz b.size, range_below h.r0 (by omega) hc, there_below h.t0 (by omega) hc hf, ⟨cn b h.cv.1, cn b h.cv.2.1, cn b h.cv.2.2.1, cn b h.cv.2.2.2⟩, there_below h.t2 h.sz hc hf⟩
theorem StP.first (w : World) (F : Nat → Sl) (k m n o : Int) (hF : FOk F) (t0 t1 t2 : TypeId) : StP w F ⟨k, m, n, o⟩ (((w.alloc (.cells (fC F).toArray t0)).alloc (.cells #[.int .u8 k, .int .i64 m, .int .u64 n, .int .i64 o] t1)).alloc (.cells (fC f0).toArray t2)) := by
  have hsz : (fC F).toArray.size = 832 := by rw [List.size_toArray, fC_len hF]
  have e1 : (w.alloc (.cells (fC F).toArray t0)).heap.size = w.heap.size + 1 := by simp
  have e2 : ((w.alloc (.cells (fC F).toArray t0)).alloc (.cells #[.int .u8 k, .int .i64 m, .int .u64 n, .int .i64 o] t1)).heap.size = w.heap.size + 2 := by simp
  refine ⟨(((Below.refl _ _).alloc (Nat.le_refl _) _).alloc (by simp) _).alloc (by simp; omega) _, by simp, ?_, ?_, ?_, ?_⟩
  · exact World.rangeAt_alloc (World.rangeAt_alloc (range_new w (fC F).toArray t0) _) _
  · exact World.there_alloc (World.there_alloc (there_box w (fC F).toArray t0 832 hsz.symm) _) _
  · have hr := World.rangeAt_alloc (range_new (w.alloc (.cells (fC F).toArray t0)) #[.int .u8 k, .int .i64 m, .int .u64 n, .int .i64 o] t1) (.cells (fC f0).toArray t2)
    rw [e1] at hr
    exact ⟨hr 0 _ rfl, hr 1 _ rfl, hr 2 _ rfl, hr 3 _ rfl⟩
  · have := there_box ((w.alloc (.cells (fC F).toArray t0)).alloc (.cells #[.int .u8 k, .int .i64 m, .int .u64 n, .int .i64 o] t1)) (fC f0).toArray t2 832 f0_size
    rw [e2] at this
    exact this
/-- .. and the slot. -/
structure StR (w : World) (g : Nat) (F : Nat → Sl) (s : Sl) (v : Vl) (W : World) : Prop where
  p : StP w F v W
  lo : w.heap.size + 2 < g
  lt : g < W.heap.size
  rs : W.rangeAt g 0 (sC s)
  ts : W.there g 0 13
theorem StR.next {w W V : World} {g : Nat} {F : Nat → Sl} {s : Sl} {v : Vl} (h : StR w g F s v W) (b : Below W.heap.size W V) : StR w g F s v V :=
  ⟨h.p.next b, h.lo, Nat.lt_of_lt_of_le h.lt b.size, range_below h.rs h.lt (bcell b).1, there_below h.ts h.lt (bcell b).1 (bcell b).2⟩
theorem StR.mk3 {w W : World} {F : Nat → Sl} {s : Sl} {v : Vl} {o : Obj} (h : StP w F v W) (hs : SOk s) (hT : (W.alloc o).there W.heap.size 0 13) : StR w W.heap.size F s v ((W.alloc o).setCells W.heap.size 0 (sC s)) := by
  have b : Below W.heap.size W ((W.alloc o).setCells W.heap.size 0 (sC s)) := below_setCells W.heap.size (Nat.le_refl _) (sC s) 0 _ ((Below.refl _ _).alloc (Nat.le_refl _) _)
  have hz : W.heap.size < ((W.alloc o).setCells W.heap.size 0 (sC s)).heap.size := Nat.lt_of_lt_of_le (by simp) (below_setCells (n := 0) (a := W.alloc o) W.heap.size (Nat.zero_le _) (sC s) 0 _ (Below.refl _ _)).size
  exact ⟨h.next b, h.sz, hz, World.rangeAt_setCells_same _ _ 0 (sC s) (by rw [sC_len hs]; exact hT), World.there_setCells hT _ 0 _⟩
/-- A store into a block that none of the others is. -/
theorem StP.far {w W : World} {F : Nat → Sl} {v : Vl} {b o : Nat} {cs : List Value} (h : StP w F v W) (hb : w.heap.size + 2 < b) : StP w F v (W.setCells b o cs) := by
  have hz := (below_setCells (n := 0) (a := W) b (Nat.zero_le _) cs o W (Below.refl _ _)).size
  have kc : ∀ g q c, g ≠ b → W.cell? ⟨g, q, none⟩ = some c → (W.setCells b o cs).cell? ⟨g, q, none⟩ = some c := fun g q c hg hc => by
    rw [World.cell?_setCells_out _ _ _ _ _ (fun e _ => absurd e hg)]
    exact hc
  have := h.sz
  exact ⟨below_setCells b (by omega) _ _ _ h.bel, by omega, World.rangeAt_setCells_apart h.r0 b o _ (Or.inl (by omega)), World.there_setCells h.t0 b o _, ⟨kc _ _ _ (by omega) h.cv.1, kc _ _ _ (by omega) h.cv.2.1, kc _ _ _ (by omega) h.cv.2.2.1, kc _ _ _ (by omega) h.cv.2.2.2⟩, World.there_setCells h.t2 b o _⟩
theorem StR.slot {w W : World} {g o : Nat} {F : Nat → Sl} {s s' : Sl} {v : Vl} {cs : List Value} (h : StR w g F s v W) (hr : (W.setCells g o cs).rangeAt g 0 (sC s')) : StR w g F s' v (W.setCells g o cs) :=
  ⟨h.p.far h.lo, h.lo, Nat.lt_of_lt_of_le h.lt (below_setCells (n := 0) (a := W) g (Nat.zero_le _) cs o W (Below.refl _ _)).size, hr, World.there_setCells h.ts g o _⟩
theorem set_h {W : World} {g : Nat} {h h' : Int} {b : List Int} {v : Vl} (hr : W.rangeAt g 0 (sC ⟨h, b, v⟩)) : (W.setCell ⟨g, 0, none⟩ (.int .u8 h')).rangeAt g 0 (sC ⟨h', b, v⟩) := fun j u hu => by
  rw [Nat.zero_add]
  have h0 := hr 0 (.int .u8 h) rfl
  cases j with
  | zero =>
    rw [← hu]
    show (W.setCells g 0 [.int .u8 h']).cell? ⟨g, 0, none⟩ = some (.int .u8 h')
    exact World.cell?_setCells_in g [.int .u8 h'] 0 W (fun k hk => by
      obtain rfl : k = 0 := by simpa using hk
      rw [h0]; rfl) 0 (by simp)
  | succ j =>
    have := hr (j + 1) u hu
    rw [Nat.zero_add] at this
    rw [← this]
    show (W.setCells g 0 [.int .u8 h']).cell? ⟨g, j + 1, none⟩ = _
    exact World.cell?_setCells_out _ _ _ _ _ (fun _ _ => by show j + 1 < 0 ∨ 0 + ([Value.int .u8 h'] : List Value).length ≤ j + 1; simp)
theorem set_b {W : World} {g j : Nat} {h y : Int} {b : List Int} {v : Vl} (hb : b.length = 8) (hj : j < 8) (hr : W.rangeAt g 0 (sC ⟨h, b, v⟩)) : (W.setCell ⟨g, 1 + j, none⟩ (.int .u8 y)).rangeAt g 0 (sC ⟨h, putL b j [y], v⟩) := fun q u hu => by
  rw [Nat.zero_add]
  have hpl : (putL b j [y]).length = 8 := by rw [putL_len (by simp; omega), hb]
  have hc : ∀ k c, (sC ⟨h, b, v⟩)[k]? = some c → W.cell? ⟨g, k, none⟩ = some c := fun k c hk => by have := hr k c hk; rwa [Nat.zero_add] at this
  have hin : (W.setCells g (1 + j) [.int .u8 y]).cell? ⟨g, 1 + j, none⟩ = some (.int .u8 y) := by
    have := World.cell?_setCells_in g [.int .u8 y] (1 + j) W (fun k hk => by
      obtain rfl : k = 0 := by simpa using hk
      rw [Nat.add_zero, hc (1 + j) (.int .u8 b[j]) (by
        unfold sC bC
        rw [Nat.add_comm 1 j, List.getElem?_cons_succ, List.getElem?_append_left (by rw [List.length_map]; show j < b.length; omega), List.getElem?_map, List.getElem?_eq_getElem (show j < b.length by omega)]
        rfl)]
      rfl) 0 (by simp)
    exact this
  have hout : ∀ k, k ≠ 1 + j → (W.setCells g (1 + j) [.int .u8 y]).cell? ⟨g, k, none⟩ = W.cell? ⟨g, k, none⟩ := fun k hk =>
    World.cell?_setCells_out _ _ _ _ _ (fun _ _ => by show k < 1 + j ∨ 1 + j + ([Value.int .u8 y] : List Value).length ≤ k; simp; omega)
  show (W.setCells g (1 + j) [.int .u8 y]).cell? ⟨g, q, none⟩ = some u
  by_cases e : q = 1 + j
  · subst e
    rw [hin, ← hu]
    unfold sC bC
    rw [Nat.add_comm 1 j, List.getElem?_cons_succ, List.getElem?_append_left (by rw [List.length_map]; show j < (putL b j [y]).length; omega), List.getElem?_map]
    have := putL_in (l := b) (i := j) (xs := [y]) (by simp; omega) 0 (by simp)
    rw [Nat.add_zero] at this
    rw [this]
    rfl
  · rw [hout q e]
    refine hc q u ?_
    rw [← hu]
    unfold sC bC
    cases q with
    | zero => rfl
    | succ q =>
      rw [List.getElem?_cons_succ, List.getElem?_cons_succ]
      by_cases h8 : q < 8
      · rw [List.getElem?_append_left (by rw [List.length_map]; show q < b.length; omega), List.getElem?_append_left (by rw [List.length_map]; show q < (putL b j [y]).length; omega), List.getElem?_map, List.getElem?_map]
        show _ = ((putL b j [y])[q]?).map _
        rw [putL_out (by simp; omega) q (by simp; omega)]
      · rw [List.getElem?_append_right (by rw [List.length_map]; show b.length ≤ q; omega), List.getElem?_append_right (by rw [List.length_map]; show (putL b j [y]).length ≤ q; omega), List.length_map, List.length_map]
        show (vC v)[q - b.length]? = (vC v)[q - (putL b j [y]).length]?
        rw [hpl, hb]

theorem bld_full_r (k m n o : Int) (W : World) : (Instr.build 27 #[(0, .int .u8 255), (2, .agg #[.int .u8 k, .int .i64 m, .int .u64 n, .int .i64 o])]).run Try.prog W = .ok (.agg (sC ⟨255, z8, ⟨k, m, n, o⟩⟩).toArray) W := by
  show (Instr.build 27 #[(0, .int .u8 255), (2, .agg #[.int .u8 k, .int .i64 m, .int .u64 n, .int .i64 o])]).run Try.prog W = .ok (.agg #[.int .u8 255, .int .u8 0, .int .u8 0, .int .u8 0, .int .u8 0, .int .u8 0, .int .u8 0, .int .u8 0, .int .u8 0, .int .u8 k, .int .i64 m, .int .u64 n, .int .i64 o]) W
  kernel_rfl
theorem bld_s0_r (W : World) : (Instr.build 27 #[]).run Try.prog W = .ok (.agg (sC s0).toArray) W := by kernel_rfl
theorem store_mid_s {ops : Array Oper} {rest : List Oper} {op : Oper} {a : Act} {w : World} {Q : Exit → Act → World → Prop} (x y : Operand) (hgd : op.guard = none) (ho : op.op = .store 27 x y)
    (b o : Nat) (s : Sl) (hs : SOk s) (hx : a.eval x = .pointer (some ⟨b, o, none⟩)) (hy : a.eval y = .agg (sC s).toArray) (ht : w.there b o 13)
    (h : wpList Try.prog ops Q rest (a.put op.dst undef) (w.setCells b o (sC s))) : wpList Try.prog ops Q (op :: rest) a w :=
  wpList_store_mid hgd 27 x y ho b o (sC s).toArray hx hy (by rw [List.size_toArray, sC_len hs]; exact ht) (by rw [List.size_toArray, sC_len hs]; exact info27) (all_oneCell_toArray (one_sC s)) h
theorem there_mid {W : World} {g K : Nat} (h : W.there g 0 832) (hK : K < 64) : W.there g (K * 13) 13 := fun j hj => by
  have := h (K * 13 + j) (by omega)
  rwa [Nat.zero_add] at this
theorem s255_ok {v : Vl} (hv : VOk v) : SOk ⟨255, z8, v⟩ := ⟨⟨(by decide : (0:Int) ≤ 255), (by decide : (255:Int) < 256)⟩, rfl, by intro x hx; simp [z8] at hx; omega, hv⟩

set_option maxRecDepth 100000 in
set_option maxHeartbeats 6400000 in
theorem rstore_g (F : Nat → Sl) (off size : Int) (v : Vl) (w : World) (hF : FOk F) (hv : VOk v) (ho : -9223372036854775808 ≤ off ∧ off < 9223372036854775808) (hr : rightF F = true) (hm : mayB v = true) (hs : sizeB size = true) (hk : v.k ≠ 0) (hp : placeE off size = 0) (ha : adrB v = true) :
    Calls Try.prog 18 #[fV F, .int .i64 off, .int .i64 size, vV v] w fun e w' => e = .returned (.tuple #[fV (storeF F off size v).1, .int .i64 (storeF F off size v).2]) ∧ Below w.heap.size w w' := by
  have HRt : Hid (∀ W, Calls Try.prog 16 #[.agg (fC F).toArray] W fun e w' => e = .returned (.bool true) ∧ Below W.heap.size W w') := fun W => hr ▸ rRight_any F W hF
  have HI35 : Hid ((Try.prog.info? 29).map (·.size) = some (fC F).length) := hid (by rw [fC_len hF]; kernel_rfl)
  have HM : Hid (∀ W, Calls Try.prog 21 #[vV v] W fun e w' => e = .returned (.bool true) ∧ Below W.heap.size W w') := fun W => hm ▸ rmay_any v W
  have HZ : Hid (∀ W, Calls Try.prog 32 #[.int .i64 size] W fun e w' => e = .returned (.bool true) ∧ W = w') := fun W => hs ▸ rsized_any size W
  have HO := hid (fun W => rplace_any off size W hs ho)
  rw [hp] at HO
  have HAv : Hid (∀ W, Calls Try.prog 34 #[vV v] W fun e w' => e = .returned (.bool (adrB v)) ∧ Below W.heap.size W w') := hid (fun W => radr_may hm ▸ raddr_any v W)
  have hL : storeF F off size v = if (storeS (F (off / 8).toNat) (off % 8).toNat size.toNat v).2 ≠ 0 then (f0, (storeS (F (off / 8).toNat) (off % 8).toNat size.toNat v).2) else (setF F (off / 8).toNat (storeS (F (off / 8).toNat) (off % 8).toNat size.toNat v).1, 0) := by simp [storeF, hr, hm, hs, hk, hp]
  rw [hL]
  clear hL
  obtain ⟨h0, h1, hz, h2, e1, e2, e3⟩ := place_ok hs hp
  have hsr : rightS (F (off / 8).toNat) = true := List.all_eq_true.1 hr _ (List.mem_range.2 h2)
  have hG := storeS_ok (hF _ h2) hz hv
  obtain ⟨vk, vm, vn, vo⟩ := v
  have I0 := hid (StP.first w F vk vm vn vo hF 29 25 29)
  generalize (off / 8).toNat = K at *
  generalize (off % 8).toNat = i at *
  generalize size.toNat = n at *
  subst e3
  have hso := hF K h2
  have hrkF := fun (W : World) (hW : StP w F ⟨vk, vm, vn, vo⟩ W) => range_at hF hW.r0 K h2
  have HFOK := hid hF
  generalize hFK : F K = s at hso hsr hrkF hG ⊢
  have HFK := hid hFK
  clear hFK
  have HSO := hid hso
  have HRKF := hid hrkF
  have HS : Hid ((Try.prog.info? 27).map (·.size) = some (sC s).length) := hid (by rw [sC_len hso]; exact info27)
  have hK : (K : Int) < 64 := by omega
  have hn1 : 1 ≤ n ∧ n ≤ 8 := by rcases hz.1 with h | h | h | h <;> omega
  have HZP := hid hz
  have hek : (vk == 0) = false := by simpa using hk
  have BF := rbld_f0
  have ZF := (zero_of_info rzf_info).1
  unfold fV at BF ZF ⊢
  unfold vV at HM HAv ⊢
  dsimp only at HM HAv ⊢
  have h512 := h1
  have HR0 := hid I0.out.r0
  have hov := hv
  clear hr hF hs hp hz hso hrkF h1 hm hk ho
  rw [ha] at HAv
  by_cases h8 : n = 8
  · have hst : storeS s i n ⟨vk, vm, vn, vo⟩ = (⟨255, z8, ⟨vk, vm, vn, vo⟩⟩, 0) := by
      unfold storeS
      rw [if_pos ha, if_pos h8]
    rw [hst]
    simp only [ne_eq, not_true_eq_false, if_false]
    have d8 : decide ((n : Int) < 8) = false := decide_eq_false (by omega)
    have BFL := bld_full_r vk vm vn vo
    clear hst h8 ha hG
    go_enter Try.func18, Try.ntmps18
    go_wp2_with (refine wpList_load_mid (op := ⟨_, .load 29 _, _, _, _, _⟩) rfl 29 _ rfl w.heap.size 0 rfl (fC F) _ HR0.out Try.underlying29 rfl HI35.out ?_)
    refine (HRt.out _).mono ?_
    rintro e w1 ⟨rfl, b1⟩
    have I1 := hid (I0.out.next b1)
    obtain ⟨c0, c1, c2, c3⟩ := I1.out.cv
    clear b1 HR0
    go_wp2_with fail
    refine (HM.out _).mono ?_
    rintro e w2 ⟨rfl, b2⟩
    have I2 := hid (I1.out.next b2)
    clear b2 c0 c1 c2 c3
    obtain ⟨c0, c1, c2, c3⟩ := I2.out.cv
    have HT := hid (there_box w2 #[.int .u8 0, .int .u8 0, .int .u8 0, .int .u8 0, .int .u8 0, .int .u8 0, .int .u8 0, .int .u8 0, .int .u8 0, .int .u8 0, .int .i64 0, .int .u64 0, .int .i64 0] 27 13 rfl)
    have J4 := hid (StR.mk3 I2.out HSO.out HT.out)
    have HRk : Hid (w2.rangeAt w.heap.size (K * 13) (sC s)) := hid (by have := HRKF.out _ I2.out; rwa [Nat.zero_add] at this)
    go_wp2_with (first | (go_at_call 32; refine (HZ.out _).mono ?_; rintro e w9 ⟨rfl, rfl⟩) | (go_at_call 33; refine (HO.out _).mono ?_; rintro e w9 ⟨rfl, rfl⟩) | ((with_reducible refine at_load 27 ?_); refine wpList_load_mid rfl 27 _ rfl w.heap.size (K * 13) rfl (sC s) _ HRk.out Try.underlying27 rfl HS.out ?_) | ((with_reducible refine at_store 27 ?_); refine wpList_store_s _ _ rfl rfl w2.heap.size s HSO.out rfl rfl HT.out ?_; generalize (w2.alloc (.cells #[.int .u8 0, .int .u8 0, .int .u8 0, .int .u8 0, .int .u8 0, .int .u8 0, .int .u8 0, .int .u8 0, .int .u8 0, .int .u8 0, .int .i64 0, .int .u64 0, .int .i64 0] 27)).setCells w2.heap.size 0 (sC s) = w4 at J4 ⊢; generalize w2.heap.size = g at J4 ⊢; clear c0 c1 c2 c3; obtain ⟨c0, c1, c2, c3⟩ := J4.out.p.cv))
    refine (HAv.out _).mono ?_
    rintro e w5 ⟨rfl, b5⟩
    have J5 := hid (J4.out.next b5)
    clear b5 c0 c1 c2 c3 J4 I0 I1 I2 HRk HT
    obtain ⟨c0, c1, c2, c3⟩ := J5.out.p.cv
    have R8 := hid (frame_put HFOK.out (s255_ok hov) h2 J5.out.p.r0 J5.out.p.t0)
    have B8 := hid (below_setCells w.heap.size (Nat.le_refl _) (sC ⟨255, z8, ⟨vk, vm, vn, vo⟩⟩) (K * 13) _ J5.out.p.bel)
    have T8 := hid (World.there_setCells J5.out.p.t2 w.heap.size (K * 13) (sC ⟨255, z8, ⟨vk, vm, vn, vo⟩⟩))
    have HG2 := hid (setF_ok (K := K) HFOK.out (s255_ok hov))
    have HI8 : Hid ((Try.prog.info? 29).map (·.size) = some (fC (setF F K ⟨255, z8, ⟨vk, vm, vn, vo⟩⟩)).length) := hid (by rw [fC_len HG2.out]; exact info29r)
    have TM := hid (there_mid J5.out.p.t0 h2)
    go_wp2_with (first | ((with_reducible refine at_store 27 ?_); refine store_mid_s _ _ rfl rfl w.heap.size (K * 13) ⟨255, z8, ⟨vk, vm, vn, vo⟩⟩ (s255_ok hov) rfl rfl TM.out ?_; generalize w5.setCells w.heap.size (K * 13) (sC ⟨255, z8, ⟨vk, vm, vn, vo⟩⟩) = w6 at R8 B8 T8 ⊢) | ((with_reducible refine at_load 29 ?_); refine wpList_load_mid rfl 29 _ rfl w.heap.size 0 rfl (fC (setF F K ⟨255, z8, ⟨vk, vm, vn, vo⟩⟩)) _ R8.out Try.underlying29 rfl HI8.out ?_) | ((with_reducible refine at_store 29 ?_); refine wpList_store_rf _ _ rfl rfl (w.heap.size + 1 + 1) (setF F K ⟨255, z8, ⟨vk, vm, vn, vo⟩⟩) HG2.out rfl rfl T8.out ?_))
    exact bodyPost_ret (res_cell rfl _ _ (w.heap.size + 1 + 1) 0 (fC (setF F K ⟨255, z8, ⟨vk, vm, vn, vo⟩⟩)) _ _ rfl rfl (World.rangeAt_setCells_same w6 (w.heap.size + 1 + 1) 0 (fC (setF F K ⟨255, z8, ⟨vk, vm, vn, vo⟩⟩)) (by rw [fC_len HG2.out]; exact T8.out)) Try.underlying29 rfl HI8.out) rfl ⟨rfl, below_setCells (w.heap.size + 1 + 1) (by omega) (fC (setF F K ⟨255, z8, ⟨vk, vm, vn, vo⟩⟩)) 0 w6 B8.out⟩
  · have hst : storeS s i n ⟨vk, vm, vn, vo⟩ = (s0, 41) := by
      unfold storeS
      rw [if_pos ha, if_neg h8]
    rw [hst]
    simp only [ne_eq, Int.reduceEq, not_false_eq_true, if_true]
    have d8 : decide ((n : Int) < 8) = true := decide_eq_true (by omega)
    clear hst h8 ha hG
    go_enter Try.func18, Try.ntmps18
    go_wp2_with (refine wpList_load_mid (op := ⟨_, .load 29 _, _, _, _, _⟩) rfl 29 _ rfl w.heap.size 0 rfl (fC F) _ HR0.out Try.underlying29 rfl HI35.out ?_)
    refine (HRt.out _).mono ?_
    rintro e w1 ⟨rfl, b1⟩
    have I1 := hid (I0.out.next b1)
    obtain ⟨c0, c1, c2, c3⟩ := I1.out.cv
    clear b1 HR0
    go_wp2_with fail
    refine (HM.out _).mono ?_
    rintro e w2 ⟨rfl, b2⟩
    have I2 := hid (I1.out.next b2)
    clear b2 c0 c1 c2 c3
    obtain ⟨c0, c1, c2, c3⟩ := I2.out.cv
    have HT := hid (there_box w2 #[.int .u8 0, .int .u8 0, .int .u8 0, .int .u8 0, .int .u8 0, .int .u8 0, .int .u8 0, .int .u8 0, .int .u8 0, .int .u8 0, .int .i64 0, .int .u64 0, .int .i64 0] 27 13 rfl)
    have J4 := hid (StR.mk3 I2.out HSO.out HT.out)
    have HRk : Hid (w2.rangeAt w.heap.size (K * 13) (sC s)) := hid (by have := HRKF.out _ I2.out; rwa [Nat.zero_add] at this)
    go_wp2_with (first | (go_at_call 32; refine (HZ.out _).mono ?_; rintro e w9 ⟨rfl, rfl⟩) | (go_at_call 33; refine (HO.out _).mono ?_; rintro e w9 ⟨rfl, rfl⟩) | ((with_reducible refine at_load 27 ?_); refine wpList_load_mid rfl 27 _ rfl w.heap.size (K * 13) rfl (sC s) _ HRk.out Try.underlying27 rfl HS.out ?_) | ((with_reducible refine at_store 27 ?_); refine wpList_store_s _ _ rfl rfl w2.heap.size s HSO.out rfl rfl HT.out ?_; generalize (w2.alloc (.cells #[.int .u8 0, .int .u8 0, .int .u8 0, .int .u8 0, .int .u8 0, .int .u8 0, .int .u8 0, .int .u8 0, .int .u8 0, .int .u8 0, .int .i64 0, .int .u64 0, .int .i64 0] 27)).setCells w2.heap.size 0 (sC s) = w4 at J4 ⊢; generalize w2.heap.size = g at J4 ⊢; clear c0 c1 c2 c3; obtain ⟨c0, c1, c2, c3⟩ := J4.out.p.cv))
    refine (HAv.out _).mono ?_
    rintro e w5 ⟨rfl, b5⟩
    have J5 := hid (J4.out.next b5)
    clear b5 c0 c1 c2 c3 J4 I0 I1 I2 HRk HT
    obtain ⟨c0, c1, c2, c3⟩ := J5.out.p.cv
    have HT2 := hid J5.out.p.t2
    go_wp2_with (first | ((with_reducible refine at_store 29 ?_); refine wpList_store_rf _ _ rfl rfl (w.heap.size + 1 + 1) f0 f0_ok rfl rfl HT2.out ?_))
    exact bodyPost_ret (res_cell rfl _ _ (w.heap.size + 1 + 1) 0 (fC f0) _ _ rfl rfl (World.rangeAt_setCells_same w5 (w.heap.size + 1 + 1) 0 (fC f0) (by rw [fC_len f0_ok]; exact HT2.out)) Try.underlying29 rfl (by rw [fC_len f0_ok]; exact info29r)) rfl ⟨rfl, below_setCells (w.heap.size + 1 + 1) (by omega) (fC f0) 0 w5 J5.out.p.bel⟩

end Go.Proofs.Ytjlaenkfjejbkaa
