/-
  Contracts of a slot's store of a number, as the landed code has it.
-/
import Derived.Test.YtjlaenkfjejbkaaMeW
namespace Go.Proofs.Ytjlaenkfjejbkaa
set_option linter.unusedSimpArgs false
set_option linter.unusedVariables false
open Go.ChangeShapes Go.WideShapes Go.ChangeAt Go.RowKit

theorem res_cell {P : Program} {fn : Func} {p u : Tmp} {ty : TypeId} (h : fn.results = #[.cell p ty, .tmp u]) (tmps : Array Value) (W : World) (b o : Nat) (cs : List Value) (d : TypeDesc) (y : Value)
    (hp : tmps.getD p undef = .pointer (some ⟨b, o, none⟩)) (hy : tmps.getD u undef = y) (hr : W.rangeAt b o cs) (hu : P.underlying ty = some d) (hd : d.isRow = true) (hi : (P.info? ty).map (·.size) = some cs.length) :
    (results fn tmps).run P W = .ok (.tuple #[.agg cs.toArray, y]) W := by
  rw [results_cell_tmp h, hp, hy]
  simp [asAddr, Result.andThen, run_loadVar_mid W b o ty cs d hr hu hd hi]
theorem info33 : (Try.prog.info? 33).map (·.size) = some 13 := by kernel_rfl
theorem info35 : (Try.prog.info? 35).map (·.size) = some 832 := by kernel_rfl
theorem one_sC (s : Sl) : ∀ v ∈ sC s, v.oneCell' = true := by
  intro v hv
  simp only [sC, bC, vC, List.mem_cons, List.mem_append, List.mem_map, List.not_mem_nil, or_false] at hv
  rcases hv with rfl | ⟨x, _, rfl⟩ | rfl | rfl | rfl | rfl <;> rfl

theorem wpList_store_zero {ops : Array Oper} {rest : List Oper} {op : Oper} {a : Act} {w : World} {Q : Exit → Act → World → Prop} (x y : Operand) (hgd : op.guard = none) (ho : op.op = .store 33 x y)
    (b : Nat) (hx : a.eval x = .pointer (some ⟨b, 0, none⟩)) (hy : a.eval y = .agg #[.int .u8 0, .int .u8 0, .int .u8 0, .int .u8 0, .int .u8 0, .int .u8 0, .int .u8 0, .int .u8 0, .int .u8 0, .int .u8 0, .int .i64 0, .int .u64 0, .int .i64 0]) (ht : w.there b 0 13)
    (h : wpList Try.prog ops Q rest (a.put op.dst undef) (w.setCells b 0 (sC s0))) : wpList Try.prog ops Q (op :: rest) a w :=
  wpList_store_mid hgd 33 x y ho b 0 (sC s0).toArray hx hy ht info33 (all_oneCell_toArray (one_sC s0)) h

theorem sC_len' {s : Sl} (h : s.b.length = 8) : (sC s).length = 13 := by simp [sC, bC, vC, h]
theorem sC_zero (s : Sl) : (sC s)[0]? = some (.int .u8 s.h) := rfl
theorem sC_b {s : Sl} (hs : s.b.length = 8) (j : Nat) (hj : j < 8) : (sC s)[1 + j]? = (s.b[j]?).map (Value.int .u8) := by
  have : 1 + j = j + 1 := by omega
  rw [this, sC, List.getElem?_cons_succ, List.getElem?_append_left (by simp [bC, hs, hj])]
  simp [bC]
theorem sC_v {s : Sl} (hs : s.b.length = 8) (j : Nat) (hj : 8 ≤ j) : (sC s)[1 + j]? = (vC s.v)[j - 8]? := by
  have : 1 + j = j + 1 := by omega
  have hl : (bC s.b).length = 8 := by simp [bC, hs]
  rw [this, sC, List.getElem?_cons_succ, List.getElem?_append_right (by omega), hl]

theorem slot_laid {W : World} {g : Nat} {b : Sl} (hb : b.b.length = 8) (hr : W.rangeAt g 0 (sC b)) (ht : W.there g 0 13) (i : Nat) (xs : List Int) (hi : i + xs.length ≤ 8) (y : Int) :
    ((W.setCells g (1 + i) (bC xs)).setCell ⟨g, 0, none⟩ (.int .u8 y)).rangeAt g 0 (sC ⟨y, putL b.b i xs, b.v⟩) := by
  have hpl : (putL b.b i xs).length = 8 := by rw [putL_len (by omega), hb]
  have hxl : (bC xs).length = xs.length := by simp [bC]
  intro j v hv
  rw [Nat.zero_add]
  rcases j with _ | j
  · rw [sC_zero] at hv
    have h1 : (W.setCells g (1 + i) (bC xs)).cell? ⟨g, 0, none⟩ = some (.int .u8 b.h) := by
      rw [World.cell?_setCells_out _ _ _ _ _ (fun _ _ => Or.inl (by show 0 < 1 + i; omega))]
      exact hr 0 _ (sC_zero b)
    rw [World.cell?_setCell_same _ _ _ h1]
    exact hv
  · have hj1 : j + 1 = 1 + j := by omega
    rw [World.cell?_setCell_other _ _ _ _ (by intro e; injection e with _ e2 _; omega)]
    rw [hj1] at hv ⊢
    by_cases h8 : j < 8
    · rw [sC_b hpl j h8] at hv
      dsimp only at hv
      by_cases hin : i ≤ j ∧ j < i + xs.length
      · have := putL_in (l := b.b) (i := i) (xs := xs) (by omega) (j - i) (by omega)
        rw [show i + (j - i) = j by omega] at this
        rw [this] at hv
        have hc := World.cell?_setCells_in g (bC xs) (1 + i) W (fun k hk => by
          have := (ht (1 + i + k) (by omega)).1
          rwa [Nat.zero_add] at this) (j - i) (by omega)
        rw [show 1 + i + (j - i) = 1 + j by omega] at hc
        rw [hc, ← hv]
        have hx : j - i < xs.length := by omega
        simp [bC, hx]
      · rw [putL_out (by omega) j (by omega)] at hv
        rw [World.cell?_setCells_out _ _ _ _ _ (fun _ _ => by show 1 + j < 1 + i ∨ 1 + i + (bC xs).length ≤ 1 + j; omega)]
        have := hr (1 + j) v (by rw [sC_b hb j h8]; exact hv)
        rwa [Nat.zero_add] at this
    · rw [sC_v hpl j (by omega)] at hv
      rw [World.cell?_setCells_out _ _ _ _ _ (fun _ _ => by show 1 + j < 1 + i ∨ 1 + i + (bC xs).length ≤ 1 + j; omega)]
      have := hr (1 + j) v (by rw [sC_v hb j (by omega)]; exact hv)
      rwa [Nat.zero_add] at this

theorem StI.put {g : Nat} {w W : World} {b : Sl} {N : Int} (h : StI g w W b N) (c : Sl) (hc : c.b.length = 8) : StI g w (W.setCells g 0 (sC c)) c N := by
  have hl := sC_len' hc
  refine ⟨below_setCells g (Nat.le_refl _) _ _ _ h.bel, ?_, World.rangeAt_setCells_same W g 0 (sC c) (by rw [hl]; exact h.t0), World.there_setCells h.t0 g 0 _, ?_, World.there_setCells h.t2 g 0 _⟩
  · have := (below_setCells (n := W.heap.size) (a := W) g · (sC c) 0 W (Below.refl _ _))
    have hz : W.heap.size ≤ (W.setCells g 0 (sC c)).heap.size := (below_setCells (n := 0) (a := W) g (Nat.zero_le _) (sC c) 0 W (Below.refl _ _)).size
    have := h.sz
    omega
  · rw [World.cell?_setCells_out _ _ _ _ _ (fun e _ => by exfalso; revert e; show g + 1 = g → False; omega)]
    exact h.r1

set_option maxHeartbeats 1600000 in
theorem sstore_bytes (s : Sl) (i n : Nat) (v : Vl) (w : World) (hs : SOk s) (hp : SzP i n) (hv : VOk v) (ha : adrB v = false) (hu : s.v = v0) :
    Calls Try.prog 37 #[sV s, .int .i64 (i : Int), .int .i64 (n : Int), vV v] w fun e w' => e = .returned (.tuple #[sV (storeS s i n v).1, .int .i64 (storeS s i n v).2]) ∧ Below w.heap.size w w' := by
  have HA : Hid (∀ W, Calls Try.prog 44 #[vV v] W fun e w' => e = .returned (.bool false) ∧ Below W.heap.size W w') := fun W => ha ▸ isAddress_any v W
  have hbase : baseS s = s := by simp [baseS, hu]
  have hL : storeS s i n v = (⟨orB (baseS s).h i n, putL (baseS s).b i (layL v.n n), v0⟩, 0) := by simp [storeS, ha, numS]
  rw [hL, hbase]
  have HH : Hid (∀ W, Calls Try.prog 43 #[sV s] W fun e w' => e = .returned (.bool false) ∧ Below W.heap.size W w') := fun W =>
    (holds_any s W hs).mono fun e w' ⟨a, b⟩ => ⟨by rw [a]; simp [hu, vB_iff], b⟩
  have HB := hid (fun W => bitsOf_any i n W hp.1 hp.2)
  have hlen : (layL v.n n).length = n := layL_len _ _
  have hin := hp.2
  have HL := hid (fun W hT => lay_some w.heap.size (1 + i) n n (by omega) v.n hv.2.2.1.1 hv.2.2.1.2 W hT)
  have HP : Hid (∀ W, Calls Try.prog 38 #[.slice (some ⟨w.heap.size, 1, none⟩) 8 8, .int .i64 (i : Int), .int .i64 (n : Int)] W fun e w' => e = .returned (.tuple #[.slice (some ⟨w.heap.size, 1 + i, none⟩) n n, .int .i64 0]) ∧ W = w') := fun W => by
    have := part_ok w.heap.size 1 8 8 i n W (Nat.le_refl _) (by decide) (by
      unfold getE withinB
      obtain ⟨h | h | h | h, _⟩ := hp <;> simp [h, sizeB] <;> omega)
    simpa using this
  have hs0 := hs
  obtain ⟨h, l, u⟩ := s
  have hl : l.length = 8 := hs.2.1
  have hu' : u = v0 := hu
  obtain ⟨hh0, hh1⟩ := hs.1
  obtain ⟨a, b, c, d, e, f, g, k, rfl⟩ := eight hs.2.1
  have BS := bld_s0
  have SL := sl8 w.heap.size
  have hv0 := hv
  obtain ⟨q, m, x, o⟩ := v
  have IF := fun Z hZ => StI.first w ⟨h, [a, b, c, d, e, f, g, k], u⟩ hs ⟨q, m, x, o⟩ Z hZ 33 25 33
  have HIF := hid IF
  rw [sV_eight] at HH ⊢
  unfold vV at HA ⊢
  dsimp only at HA HL HIF HH hh0 hh1 hlen ⊢
  obtain ⟨hn1, hn2⟩ : 1 ≤ n ∧ n ≤ 8 := by obtain ⟨h | h | h | h, _⟩ := hp <;> omega
  generalize hBI : bitsI i n = B at HB
  have hor : orB h i n = bits .or .u8 h B := by rw [← hBI]; rfl
  have HOR := hid hor
  have HBS := hid hbase
  have HLN := hid hlen
  have HU := hid hu'
  rw [hor]
  obtain ⟨CS, hCS⟩ : ∃ CS, sC ⟨bits .or .u8 h B, putL [a, b, c, d, e, f, g, k] i (layL x n), v0⟩ = CS := ⟨_, rfl⟩
  have hsV : sV ⟨bits .or .u8 h B, putL [a, b, c, d, e, f, g, k] i (layL x n), v0⟩ = .agg CS.toArray := by rw [← hCS]; rfl
  first | rw [hsV] | (change Calls _ _ _ _ fun e w' => e = .returned (.tuple #[sV ⟨bits .or .u8 h B, putL [a, b, c, d, e, f, g, k] i (layL x n), v0⟩, .int .i64 0]) ∧ _; rw [hsV])
  have HCS := hid hCS
  clear hsV hCS
  clear hBI hL hs hs0 hv hv0 ha hu hu' hbase IF hor hp hlen
  go_enter Try.func37, Try.ntmps37
  go_wp2_with fail
  refine (HA.out _).mono ?_
  rintro e w1 ⟨rfl, b1⟩
  have I1 := hid ((HIF.out _ rfl).next b1)
  have p1 : w.heap.size + 1 + 1 < w1.heap.size := I1.out.sz
  have q1 : w.heap.size + 1 < w1.heap.size := by omega
  have r1 : w.heap.size < w1.heap.size := by omega
  obtain ⟨hc1, hf1⟩ := bcell b1
  clear b1
  go_wp2_with fail
  refine (HA.out _).mono ?_
  rintro e w2 ⟨rfl, b2⟩
  have I2 := hid (I1.out.next b2)
  have p2 : w.heap.size + 1 + 1 < w2.heap.size := I2.out.sz
  have q2 : w.heap.size + 1 < w2.heap.size := by omega
  have r2 : w.heap.size < w2.heap.size := by omega
  obtain ⟨hc2, hf2⟩ := bcell b2
  clear b2
  go_wp2_with fail
  refine (HH.out _).mono ?_
  rintro e w3 ⟨rfl, b3⟩
  have I3 := hid (I2.out.next b3)
  have p3 : w.heap.size + 1 + 1 < w3.heap.size := I3.out.sz
  have q3 : w.heap.size + 1 < w3.heap.size := by omega
  have r3 : w.heap.size < w3.heap.size := by omega
  obtain ⟨hc3, hf3⟩ := bcell b3
  clear b3
  go_wp2_with fail
  refine (HP.out _).mono ?_
  rintro e w4 ⟨rfl, rfl⟩
  go_wp2_with fail
  have ht3 : w3.there w.heap.size (1 + i) n := fun j hj => by
    have := I3.out.t0 (1 + i + j) (by omega)
    rwa [Nat.zero_add] at this
  refine (HL.out _ ht3).mono ?_
  rintro e w4 ⟨rfl, rfl⟩
  have r3 : w3.rangeAt w.heap.size 0 (sC ⟨h, [a, b, c, d, e, f, g, k], v0⟩) := by
    have := I3.out.r0
    rw [HU.out] at this
    exact this
  have B4 := hid (below_setCells w.heap.size (Nat.le_refl _) (bC (layL x n)) (1 + i) w3 I3.out.bel)
  have T4 := hid (World.there_setCells I3.out.t2 w.heap.size (1 + i) (bC (layL x n)))
  have S4 := World.there_setCells I3.out.t0 w.heap.size (1 + i) (bC (layL x n)) 0 (by omega)
  have c4 : (w3.setCells w.heap.size (1 + i) (bC (layL x n))).cell? ⟨w.heap.size, 0, none⟩ = some (.int .u8 h) := by
    rw [World.cell?_setCells_out _ _ _ _ _ (fun _ _ => Or.inl (by show 0 < 1 + i; omega))]
    exact r3 0 _ rfl
  have f4 := S4.2
  have D4 : Hid (∀ y, ((w3.setCells w.heap.size (1 + i) (bC (layL x n))).setCell ⟨w.heap.size, 0, none⟩ (.int .u8 y)).rangeAt w.heap.size 0 (sC ⟨y, putL [a, b, c, d, e, f, g, k] i (layL x n), v0⟩)) := fun y => slot_laid (b := ⟨h, [a, b, c, d, e, f, g, k], v0⟩) rfl r3 I3.out.t0 i (layL x n) (by rw [HLN.out]; omega) y
  clear S4 ht3 r3 hc1 hc2 hc3 hf1 hf2 hf3
  rw [Nat.zero_add] at f4
  generalize w3.setCells w.heap.size (1 + i) (bC (layL x n)) = w4 at *
  go_wp2_with fail
  go_region_with ((go_at_call 42; refine (HB.out _).mono ?_; rintro e w9 ⟨rfl, rfl⟩))
  all_goals
    have r5 : ((w4.setCell ⟨w.heap.size, 0, none⟩ (.int .u8 (bits .or .u8 h B))).drew).rangeAt w.heap.size 0 (sC ⟨bits .or .u8 h B, putL [a, b, c, d, e, f, g, k] i (layL x n), v0⟩) := (World.rangeAt_drew _ _ _ _).2 (D4.out _)
    have T5 : ((w4.setCell ⟨w.heap.size, 0, none⟩ (.int .u8 (bits .or .u8 h B))).drew).there (w.heap.size + 1 + 1) 0 13 := (World.there_drew _ _ _ _).2 (World.there_setCells T4.out w.heap.size 0 [.int .u8 (bits .or .u8 h B)])
    have B5 := hid ((B4.out.setCell (p := ⟨w.heap.size, 0, none⟩) (Nat.le_refl _) (.int .u8 (bits .or .u8 h B))).drew)
    clear D4 B4 T4 c4 f4
    generalize (w4.setCell ⟨w.heap.size, 0, none⟩ (.int .u8 (bits .or .u8 h B))).drew = w5 at *
    have hnl : (sC ⟨bits .or .u8 h B, putL [a, b, c, d, e, f, g, k] i (layL x n), v0⟩).length = 13 := sC_len' (by rw [putL_len (by rw [HLN.out]; exact hin)]; rfl)
    have ho := one_sC ⟨bits .or .u8 h B, putL [a, b, c, d, e, f, g, k] i (layL x n), v0⟩
    rw [HCS.out] at hnl ho r5
    have e13 : CS.toArray.size = 13 := by simpa using hnl
    have T5' : w5.there (w.heap.size + 1 + 1) 0 CS.toArray.size := by rw [e13]; exact T5
    have hi : (Try.prog.info? 33).map (·.size) = some CS.length := by rw [hnl]; exact info33
    have hi' : (Try.prog.info? 33).map (·.size) = some CS.toArray.size := by rw [e13]; exact info33
    have RS := hid (World.rangeAt_setCells_same w5 (w.heap.size + 1 + 1) 0 CS (by rw [hnl]; exact T5))
    have B6 := hid (below_setCells (w.heap.size + 1 + 1) (by omega) CS 0 w5 B5.out)
    have HT5 := hid T5'
    have HI := hid hi
    have HI' := hid hi'
    have HR5 := hid r5
    have HO := hid (all_oneCell_toArray ho)
    clear T5 T5' hi hi' r5 ho hnl e13
    go_wp2_with (first | (refine wpList_load_mid (op := ⟨_, .load 33 _, _, _, _, _⟩) rfl 33 _ rfl w.heap.size 0 rfl CS _ HR5.out Try.underlying33 rfl HI.out ?_) | (refine wpList_store_mid (op := ⟨_, .store 33 _ _, _, _, _, _⟩) rfl 33 _ _ rfl (w.heap.size + 1 + 1) 0 CS.toArray rfl rfl HT5.out HI'.out HO.out ?_))
    exact bodyPost_ret (res_cell rfl _ _ (w.heap.size + 1 + 1) 0 CS _ _ rfl rfl RS.out Try.underlying33 rfl HI.out) rfl ⟨rfl, B6.out⟩
set_option maxHeartbeats 1600000 in
theorem sstore_over (s : Sl) (i n : Nat) (v : Vl) (w : World) (hs : SOk s) (hp : SzP i n) (hv : VOk v) (ha : adrB v = false) (hu : s.v ≠ v0) :
    Calls Try.prog 37 #[sV s, .int .i64 (i : Int), .int .i64 (n : Int), vV v] w fun e w' => e = .returned (.tuple #[sV (storeS s i n v).1, .int .i64 (storeS s i n v).2]) ∧ Below w.heap.size w w' := by
  have HA : Hid (∀ W, Calls Try.prog 44 #[vV v] W fun e w' => e = .returned (.bool false) ∧ Below W.heap.size W w') := fun W => ha ▸ isAddress_any v W
  have hbase : baseS s = s0 := by simp [baseS, hu]
  have hL : storeS s i n v = (⟨orB (baseS s).h i n, putL (baseS s).b i (layL v.n n), v0⟩, 0) := by simp [storeS, ha, numS]
  obtain ⟨Zh, hZh⟩ : ∃ z : Int, z = 0 := ⟨0, rfl⟩
  have HZh := hid hZh
  rw [hL, hbase, show s0.h = Zh from hZh.symm, show s0.b = z8 from rfl]
  have HH : Hid (∀ W, Calls Try.prog 43 #[sV s] W fun e w' => e = .returned (.bool true) ∧ Below W.heap.size W w') := fun W =>
    (holds_any s W hs).mono fun e w' ⟨a, b⟩ => ⟨by rw [a]; simp [vB_false.2 hu], b⟩
  have HB := hid (fun W => bitsOf_any i n W hp.1 hp.2)
  have hlen : (layL v.n n).length = n := layL_len _ _
  have hin := hp.2
  have HL := hid (fun W hT => lay_some w.heap.size (1 + i) n n (by omega) v.n hv.2.2.1.1 hv.2.2.1.2 W hT)
  have HP : Hid (∀ W, Calls Try.prog 38 #[.slice (some ⟨w.heap.size, 1, none⟩) 8 8, .int .i64 (i : Int), .int .i64 (n : Int)] W fun e w' => e = .returned (.tuple #[.slice (some ⟨w.heap.size, 1 + i, none⟩) n n, .int .i64 0]) ∧ W = w') := fun W => by
    have := part_ok w.heap.size 1 8 8 i n W (Nat.le_refl _) (by decide) (by
      unfold getE withinB
      obtain ⟨h | h | h | h, _⟩ := hp <;> simp [h, sizeB] <;> omega)
    simpa using this
  have hs0 := hs
  obtain ⟨h, l, u⟩ := s
  have hl : l.length = 8 := hs.2.1
  have hu' : u ≠ v0 := hu
  obtain ⟨hh0, hh1⟩ := hs.1
  obtain ⟨a, b, c, d, e, f, g, k, rfl⟩ := eight hs.2.1
  have BS := bld_s0
  have SL := sl8 w.heap.size
  have hv0 := hv
  obtain ⟨q, m, x, o⟩ := v
  have IF := fun Z hZ => StI.first w ⟨h, [a, b, c, d, e, f, g, k], u⟩ hs ⟨q, m, x, o⟩ Z hZ 33 25 33
  have HIF := hid IF
  rw [sV_eight] at HH ⊢
  unfold vV at HA ⊢
  dsimp only at HA HL HIF HH hh0 hh1 hlen ⊢
  obtain ⟨hn1, hn2⟩ : 1 ≤ n ∧ n ≤ 8 := by obtain ⟨h | h | h | h, _⟩ := hp <;> omega
  generalize hBI : bitsI i n = B at HB
  have hor : orB Zh i n = bits .or .u8 Zh B := by rw [← hBI]; rfl
  have HOR := hid hor
  have HBS := hid hbase
  have HLN := hid hlen
  have HU := hid hu'
  rw [hor]
  obtain ⟨CS, hCS⟩ : ∃ CS, sC ⟨bits .or .u8 Zh B, putL z8 i (layL x n), v0⟩ = CS := ⟨_, rfl⟩
  have hsV : sV ⟨bits .or .u8 Zh B, putL z8 i (layL x n), v0⟩ = .agg CS.toArray := by rw [← hCS]; rfl
  first | rw [hsV] | (change Calls _ _ _ _ fun e w' => e = .returned (.tuple #[sV ⟨bits .or .u8 Zh B, putL z8 i (layL x n), v0⟩, .int .i64 0]) ∧ _; rw [hsV])
  have HCS := hid hCS
  clear hsV hCS
  clear hBI hL hs hs0 hv hv0 ha hu hu' hbase IF hor hp hlen hZh
  go_enter Try.func37, Try.ntmps37
  go_wp2_with fail
  refine (HA.out _).mono ?_
  rintro e w1 ⟨rfl, b1⟩
  have I1 := hid ((HIF.out _ rfl).next b1)
  have p1 : w.heap.size + 1 + 1 < w1.heap.size := I1.out.sz
  have q1 : w.heap.size + 1 < w1.heap.size := by omega
  have r1 : w.heap.size < w1.heap.size := by omega
  obtain ⟨hc1, hf1⟩ := bcell b1
  clear b1
  go_wp2_with fail
  refine (HA.out _).mono ?_
  rintro e w2 ⟨rfl, b2⟩
  have I2 := hid (I1.out.next b2)
  have p2 : w.heap.size + 1 + 1 < w2.heap.size := I2.out.sz
  have q2 : w.heap.size + 1 < w2.heap.size := by omega
  have r2 : w.heap.size < w2.heap.size := by omega
  obtain ⟨hc2, hf2⟩ := bcell b2
  clear b2
  go_wp2_with fail
  refine (HH.out _).mono ?_
  rintro e w3 ⟨rfl, b3⟩
  have I3 := hid (I2.out.next b3)
  have p3 : w.heap.size + 1 + 1 < w3.heap.size := I3.out.sz
  have q3 : w.heap.size + 1 < w3.heap.size := by omega
  have r3 : w.heap.size < w3.heap.size := by omega
  obtain ⟨hc3, hf3⟩ := bcell b3
  clear b3
  go_wp2_with fail
  refine (HP.out (w3.setCells w.heap.size 0 (sC s0))).mono ?_
  rintro e w5 ⟨rfl, rfl⟩
  have I4 : Hid (StI w.heap.size w (w3.setCells w.heap.size 0 (sC s0)) s0 x) := hid (I3.out.put s0 rfl)
  clear hc1 hc2 hc3 hf1 hf2 hf3
  generalize w3.setCells w.heap.size 0 (sC s0) = w6 at *
  have cx := I4.out.r1
  clear I1 I2 I3 p1 p2 p3 q1 q2 q3 r1 r2 r3
  clear w3
  obtain ⟨w3, rfl⟩ : ∃ w3 : World, w3 = w6 := ⟨_, rfl⟩
  obtain ⟨I3, _⟩ : ∃ I3 : Hid (StI w.heap.size w w3 s0 x), True := ⟨I4, trivial⟩
  clear I4
  go_wp2_with fail
  have ht3 : w3.there w.heap.size (1 + i) n := fun j hj => by
    have := I3.out.t0 (1 + i + j) (by omega)
    rwa [Nat.zero_add] at this
  refine (HL.out _ ht3).mono ?_
  rintro e w4 ⟨rfl, rfl⟩
  have r3 : w3.rangeAt w.heap.size 0 (sC ⟨Zh, z8, v0⟩) := by
    rw [HZh.out]
    exact I3.out.r0
  have B4 := hid (below_setCells w.heap.size (Nat.le_refl _) (bC (layL x n)) (1 + i) w3 I3.out.bel)
  have T4 := hid (World.there_setCells I3.out.t2 w.heap.size (1 + i) (bC (layL x n)))
  have S4 := World.there_setCells I3.out.t0 w.heap.size (1 + i) (bC (layL x n)) 0 (by omega)
  have c4 : (w3.setCells w.heap.size (1 + i) (bC (layL x n))).cell? ⟨w.heap.size, 0, none⟩ = some (.int .u8 Zh) := by
    rw [World.cell?_setCells_out _ _ _ _ _ (fun _ _ => Or.inl (by show 0 < 1 + i; omega))]
    exact r3 0 _ rfl
  have f4 := S4.2
  have D4 : Hid (∀ y, ((w3.setCells w.heap.size (1 + i) (bC (layL x n))).setCell ⟨w.heap.size, 0, none⟩ (.int .u8 y)).rangeAt w.heap.size 0 (sC ⟨y, putL z8 i (layL x n), v0⟩)) := fun y => slot_laid (b := ⟨Zh, z8, v0⟩) rfl r3 I3.out.t0 i (layL x n) (by rw [HLN.out]; omega) y
  clear S4 ht3 r3 cx
  rw [Nat.zero_add] at f4
  generalize w3.setCells w.heap.size (1 + i) (bC (layL x n)) = w4 at *
  go_wp2_with fail
  go_region_with ((go_at_call 42; refine (HB.out _).mono ?_; rintro e w9 ⟨rfl, rfl⟩))
  all_goals
    have r5 : ((w4.setCell ⟨w.heap.size, 0, none⟩ (.int .u8 (bits .or .u8 Zh B))).drew).rangeAt w.heap.size 0 (sC ⟨bits .or .u8 Zh B, putL z8 i (layL x n), v0⟩) := (World.rangeAt_drew _ _ _ _).2 (D4.out _)
    have T5 : ((w4.setCell ⟨w.heap.size, 0, none⟩ (.int .u8 (bits .or .u8 Zh B))).drew).there (w.heap.size + 1 + 1) 0 13 := (World.there_drew _ _ _ _).2 (World.there_setCells T4.out w.heap.size 0 [.int .u8 (bits .or .u8 Zh B)])
    have B5 := hid ((B4.out.setCell (p := ⟨w.heap.size, 0, none⟩) (Nat.le_refl _) (.int .u8 (bits .or .u8 Zh B))).drew)
    clear D4 B4 T4 c4 f4
    generalize (w4.setCell ⟨w.heap.size, 0, none⟩ (.int .u8 (bits .or .u8 Zh B))).drew = w5 at *
    have hnl : (sC ⟨bits .or .u8 Zh B, putL z8 i (layL x n), v0⟩).length = 13 := sC_len' (by rw [putL_len (by rw [HLN.out]; exact hin)]; rfl)
    have ho := one_sC ⟨bits .or .u8 Zh B, putL z8 i (layL x n), v0⟩
    rw [HCS.out] at hnl ho r5
    have e13 : CS.toArray.size = 13 := by simpa using hnl
    have T5' : w5.there (w.heap.size + 1 + 1) 0 CS.toArray.size := by rw [e13]; exact T5
    have hi : (Try.prog.info? 33).map (·.size) = some CS.length := by rw [hnl]; exact info33
    have hi' : (Try.prog.info? 33).map (·.size) = some CS.toArray.size := by rw [e13]; exact info33
    have RS := hid (World.rangeAt_setCells_same w5 (w.heap.size + 1 + 1) 0 CS (by rw [hnl]; exact T5))
    have B6 := hid (below_setCells (w.heap.size + 1 + 1) (by omega) CS 0 w5 B5.out)
    have HT5 := hid T5'
    have HI := hid hi
    have HI' := hid hi'
    have HR5 := hid r5
    have HO := hid (all_oneCell_toArray ho)
    clear T5 T5' hi hi' r5 ho hnl e13
    go_wp2_with (first | (refine wpList_load_mid (op := ⟨_, .load 33 _, _, _, _, _⟩) rfl 33 _ rfl w.heap.size 0 rfl CS _ HR5.out Try.underlying33 rfl HI.out ?_) | (refine wpList_store_mid (op := ⟨_, .store 33 _ _, _, _, _, _⟩) rfl 33 _ _ rfl (w.heap.size + 1 + 1) 0 CS.toArray rfl rfl HT5.out HI'.out HO.out ?_))
    exact bodyPost_ret (res_cell rfl _ _ (w.heap.size + 1 + 1) 0 CS _ _ rfl rfl RS.out Try.underlying33 rfl HI.out) rfl ⟨rfl, B6.out⟩

theorem sstore_any (s : Sl) (i n : Nat) (v : Vl) (w : World) (hs : SOk s) (hp : SzP i n) (hv : VOk v) :
    Calls Try.prog 37 #[sV s, .int .i64 (i : Int), .int .i64 (n : Int), vV v] w fun e w' => e = .returned (.tuple #[sV (storeS s i n v).1, .int .i64 (storeS s i n v).2]) ∧ Below w.heap.size w w' := by
  cases ha : adrB v
  · by_cases hu : s.v = v0
    · exact sstore_bytes s i n v w hs hp hv ha hu
    · exact sstore_over s i n v w hs hp hv ha hu
  · exact sstore_addr s i n v w hs hp hv ha

end Go.Proofs.Ytjlaenkfjejbkaa
