/-
  Contracts of Store where it is done, as the landed code has it.
-/
import Derived.Test.YtjlaenkfjejbkaaMeH
namespace Go.Proofs.Ytjlaenkfjejbkaa
set_option linter.unusedSimpArgs false
set_option linter.unusedVariables false
open Go.ChangeShapes Go.WideShapes Go.ChangeAt Go.RowKit

theorem at_load {P : Program} {ops : Array Oper} {Q : Exit → Act → World → Prop} {rest : List Oper} {a : Act} {w : World} {d : Option Tmp} {x : Operand} {ty : TypeId} {ps : String} {af : Array Edge} {gd : Option (Tmp × Bool)} (T : TypeId)
    (h : wpList P ops Q (⟨d, .load T x, ty, ps, af, gd⟩ :: rest) a w) : wpList P ops Q (⟨d, .load T x, ty, ps, af, gd⟩ :: rest) a w := h
theorem at_store {P : Program} {ops : Array Oper} {Q : Exit → Act → World → Prop} {rest : List Oper} {a : Act} {w : World} {d : Option Tmp} {x y : Operand} {ty : TypeId} {ps : String} {af : Array Edge} {gd : Option (Tmp × Bool)} (T : TypeId)
    (h : wpList P ops Q (⟨d, .store T x y, ty, ps, af, gd⟩ :: rest) a w) : wpList P ops Q (⟨d, .store T x y, ty, ps, af, gd⟩ :: rest) a w := h
theorem or8_bd (x y : Int) : 0 ≤ bits .or .u8 x y ∧ bits .or .u8 x y < 256 := by
  unfold bits
  split <;> rw [IntKind.wrap_u8] <;> omega
theorem baseS_ok {s : Sl} (hs : SOk s) : SOk (baseS s) := by
  unfold baseS
  split
  · exact hs
  · exact s0_ok
theorem storeS_ok {s : Sl} {i n : Nat} {v : Vl} (hs : SOk s) (hp : SzP i n) (hv : VOk v) : SOk (storeS s i n v).1 := by
  unfold storeS
  have hb := baseS_ok hs
  split
  · split
    · exact ⟨⟨(by decide : (0 : Int) ≤ 255), (by decide : (255 : Int) < 256)⟩, rfl, by intro x hx; simp [z8] at hx; omega, hv⟩
    · exact s0_ok
  · exact ⟨or8_bd _ _, by show (putL (baseS s).b i (layL v.n n)).length = 8; rw [putL_len (by rw [layL_len, hb.2.1]; exact hp.2), hb.2.1], putL_bd hb.2.2.1 (layL_bd _ _), v0_ok⟩
theorem setF_ok {F : Nat → Sl} {K : Nat} {s : Sl} (hF : FOk F) (hs : SOk s) : FOk (setF F K s) := by
  intro k hk
  unfold setF
  split
  · exact hs
  · exact hF k hk
theorem range_new (w : World) (C : Array Value) (t : TypeId) : (w.alloc (.cells C t)).rangeAt w.heap.size 0 C.toList := fun j v hv => by
  rw [cell_of_row _ _ _ C t (0, 0) (heap_alloc_last w _)]
  simpa using hv
theorem frame_put {W : World} {g K : Nat} {F : Nat → Sl} {s : Sl} (hF : FOk F) (hs : SOk s) (hK : K < 64) (hr : W.rangeAt g 0 (fC F)) (ht : W.there g 0 832) : (W.setCells g (K * 13) (sC s)).rangeAt g 0 (fC (setF F K s)) := by
  have hl := sC_len hs
  intro j v hv
  have hj : j < 832 := by have := (List.getElem?_eq_some_iff.1 hv).1; rwa [fC_len (setF_ok hF hs)] at this
  rw [Nat.zero_add]
  have hd : j / 13 * 13 + j % 13 = j := by omega
  have hi : j / 13 < 64 := by omega
  have hm : j % 13 < 13 := by omega
  generalize j / 13 = i at *
  generalize j % 13 = r at *
  subst hd
  rw [fC_at (setF_ok hF hs) i r hi hm] at hv
  by_cases e : i = K
  · subst e
    have : setF F i s i = s := by simp [setF]
    rw [this] at hv
    rw [World.cell?_setCells_in g (sC s) (i * 13) W (fun k hk => by
      have := (ht (i * 13 + k) (by omega)).1
      rwa [Nat.zero_add] at this) r (by omega), ← hv, List.getElem?_eq_getElem (by omega)]
  · have : setF F K s i = F i := by simp [setF, e]
    rw [this, ← fC_at hF i r hi hm] at hv
    rw [World.cell?_setCells_out _ _ _ _ _ (fun _ _ => by show i * 13 + r < K * 13 ∨ K * 13 + (sC s).length ≤ i * 13 + r; omega)]
    have := hr (i * 13 + r) v hv
    rwa [Nat.zero_add] at this

set_option maxHeartbeats 1600000 in
theorem store_g (F : Nat → Sl) (off size : Int) (v : Vl) (w : World) (hF : FOk F) (hv : VOk v) (ho : -9223372036854775808 ≤ off ∧ off < 9223372036854775808) (hr : rightF F = true) (hm : mayB v = true) (hs : sizeB size = true) (hk : v.k ≠ 0) (hp : placeE off size = 0) (hE : (storeS (F (off / 8).toNat) (off % 8).toNat size.toNat v).2 = 0) :
    Calls Try.prog 17 #[fV F, .int .i64 off, .int .i64 size, vV v] w fun e w' => e = .returned (.tuple #[fV (storeF F off size v).1, .int .i64 (storeF F off size v).2]) ∧ Below w.heap.size w w' := by
  have HRt : Hid (∀ W, Calls Try.prog 15 #[.agg (fC F).toArray] W fun e w' => e = .returned (.bool true) ∧ Below W.heap.size W w') := fun W => hr ▸ Right_any F W hF
  have HI35 : Hid ((Try.prog.info? 35).map (·.size) = some (fC F).length) := hid (by rw [fC_len hF]; kernel_rfl)
  have I0 := hid (StF.first w F hF (.cells #[.int .u8 v.k, .int .i64 v.m, .int .u64 v.n, .int .i64 v.o] 25) 35 35)
  have HR0 := hid I0.out.r0
  have BF := bld_f0
  have ZF := (zero_of_info zf_info).1
  have hL : storeF F off size v = (setF F (off / 8).toNat (storeS (F (off / 8).toNat) (off % 8).toNat size.toNat v).1, 0) := by simp [storeF, hr, hm, hs, hk, hp, hE]
  have HM : Hid (∀ W, Calls Try.prog 20 #[vV v] W fun e w' => e = .returned (.bool true) ∧ Below W.heap.size W w') := fun W => hm ▸ may_any v W
  have HZ : Hid (∀ W, Calls Try.prog 29 #[.int .i64 size] W fun e w' => e = .returned (.bool true) ∧ W = w') := fun W => hs ▸ isSize_any size W
  have HO := hid (fun W => onStack_any off size W hs ho)
  rw [hp] at HO
  obtain ⟨h0, h1, hz, h2, e1, e2, e3⟩ := place_ok hs hp
  have HSt := hid (fun W => sstore_any (F (off / 8).toNat) (off % 8).toNat size.toNat v W (hF _ h2) hz hv)
  have hb8 := storeS_b (hF _ h2) hz hv
  have hok := storeS_ok (hF _ h2) hz hv
  rw [hL]
  generalize (off / 8).toNat = K at *
  generalize (off % 8).toNat = i at *
  generalize size.toNat = n at *
  subst e3
  have HF := hid hF
  have hK : (K : Int) < 64 := by omega
  generalize storeS (F K) i n v = R at HSt hE hb8 hok ⊢
  obtain ⟨s1, E⟩ := R
  dsimp only at hE hb8 hok HSt ⊢
  subst hE
  obtain ⟨a0, a, b, c, d, e, f, g, j, sk, sm, sn, so, rfl⟩ := eight' s1 hb8
  obtain ⟨q, m, x, o⟩ := v
  dsimp only at hk
  have hk' : (q == 0) = false := by simpa using hk
  have HOK := hid hok
  clear hok
  obtain ⟨u0, u1, u2, u3, u4, u5, u6, u7, u8, uk, um, un, uo, hFK⟩ := eight' (F K) (hF K h2).2.1
  rw [hFK] at HSt
  have HFK := hid hFK
  clear hFK
  obtain ⟨G, hG⟩ : ∃ G, setF F K ⟨a0, [a, b, c, d, e, f, g, j], ⟨sk, sm, sn, so⟩⟩ = G := ⟨_, rfl⟩
  rw [hG]
  have HG := hid hG
  clear hG
  unfold fV at BF ZF ⊢
  unfold sV at HSt
  unfold vV at HM HSt ⊢
  dsimp only [sC, bC, vC, List.map, List.append, HAppend.hAppend, Append.append] at HM HSt ⊢
  have h512 := h1
  clear hL hr hF hs hp hz hm hv hk h1
  go_enter Try.func17, Try.ntmps17
  go_wp2_with (refine wpList_load_mid (op := ⟨_, .load 35 _, _, _, _, _⟩) rfl 35 _ rfl w.heap.size 0 rfl (fC F) _ HR0.out Try.underlying35 rfl HI35.out ?_)
  refine (HRt.out _).mono ?_
  rintro e w1 ⟨rfl, b1⟩
  have I1 := hid (I0.out.next b1)
  have p1 : w.heap.size + 1 + 1 < w1.heap.size := I1.out.sz
  have q1 : w.heap.size + 1 < w1.heap.size := by omega
  have r1 : w.heap.size < w1.heap.size := by omega
  obtain ⟨hc1, hf1⟩ := bcell b1
  clear b1
  clear HR0
  go_wp2_with fail
  refine (HM.out _).mono ?_
  rintro e w2 ⟨rfl, b2⟩
  have I2 := hid (I1.out.next b2)
  have p2 : w.heap.size + 1 + 1 < w2.heap.size := I2.out.sz
  have q2 : w.heap.size + 1 < w2.heap.size := by omega
  have r2 : w.heap.size < w2.heap.size := by omega
  obtain ⟨hc2, hf2⟩ := bcell b2
  clear b2
  go_wp2_with (first | (go_at_call 29; refine (HZ.out _).mono ?_; rintro e w9 ⟨rfl, rfl⟩) | (go_at_call 30; refine (HO.out _).mono ?_; rintro e w9 ⟨rfl, rfl⟩))
  have hrk : w2.rangeAt w.heap.size (K * 13) (sC (F K)) := by have := range_at HF.out I2.out.r0 K h2; rwa [Nat.zero_add] at this
  have s0_ : Hid (w2.cell? ⟨w.heap.size, K * 13, none⟩ = some (.int .u8 u0)) := hid (hrk 0 _ (by rw [HFK.out]; rfl))
  have s1_ : Hid (w2.cell? ⟨w.heap.size, K * 13 + 1, none⟩ = some (.int .u8 u1)) := hid (hrk 1 _ (by rw [HFK.out]; rfl))
  have s2_ : Hid (w2.cell? ⟨w.heap.size, K * 13 + 2, none⟩ = some (.int .u8 u2)) := hid (hrk 2 _ (by rw [HFK.out]; rfl))
  have s3_ : Hid (w2.cell? ⟨w.heap.size, K * 13 + 3, none⟩ = some (.int .u8 u3)) := hid (hrk 3 _ (by rw [HFK.out]; rfl))
  have s4_ : Hid (w2.cell? ⟨w.heap.size, K * 13 + 4, none⟩ = some (.int .u8 u4)) := hid (hrk 4 _ (by rw [HFK.out]; rfl))
  have s5_ : Hid (w2.cell? ⟨w.heap.size, K * 13 + 5, none⟩ = some (.int .u8 u5)) := hid (hrk 5 _ (by rw [HFK.out]; rfl))
  have s6_ : Hid (w2.cell? ⟨w.heap.size, K * 13 + 6, none⟩ = some (.int .u8 u6)) := hid (hrk 6 _ (by rw [HFK.out]; rfl))
  have s7_ : Hid (w2.cell? ⟨w.heap.size, K * 13 + 7, none⟩ = some (.int .u8 u7)) := hid (hrk 7 _ (by rw [HFK.out]; rfl))
  have s8_ : Hid (w2.cell? ⟨w.heap.size, K * 13 + 8, none⟩ = some (.int .u8 u8)) := hid (hrk 8 _ (by rw [HFK.out]; rfl))
  have s9_ : Hid (w2.cell? ⟨w.heap.size, K * 13 + 9, none⟩ = some (.int .u8 uk)) := hid (hrk 9 _ (by rw [HFK.out]; rfl))
  have s10_ : Hid (w2.cell? ⟨w.heap.size, K * 13 + 10, none⟩ = some (.int .i64 um)) := hid (hrk 10 _ (by rw [HFK.out]; rfl))
  have s11_ : Hid (w2.cell? ⟨w.heap.size, K * 13 + 11, none⟩ = some (.int .u64 un)) := hid (hrk 11 _ (by rw [HFK.out]; rfl))
  have s12_ : Hid (w2.cell? ⟨w.heap.size, K * 13 + 12, none⟩ = some (.int .i64 uo)) := hid (hrk 12 _ (by rw [HFK.out]; rfl))
  clear hrk
  have v0_ : Hid (w2.cell? ⟨w.heap.size + 1, 0, none⟩ = some (.int .u8 q)) := hid (by simp [hc2, hc1, q1, q2, go_sem])
  have v1_ : Hid (w2.cell? ⟨w.heap.size + 1, 1, none⟩ = some (.int .i64 m)) := hid (by simp [hc2, hc1, q1, q2, go_sem])
  have v2_ : Hid (w2.cell? ⟨w.heap.size + 1, 2, none⟩ = some (.int .u64 x)) := hid (by simp [hc2, hc1, q1, q2, go_sem])
  have v3_ : Hid (w2.cell? ⟨w.heap.size + 1, 3, none⟩ = some (.int .i64 o)) := hid (by simp [hc2, hc1, q1, q2, go_sem])
  clear hc1 hc2 hf1 hf2
  have HBF := hid BF
  have HZF := hid ZF
  clear BF ZF
  have hBB := Below.refl (w.heap.size + 1 + 1 + 1) w2
  have d1 : off.tdiv 8 = (K : Int) := by rw [Int.tdiv_eq_ediv_of_nonneg h0]; exact e1
  have d2 : off.tmod 8 = (i : Int) := by rw [Int.tmod_eq_emod_of_nonneg h0]; exact e2
  have d4 : IntKind.i64.wrap (K : Int) = (K : Int) := by rw [IntKind.wrap_i64]; omega
  have d5 : IntKind.i64.wrap (i : Int) = (i : Int) := by rw [IntKind.wrap_i64]; omega
  have d6 : ((K : Int)).toNat = K := by omega
  have hK0 : (0 : Int) ≤ (K : Int) := by omega
  have HE1 := hid e1
  have H5 := hid (And.intro h0 h512)
  clear e1 e2 h512 h0 ho
  go_region_held3 (fun w' => w'.cell? ⟨w.heap.size, K * 13, none⟩ = some (.int .u8 u0) ∧ w'.cell? ⟨w.heap.size, K * 13 + 1, none⟩ = some (.int .u8 u1) ∧ w'.cell? ⟨w.heap.size, K * 13 + 2, none⟩ = some (.int .u8 u2) ∧ w'.cell? ⟨w.heap.size, K * 13 + 3, none⟩ = some (.int .u8 u3) ∧ w'.cell? ⟨w.heap.size, K * 13 + 4, none⟩ = some (.int .u8 u4) ∧ w'.cell? ⟨w.heap.size, K * 13 + 5, none⟩ = some (.int .u8 u5) ∧ w'.cell? ⟨w.heap.size, K * 13 + 6, none⟩ = some (.int .u8 u6) ∧ w'.cell? ⟨w.heap.size, K * 13 + 7, none⟩ = some (.int .u8 u7) ∧ w'.cell? ⟨w.heap.size, K * 13 + 8, none⟩ = some (.int .u8 u8) ∧ w'.cell? ⟨w.heap.size, K * 13 + 9, none⟩ = some (.int .u8 uk) ∧ w'.cell? ⟨w.heap.size, K * 13 + 10, none⟩ = some (.int .i64 um) ∧ w'.cell? ⟨w.heap.size, K * 13 + 11, none⟩ = some (.int .u64 un) ∧ w'.cell? ⟨w.heap.size, K * 13 + 12, none⟩ = some (.int .i64 uo) ∧ w'.cell? ⟨w.heap.size + 1, 0, none⟩ = some (.int .u8 q) ∧ w'.cell? ⟨w.heap.size + 1, 1, none⟩ = some (.int .i64 m) ∧ w'.cell? ⟨w.heap.size + 1, 2, none⟩ = some (.int .u64 x) ∧ w'.cell? ⟨w.heap.size + 1, 3, none⟩ = some (.int .i64 o) ∧ Below (w.heap.size + 1 + 1 + 1) w2 w')
    ((refine keep17 (w.heap.size + 1 + 1) (by omega) s0_.out s1_.out s2_.out s3_.out s4_.out s5_.out s6_.out s7_.out s8_.out s9_.out s10_.out s11_.out s12_.out v0_.out v1_.out v2_.out v3_.out ?_; go_split_ands; first | (with_reducible assumption) | ((with_reducible refine Below.drew ?_); with_reducible assumption) | ((with_reducible refine belowA ?_ p2); with_reducible assumption) | ((with_reducible refine Below.drew ?_); (with_reducible refine belowA ?_ p2); with_reducible assumption) | ((with_reducible refine realloc (by with_reducible assumption) hge p2)) | ((with_reducible refine Below.drew ?_); (with_reducible refine realloc (by with_reducible assumption) hge p2)) | ((with_reducible refine set13 ?_ hge); with_reducible assumption) | ((with_reducible refine Below.drew ?_); (with_reducible refine set13 ?_ hge); with_reducible assumption)))
    ((go_at_call 37; go_split_ands; refine (HSt.out _).mono ?_; rintro e w9 ⟨rfl, b9⟩; have hB9 := belowN (n := w.heap.size + 1 + 1) (w2 := w2) b9 (by with_reducible assumption) p2; first | (have hh := alloc13 I2.out.t2 p2 b9 (by with_reducible assumption); obtain ⟨hge, z0, y0, z1, y1, z2, y2, z3, y3, z4, y4, z5, y5, z6, y6, z7, y7, z8, y8, z9, y9, z10, y10, z11, y11, z12, y12⟩ := hh) | (have hh := alloc13d I2.out.t2 p2 b9 (by with_reducible assumption); obtain ⟨hge, z0, y0, z1, y1, z2, y2, z3, y3, z4, y4, z5, y5, z6, y6, z7, y7, z8, y8, z9, y9, z10, y10, z11, y11, z12, y12⟩ := hh) | (have hge := sz9 (by with_reducible assumption) p2 b9)))
  · go_split_ands
    have hS : Below (w.heap.size + 1 + 1 + 1) w2 (w9.alloc (.cells #[.int .u8 a0, .int .u8 a, .int .u8 b, .int .u8 c, .int .u8 d, .int .u8 e, .int .u8 f, .int .u8 g, .int .u8 j, .int .u8 sk, .int .i64 sm, .int .u64 sn, .int .i64 so] 33)) := by with_reducible assumption
    have I3 := hid (I2.out.next3 hS)
    have RNI : Hid ((w9.alloc (.cells #[.int .u8 a0, .int .u8 a, .int .u8 b, .int .u8 c, .int .u8 d, .int .u8 e, .int .u8 f, .int .u8 g, .int .u8 j, .int .u8 sk, .int .i64 sm, .int .u64 sn, .int .i64 so] 33)).rangeAt w9.heap.size 0 (sC ⟨a0, [a, b, c, d, e, f, g, j], ⟨sk, sm, sn, so⟩⟩)) := hid (range_new w9 #[.int .u8 a0, .int .u8 a, .int .u8 b, .int .u8 c, .int .u8 d, .int .u8 e, .int .u8 f, .int .u8 g, .int .u8 j, .int .u8 sk, .int .i64 sm, .int .u64 sn, .int .i64 so] 33)
    generalize w9.alloc (.cells #[.int .u8 a0, .int .u8 a, .int .u8 b, .int .u8 c, .int .u8 d, .int .u8 e, .int .u8 f, .int .u8 g, .int .u8 j, .int .u8 sk, .int .i64 sm, .int .u64 sn, .int .i64 so] 33) = w3 at I3 RNI ⊢
    have BF := HBF.out
    have ZF := HZF.out
    obtain ⟨CS, hCS⟩ : ∃ CS, sC ⟨a0, [a, b, c, d, e, f, g, j], ⟨sk, sm, sn, so⟩⟩ = CS := ⟨_, rfl⟩
    have hcl : CS.length = 13 := by rw [← hCS]; rfl
    have e13 : CS.toArray.size = 13 := by simpa using hcl
    have HR3 : Hid (w3.rangeAt w9.heap.size 0 CS) := hid (by rw [← hCS]; exact RNI.out)
    have HSI : Hid ((Try.prog.info? 33).map (·.size) = some CS.length) := hid (by rw [hcl]; exact info33)
    have HSI' : Hid ((Try.prog.info? 33).map (·.size) = some CS.toArray.size) := hid (by rw [e13]; exact info33)
    have HSO : Hid (CS.toArray.all (·.oneCell') = true) := hid (by rw [← hCS]; exact all_oneCell_toArray (one_sC ⟨a0, [a, b, c, d, e, f, g, j], ⟨sk, sm, sn, so⟩⟩))
    have HT0 : Hid (w3.there w.heap.size (K * 13) CS.toArray.size) := hid (fun r hr => by
      rw [e13] at hr
      have := I3.out.t0 (K * 13 + r) (by omega)
      rwa [Nat.zero_add] at this)
    have HFP : Hid ((w3.setCells w.heap.size (K * 13) CS).rangeAt w.heap.size 0 (fC G)) := hid (by rw [← hCS, ← HG.out]; exact frame_put HF.out HOK.out h2 I3.out.r0 I3.out.t0)
    have HTF := hid (World.there_setCells I3.out.t2 w.heap.size (K * 13) CS)
    have BEL := hid (below_setCells w.heap.size (Nat.le_refl _) CS (K * 13) w3 I3.out.bel)
    have e1 := HE1.out
    obtain ⟨h0, h512⟩ := H5.out
    have HGF : Hid (FOk G) := hid (by rw [← HG.out]; exact setF_ok HF.out HOK.out)
    have HGI : Hid ((Try.prog.info? 35).map (·.size) = some (fC G).length) := hid (by rw [fC_len HGF.out]; exact info35)
    clear hcl e13 hCS RNI
    go_wp2_with (first | ((with_reducible refine at_load 33 ?_); refine wpList_load_mid rfl 33 _ rfl w9.heap.size 0 rfl CS _ HR3.out Try.underlying33 rfl HSI.out ?_) | ((with_reducible refine at_store 33 ?_); refine wpList_store_mid rfl 33 _ _ rfl w.heap.size (K * 13) CS.toArray rfl rfl HT0.out HSI'.out HSO.out ?_) | ((with_reducible refine at_load 35 ?_); refine wpList_load_mid rfl 35 _ rfl w.heap.size 0 rfl (fC G) _ HFP.out Try.underlying35 rfl HGI.out ?_) | ((with_reducible refine at_store 35 ?_); refine wpList_store_f _ _ rfl rfl (w.heap.size + 1 + 1) G HGF.out rfl rfl HTF.out ?_))
    exact bodyPost_ret (res_cell rfl _ _ (w.heap.size + 1 + 1) 0 (fC G) _ _ rfl rfl (World.rangeAt_setCells_same _ (w.heap.size + 1 + 1) 0 (fC G) (by rw [fC_len HGF.out]; exact HTF.out)) Try.underlying35 rfl HGI.out) rfl ⟨rfl, below_setCells (w.heap.size + 1 + 1) (by omega) (fC G) 0 _ BEL.out⟩
  · go_split_ands
    have hS : Below (w.heap.size + 1 + 1 + 1) w2 ((((((((((((((w9.setCell ⟨w2.heap.size, 0, none⟩ (.int .u8 a0)).setCell ⟨w2.heap.size, 1, none⟩ (.int .u8 a)).setCell ⟨w2.heap.size, 2, none⟩ (.int .u8 b)).setCell ⟨w2.heap.size, 3, none⟩ (.int .u8 c)).setCell ⟨w2.heap.size, 4, none⟩ (.int .u8 d)).setCell ⟨w2.heap.size, 5, none⟩ (.int .u8 e)).setCell ⟨w2.heap.size, 6, none⟩ (.int .u8 f)).setCell ⟨w2.heap.size, 7, none⟩ (.int .u8 g)).setCell ⟨w2.heap.size, 8, none⟩ (.int .u8 j)).setCell ⟨w2.heap.size, 9, none⟩ (.int .u8 sk)).setCell ⟨w2.heap.size, 10, none⟩ (.int .i64 sm)).setCell ⟨w2.heap.size, 11, none⟩ (.int .u64 sn)).setCell ⟨w2.heap.size, 12, none⟩ (.int .i64 so))) := by with_reducible assumption
    have I3 := hid (I2.out.next3 hS)
    have T9 : w9.there w2.heap.size 0 13 := by
      obtain ⟨hc9, hf9⟩ := bcell b9
      exact there_below ((World.there_drew _ _ _ _).2 (there_box w2 #[.int .u8 0, .int .u8 0, .int .u8 0, .int .u8 0, .int .u8 0, .int .u8 0, .int .u8 0, .int .u8 0, .int .u8 0, .int .u8 0, .int .i64 0, .int .u64 0, .int .i64 0] 33 13 rfl)) (by simp) hc9 hf9
    have RNI : Hid (((((((((((((((w9.setCell ⟨w2.heap.size, 0, none⟩ (.int .u8 a0)).setCell ⟨w2.heap.size, 1, none⟩ (.int .u8 a)).setCell ⟨w2.heap.size, 2, none⟩ (.int .u8 b)).setCell ⟨w2.heap.size, 3, none⟩ (.int .u8 c)).setCell ⟨w2.heap.size, 4, none⟩ (.int .u8 d)).setCell ⟨w2.heap.size, 5, none⟩ (.int .u8 e)).setCell ⟨w2.heap.size, 6, none⟩ (.int .u8 f)).setCell ⟨w2.heap.size, 7, none⟩ (.int .u8 g)).setCell ⟨w2.heap.size, 8, none⟩ (.int .u8 j)).setCell ⟨w2.heap.size, 9, none⟩ (.int .u8 sk)).setCell ⟨w2.heap.size, 10, none⟩ (.int .i64 sm)).setCell ⟨w2.heap.size, 11, none⟩ (.int .u64 sn)).setCell ⟨w2.heap.size, 12, none⟩ (.int .i64 so))).rangeAt w2.heap.size 0 (sC ⟨a0, [a, b, c, d, e, f, g, j], ⟨sk, sm, sn, so⟩⟩)) := hid (World.rangeAt_setCells_same w9 w2.heap.size 0 (sC ⟨a0, [a, b, c, d, e, f, g, j], ⟨sk, sm, sn, so⟩⟩) T9)
    clear T9
    generalize (((((((((((((w9.setCell ⟨w2.heap.size, 0, none⟩ (.int .u8 a0)).setCell ⟨w2.heap.size, 1, none⟩ (.int .u8 a)).setCell ⟨w2.heap.size, 2, none⟩ (.int .u8 b)).setCell ⟨w2.heap.size, 3, none⟩ (.int .u8 c)).setCell ⟨w2.heap.size, 4, none⟩ (.int .u8 d)).setCell ⟨w2.heap.size, 5, none⟩ (.int .u8 e)).setCell ⟨w2.heap.size, 6, none⟩ (.int .u8 f)).setCell ⟨w2.heap.size, 7, none⟩ (.int .u8 g)).setCell ⟨w2.heap.size, 8, none⟩ (.int .u8 j)).setCell ⟨w2.heap.size, 9, none⟩ (.int .u8 sk)).setCell ⟨w2.heap.size, 10, none⟩ (.int .i64 sm)).setCell ⟨w2.heap.size, 11, none⟩ (.int .u64 sn)).setCell ⟨w2.heap.size, 12, none⟩ (.int .i64 so)) = w3 at I3 RNI ⊢
    have BF := HBF.out
    have ZF := HZF.out
    obtain ⟨CS, hCS⟩ : ∃ CS, sC ⟨a0, [a, b, c, d, e, f, g, j], ⟨sk, sm, sn, so⟩⟩ = CS := ⟨_, rfl⟩
    have hcl : CS.length = 13 := by rw [← hCS]; rfl
    have e13 : CS.toArray.size = 13 := by simpa using hcl
    have HR3 : Hid (w3.rangeAt w2.heap.size 0 CS) := hid (by rw [← hCS]; exact RNI.out)
    have HSI : Hid ((Try.prog.info? 33).map (·.size) = some CS.length) := hid (by rw [hcl]; exact info33)
    have HSI' : Hid ((Try.prog.info? 33).map (·.size) = some CS.toArray.size) := hid (by rw [e13]; exact info33)
    have HSO : Hid (CS.toArray.all (·.oneCell') = true) := hid (by rw [← hCS]; exact all_oneCell_toArray (one_sC ⟨a0, [a, b, c, d, e, f, g, j], ⟨sk, sm, sn, so⟩⟩))
    have HT0 : Hid (w3.there w.heap.size (K * 13) CS.toArray.size) := hid (fun r hr => by
      rw [e13] at hr
      have := I3.out.t0 (K * 13 + r) (by omega)
      rwa [Nat.zero_add] at this)
    have HFP : Hid ((w3.setCells w.heap.size (K * 13) CS).rangeAt w.heap.size 0 (fC G)) := hid (by rw [← hCS, ← HG.out]; exact frame_put HF.out HOK.out h2 I3.out.r0 I3.out.t0)
    have HTF := hid (World.there_setCells I3.out.t2 w.heap.size (K * 13) CS)
    have BEL := hid (below_setCells w.heap.size (Nat.le_refl _) CS (K * 13) w3 I3.out.bel)
    have e1 := HE1.out
    obtain ⟨h0, h512⟩ := H5.out
    have HGF : Hid (FOk G) := hid (by rw [← HG.out]; exact setF_ok HF.out HOK.out)
    have HGI : Hid ((Try.prog.info? 35).map (·.size) = some (fC G).length) := hid (by rw [fC_len HGF.out]; exact info35)
    clear hcl e13 hCS RNI
    go_wp2_with (first | ((with_reducible refine at_load 33 ?_); refine wpList_load_mid rfl 33 _ rfl w2.heap.size 0 rfl CS _ HR3.out Try.underlying33 rfl HSI.out ?_) | ((with_reducible refine at_store 33 ?_); refine wpList_store_mid rfl 33 _ _ rfl w.heap.size (K * 13) CS.toArray rfl rfl HT0.out HSI'.out HSO.out ?_) | ((with_reducible refine at_load 35 ?_); refine wpList_load_mid rfl 35 _ rfl w.heap.size 0 rfl (fC G) _ HFP.out Try.underlying35 rfl HGI.out ?_) | ((with_reducible refine at_store 35 ?_); refine wpList_store_f _ _ rfl rfl (w.heap.size + 1 + 1) G HGF.out rfl rfl HTF.out ?_))
    exact bodyPost_ret (res_cell rfl _ _ (w.heap.size + 1 + 1) 0 (fC G) _ _ rfl rfl (World.rangeAt_setCells_same _ (w.heap.size + 1 + 1) 0 (fC G) (by rw [fC_len HGF.out]; exact HTF.out)) Try.underlying35 rfl HGI.out) rfl ⟨rfl, below_setCells (w.heap.size + 1 + 1) (by omega) (fC G) 0 _ BEL.out⟩

theorem Store_any (F : Nat → Sl) (off size : Int) (v : Vl) (w : World) (hF : FOk F) (hv : VOk v) (ho : -9223372036854775808 ≤ off ∧ off < 9223372036854775808) :
    Calls Try.prog 17 #[fV F, .int .i64 off, .int .i64 size, vV v] w fun e w' => e = .returned (.tuple #[fV (storeF F off size v).1, .int .i64 (storeF F off size v).2]) ∧ Below w.heap.size w w' := by
  cases hr : rightF F
  · exact store_a F off size v w hF hv ho hr
  cases hm : mayB v
  · exact store_b F off size v w hF hv ho hr hm
  cases hs : sizeB size
  · exact store_c F off size v w hF hv ho hr hm hs
  by_cases hk : v.k = 0
  · exact store_d F off size v w hF hv ho hr hm hs hk
  by_cases hp : placeE off size = 0
  · by_cases hE : (storeS (F (off / 8).toNat) (off % 8).toNat size.toNat v).2 = 0
    · exact store_g F off size v w hF hv ho hr hm hs hk hp hE
    · exact store_f F off size v w hF hv ho hr hm hs hk hp hE
  · exact store_e F off size v w hF hv ho hr hm hs hk hp

end Go.Proofs.Ytjlaenkfjejbkaa
