/-
  MemStores: the walk.
-/
import Derived.Test.YtjlaenkfjejbkaaMdX
import Derived.Test.YtjlaenkfjejbkaaMeI
import Derived.Test.YtjlaenkfjejbkaaMeB
import Derived.Test.YtjlaenkfjejbkaaMeD
namespace Go.Proofs.Ytjlaenkfjejbkaa
set_option linter.unusedSimpArgs false
set_option linter.unusedVariables false
open Go.ChangeShapes Go.WideShapes Go.ChangeAt Go.RowKit

section
variable {P : Program} {ops : Array Oper} {Q : Exit → Act → World → Prop} {md : Region.Mode} {S : World → Prop} {fuel : Nat} {listed : Array Bool} {tm : Array Value} {df : List Deferred} {w : World}
theorem one_hs {i : Nat} {oi : Oper} (l2 : Array Bool) (hr : Region.ready md ops listed = [i]) (hi : ops[i]? = some oi) (hd : oi.dst = none) (hw : Region.wanted oi (yielded ops tm) = true) (hl : listed.setIfInBounds i true = l2)
    (h : ∀ K : Act → World → Prop, (∀ v w', S w' → wpAnyH P md ops Q S fuel l2 ⟨tm, df⟩ w' → K ((⟨tm, df⟩ : Act).put oi.dst v) w') → oi.wp P ⟨tm, df⟩ w K Q) : wpAnyH P md ops Q S (fuel + 1) listed ⟨tm, df⟩ w :=
  wpAnyH_ready hr (by simp) (AllReadyH.cons hi (fun K hK => by
    rw [if_pos hw]
    exact h K (fun v w' hS hv => hK.out _ _ hS (fun _ => by rw [hd, hl]; exact hv))) AllReadyH.nil)
end
theorem wp_store_f1 {op : Oper} {a : Act} {w : World} {K : Act → World → Prop} {Q : Exit → Act → World → Prop} (x y : Operand) (ho : op.op = .store 35 x y)
    (b : Nat) (G : Nat → Sl) (hG : FOk G) (hx : a.eval x = .pointer (some ⟨b, 0, none⟩)) (hy : a.eval y = .agg (fC G).toArray) (ht : w.there b 0 832)
    (h : K (a.put op.dst undef) (w.setCells b 0 (fC G))) : op.wp Try.prog a w K Q :=
  wp_store_mid 35 x y ho b 0 (fC G).toArray hx hy (by rw [List.size_toArray, fC_len hG]; exact ht) (by rw [List.size_toArray, fC_len hG]; exact info35) (all_oneCell_toArray (one_fC G)) h
theorem wp_store_f2 {op : Oper} {a : Act} {w : World} {K : Act → World → Prop} {Q : Exit → Act → World → Prop} (x y : Operand) (ho : op.op = .store 29 x y)
    (b : Nat) (G : Nat → Sl) (hG : FOk G) (hx : a.eval x = .pointer (some ⟨b, 0, none⟩)) (hy : a.eval y = .agg (fC G).toArray) (ht : w.there b 0 832)
    (h : K (a.put op.dst undef) (w.setCells b 0 (fC G))) : op.wp Try.prog a w K Q :=
  wp_store_mid 29 x y ho b 0 (fC G).toArray hx hy (by rw [List.size_toArray, fC_len hG]; exact ht) (by rw [List.size_toArray, fC_len hG]; exact info29r) (all_oneCell_toArray (one_fC G)) h

/-- What MemStores keeps: the document's frame, .. -/
structure Ms0 (w : World) (F : Nat → Sl) (W : World) : Prop where
  bel : Below w.heap.size w W
  sz : w.heap.size < W.heap.size
  r0 : W.rangeAt w.heap.size 0 (fC F)
  t0 : W.there w.heap.size 0 832
theorem Ms0.next {w W V : World} {F : Nat → Sl} (h : Ms0 w F W) (b : Below W.heap.size W V) : Ms0 w F V :=
  ⟨below_next_w h.bel b (Nat.le_of_lt h.sz), Nat.lt_of_lt_of_le h.sz b.size, range_below h.r0 h.sz (bcell b).1, there_below h.t0 h.sz (bcell b).1 (bcell b).2⟩
theorem Ms0.first (w : World) (F : Nat → Sl) (hF : FOk F) (t : TypeId) : Ms0 w F (w.alloc (.cells (fC F).toArray t)) :=
  ⟨(Below.refl _ _).alloc (Nat.le_refl _) _, by simp, range_new w (fC F).toArray t, there_box w (fC F).toArray t 832 (by rw [List.size_toArray, fC_len hF])⟩
/-- .. and the code's, at g. -/
structure MsI (w : World) (g : Nat) (F : Nat → Sl) (W : World) : Prop where
  m : Ms0 w F W
  lo : w.heap.size < g
  lt : g < W.heap.size
  r1 : W.rangeAt g 0 (fC F)
  t1 : W.there g 0 832
theorem MsI.next {w W V : World} {g : Nat} {F : Nat → Sl} (h : MsI w g F W) (b : Below W.heap.size W V) : MsI w g F V :=
  ⟨h.m.next b, h.lo, Nat.lt_of_lt_of_le h.lt b.size, range_below h.r1 h.lt (bcell b).1, there_below h.t1 h.lt (bcell b).1 (bcell b).2⟩
theorem MsI.alloc {w W : World} {g : Nat} {F : Nat → Sl} (h : MsI w g F W) (o : Obj) : MsI w g F (W.alloc o) := h.next ((Below.refl _ _).alloc (Nat.le_refl _) _)
theorem bel_box (W : World) (o : Obj) (G : Nat → Sl) : Below W.heap.size W ((W.alloc o).setCells W.heap.size 0 (fC G)) := below_setCells W.heap.size (Nat.le_refl _) (fC G) 0 _ ((Below.refl _ _).alloc (Nat.le_refl _) _)
theorem lt_box (W : World) (o : Obj) (G : Nat → Sl) : W.heap.size < ((W.alloc o).setCells W.heap.size 0 (fC G)).heap.size := Nat.lt_of_lt_of_le (by simp) (below_setCells (n := 0) (a := W.alloc o) W.heap.size (Nat.zero_le _) (fC G) 0 _ (Below.refl _ _)).size
theorem MsI.mk3 {w W : World} {F : Nat → Sl} {o : Obj} (h : Ms0 w F W) (hF : FOk F) (hT : (W.alloc o).there W.heap.size 0 832) : MsI w W.heap.size F ((W.alloc o).setCells W.heap.size 0 (fC F)) :=
  ⟨h.next (bel_box W o F), h.sz, lt_box W o F, World.rangeAt_setCells_same _ _ 0 (fC F) (by rw [fC_len hF]; exact hT), World.there_setCells hT _ 0 _⟩
/-- Both frames renewed. -/
theorem MsI.put2 {w W : World} {g : Nat} {G : Nat → Sl} (hG : FOk G) (hb : Below w.heap.size w W) (h0 : w.heap.size < g) (h1 : g < W.heap.size) (t0 : W.there w.heap.size 0 832) (t1 : W.there g 0 832) : MsI w g G ((W.setCells g 0 (fC G)).setCells w.heap.size 0 (fC G)) := by
  have z1 := (below_setCells (n := 0) (a := W) g (Nat.zero_le _) (fC G) 0 W (Below.refl _ _)).size
  have z2 := (below_setCells (n := 0) (a := W.setCells g 0 (fC G)) w.heap.size (Nat.zero_le _) (fC G) 0 _ (Below.refl _ _)).size
  have ta := World.there_setCells t0 g 0 (fC G)
  have tb := World.there_setCells t1 g 0 (fC G)
  refine ⟨⟨below_setCells _ (Nat.le_refl _) _ _ _ (below_setCells g (Nat.le_of_lt h0) _ _ _ hb), by omega, World.rangeAt_setCells_same _ _ 0 (fC G) (by rw [fC_len hG]; exact ta), World.there_setCells ta _ 0 _⟩, h0, by omega, World.rangeAt_setCells_apart (World.rangeAt_setCells_same W g 0 (fC G) (by rw [fC_len hG]; exact t1)) _ 0 _ (Or.inl (by omega)), World.there_setCells tb _ 0 _⟩
theorem keepA {w6 W : World} {a b g : Nat} {G : Nat → Sl} {k m n o : Int} (h1 : w6.rangeAt a 0 (fC G)) (h2 : w6.rangeAt b 0 (fC G)) (h3 : w6.cell? ⟨g, 2, none⟩ = some (.int .u8 k)) (h4 : w6.cell? ⟨g, 3, none⟩ = some (.int .i64 m)) (h5 : w6.cell? ⟨g, 4, none⟩ = some (.int .u64 n)) (h6 : w6.cell? ⟨g, 5, none⟩ = some (.int .i64 o)) (ha : a < w6.heap.size) (hb' : b < w6.heap.size) (hb : Below w6.heap.size w6 W) :
    W.rangeAt a 0 (fC G) ∧ W.rangeAt b 0 (fC G) ∧ W.cell? ⟨g, 2, none⟩ = some (.int .u8 k) ∧ W.cell? ⟨g, 3, none⟩ = some (.int .i64 m) ∧ W.cell? ⟨g, 4, none⟩ = some (.int .u64 n) ∧ W.cell? ⟨g, 5, none⟩ = some (.int .i64 o) ∧ Below w6.heap.size w6 W :=
  ⟨range_below h1 ha (bcell hb).1, range_below h2 hb' (bcell hb).1, cn hb h3, cn hb h4, cn hb h5, cn hb h6, hb⟩
structure SpP (w : World) (g a b : Nat) (G : Nat → Sl) (W : World) : Prop where
  ra : W.rangeAt a 0 (fC G)
  rb : W.rangeAt b 0 (fC G)
  t0 : W.there w.heap.size 0 832
  t1 : W.there g 0 832
  bel : Below w.heap.size w W
  lt : g < W.heap.size
theorem SpP.set {w W : World} {g a b c : Nat} {G : Nat → Sl} (h : SpP w g a b G W) (hc : w.heap.size ≤ c) (ha : a ≠ c) (hb : b ≠ c) : SpP w g a b G (W.setCells c 0 (fC G)) :=
  ⟨World.rangeAt_setCells_apart h.ra c 0 _ (Or.inl (by omega)), World.rangeAt_setCells_apart h.rb c 0 _ (Or.inl (by omega)), World.there_setCells h.t0 c 0 _, World.there_setCells h.t1 c 0 _, below_setCells c hc _ _ _ h.bel, Nat.lt_of_lt_of_le h.lt (below_setCells (n := 0) (a := W) c (Nat.zero_le _) (fC G) 0 W (Below.refl _ _)).size⟩
theorem SpP.first {w q W : World} {g a b : Nat} {F G : Nat → Sl} (J : MsI w g F q) (h1 : q.rangeAt a 0 (fC G)) (h2 : q.rangeAt b 0 (fC G)) (ha : a < q.heap.size) (hb : b < q.heap.size) (k : Below q.heap.size q W) : SpP w g a b G W :=
  ⟨range_below h1 ha (bcell k).1, range_below h2 hb (bcell k).1, (J.next k).m.t0, (J.next k).t1, (J.next k).m.bel, (J.next k).lt⟩

set_option maxRecDepth 100000 in
set_option maxHeartbeats 6400000 in
theorem memStores_walk (F : Nat → Sl) (pv : Value) (l : List Ac) (w : World) (hF : FOk F) (hp : ASl pv l w) (hl : ∀ x ∈ l, AOk x) (hn : (l.length : Int) < 9223372036854775808) :
    Calls Try.prog 4 #[fV F, pv] w fun e w' => e = .returned (.bool true) ∧ Below w.heap.size w w' := by
  have HAw := hid awake_any
  have HOf := hid (fun W => Of_any F W hF)
  have ZF0 := (zero_of_info zf_info).1
  have ZF : ∀ w, (zeroValue 35).run Try.prog w = .ok (.agg (fC f0).toArray) w := ZF0
  have ZR0 := (zero_of_info rzf_info).1
  have ZR : ∀ w, (zeroValue 29).run Try.prog w = .ok (.agg (fC f0).toArray) w := ZR0
  have HU : Hid (∀ W : World, (W.alloc (.cells (fC f0).toArray 35)).there W.heap.size 0 832) := hid (fun W => there_box W _ 35 832 f0_size)
  have HV : Hid (∀ W : World, (W.alloc (.cells (fC f0).toArray 29)).there W.heap.size 0 832) := hid (fun W => there_box W _ 29 832 f0_size)
  have HL := hid hl
  have HP := hid hp
  have hlen : ∃ p cap, pv = .slice p l.length cap := by
    rcases hp with ⟨g, o, cap, rfl, _, _⟩ | ⟨⟨p, cap, rfl⟩, rfl⟩
    · exact ⟨_, _, rfl⟩
    · exact ⟨p, cap, rfl⟩
  obtain ⟨p, cap, rfl⟩ := hlen
  have HI29 : Hid ((Try.prog.info? 29).map (·.size) = some (fC F).length) := hid (by rw [fC_len hF]; kernel_rfl)
  have HF := hid hF
  have I0 := hid (Ms0.first w F hF 29)
  unfold fV at HOf ⊢
  clear ZF0 ZR0 hp hl hF
  go_enter Try.func4, Try.ntmps4
  go_wp2_with fail
  refine (HAw.out _).mono ?_
  rintro e w1 ⟨rfl, b1⟩
  have I1 := hid (I0.out.next b1)
  clear b1 I0
  go_wp2_with ((with_reducible refine at_load 29 ?_); refine wpList_load_mid rfl 29 _ rfl w.heap.size 0 rfl (fC F) _ I1.out.r0 Try.underlying29 rfl HI29.out ?_)
  refine (HOf.out _).mono ?_
  rintro e w2 ⟨rfl, b2⟩
  have I2 := hid (I1.out.next b2)
  clear b2 I1
  have HT := hid (HU.out w2)
  have M0 := hid (MsI.mk3 I2.out HF.out HT.out)
  go_wp2_with ((with_reducible refine at_store 35 ?_); refine wpList_store_f _ _ rfl rfl w2.heap.size F HF.out rfl rfl HT.out ?_; generalize (w2.alloc (.cells (fC f0).toArray 35)).setCells w2.heap.size 0 (fC F) = w3 at M0 ⊢; generalize w2.heap.size = g at M0 ⊢; clear HT I2)
  have M1 : Hid (∃ FF, FOk FF ∧ MsI w g FF w3) := hid ⟨F, HF.out, M0.out⟩
  clear M0 HF HI29 HOf
  go_loopw [18] (fun i w' => ∃ k : Nat, k ≤ l.length ∧ k ≤ 60 ∧ i = .int .i64 k ∧ Hid (∃ FF, FOk FF ∧ MsI w g FF w')) (fun i _ => l.length - (intOf i).toNat)
  case atStart => exact ⟨0, Nat.zero_le _, by omega, rfl, M1⟩
  case round =>
    obtain ⟨k, hk, hk60, rfl, M2⟩ := hrel
    obtain ⟨FF, hFF, I⟩ := M2.out
    have HFF := hid hFF
    have II := hid I
    clear hFF I M1 M2
    have HI35 : Hid ((Try.prog.info? 35).map (·.size) = some (fC FF).length) := hid (by rw [fC_len HFF.out]; exact info35)
    have HI29 : Hid ((Try.prog.info? 29).map (·.size) = some (fC FF).length) := hid (by rw [fC_len HFF.out]; exact info29r)
    have HSm := hid (fun W => same_self FF W HFF.out)
    unfold fV at HSm
    by_cases hlt : k < l.length
    · have hx := HL.out l[k] (List.getElem_mem hlt)
      have HST := hid (fun W => Store_any FF l[k].off l[k].size l[k].v W HFF.out hx.2.2 hx.1)
      have HSR := hid (fun W => rStore_any FF l[k].off l[k].size l[k].v W HFF.out hx.2.2 hx.1)
      have HMc := hid (fun W => may_any l[k].v W)
      have HMd := hid (fun W => rmay_any l[k].v W)
      have HGk := hid (storeF_ok (off := l[k].off) (size := l[k].size) (v := l[k].v) HFF.out hx.2.2)
      have hc6 : ∃ gp op, p = some ⟨gp, op, none⟩ ∧ gp < w.heap.size ∧ w.rangeAt gp (op + k * 6) (aC l[k]) := by
        rcases HP.out with ⟨g, o, c, e, hg, hr⟩ | ⟨_, e⟩
        · injection e with e1 _ _
          exact ⟨g, o, e1, hg, hr k hlt⟩
        · rw [e] at hlt
          exact absurd hlt (Nat.not_lt_zero _)
      obtain ⟨gp, op, rfl, hgp, hrr⟩ := hc6
      have hrw := range_below hrr hgp (bcell II.out.m.bel).1
      generalize l[k] = x at HST HSR HMc HMd HGk hrw hx
      obtain ⟨xo, xs, ⟨xk, xm, xn, xv⟩⟩ := x
      have c0 : wr.cell? ⟨gp, op + k * 6, none⟩ = some (.int .i64 xo) := hrw 0 _ rfl
      have c1 : wr.cell? ⟨gp, op + k * 6 + 1, none⟩ = some (.int .i64 xs) := hrw 1 _ rfl
      have c2 : wr.cell? ⟨gp, op + k * 6 + 2, none⟩ = some (.int .u8 xk) := hrw 2 _ rfl
      have c3 : wr.cell? ⟨gp, op + k * 6 + 3, none⟩ = some (.int .i64 xm) := hrw 3 _ rfl
      have c4 : wr.cell? ⟨gp, op + k * 6 + 4, none⟩ = some (.int .u64 xn) := hrw 4 _ rfl
      have c5 : wr.cell? ⟨gp, op + k * 6 + 5, none⟩ = some (.int .i64 xv) := hrw 5 _ rfl
      clear hrw hrr hx
      unfold fV vV at HST HSR
      unfold vV at HMc HMd
      dsimp only at HST HSR HMc HMd HGk
      have JA := hid (II.out.alloc (.cells #[.int .i64 xo, .int .i64 xs, .int .u8 xk, .int .i64 xm, .int .u64 xn, .int .i64 xv] 45))
      have XA0 : Hid ((wr.alloc (.cells #[.int .i64 xo, .int .i64 xs, .int .u8 xk, .int .i64 xm, .int .u64 xn, .int .i64 xv] 45)).rangeAt wr.heap.size 0 [.int .i64 xo, .int .i64 xs, .int .u8 xk, .int .i64 xm, .int .u64 xn, .int .i64 xv]) := hid (range_new wr #[.int .i64 xo, .int .i64 xs, .int .u8 xk, .int .i64 xm, .int .u64 xn, .int .i64 xv] 45)
      have hzA : wr.heap.size < (wr.alloc (.cells #[.int .i64 xo, .int .i64 xs, .int .u8 xk, .int .i64 xm, .int .u64 xn, .int .i64 xv] 45)).heap.size := by simp
      by_cases h60 : k = 60
      · have e60 : ((k : Int) == 60) = true := by simp; omega
        clear h60 hzA
        go_wp2_with (first | ((with_reducible refine at_load 35 ?_); refine wpList_load_mid rfl 35 _ rfl g 0 rfl (fC FF) _ JA.out.r1 Try.underlying35 rfl HI35.out ?_) | ((with_reducible refine at_load 29 ?_); refine wpList_load_mid rfl 29 _ rfl w.heap.size 0 rfl (fC FF) _ JA.out.m.r0 Try.underlying29 rfl HI29.out ?_))
        refine (HSm.out _).mono ?_
        rintro e w9 ⟨rfl, b9⟩
        have hfin := below_next_w JA.out.m.bel b9 (Nat.le_of_lt JA.out.m.sz)
        go_wp2
        go_ret
        exact ⟨rfl, hfin⟩
      · have hk' : ((k : Int) == 60) = false := by simp; omega
        go_wp2_with ((with_reducible refine at_load 35 ?_); refine wpList_load_mid rfl 35 _ rfl g 0 rfl (fC FF) _ JA.out.r1 Try.underlying35 rfl HI35.out ?_)
        refine (HST.out _).mono ?_
        rintro e w3 ⟨rfl, b3⟩
        have J3 := hid (JA.out.next b3)
        have X3 := hid (range_below XA0.out hzA (bcell b3).1)
        have hz3 : wr.heap.size < w3.heap.size := Nat.lt_of_lt_of_le hzA b3.size
        clear b3 c0 c1 c2 c3 c4 c5 JA XA0 hzA II HST
        generalize wr.heap.size = A at X3 hz3 ⊢
        generalize storeF FF xo xs ⟨xk, xm, xn, xv⟩ = RR at HGk HSR ⊢
        obtain ⟨G, E⟩ := RR
        dsimp only at HGk HSR ⊢
        have HT3 := hid (HU.out w3)
        have J5 := hid (J3.out.next (bel_box w3 (.cells (fC f0).toArray 35) G))
        have X5 := hid (range_below X3.out hz3 (bcell (bel_box w3 (.cells (fC f0).toArray 35) G)).1)
        have R8 := hid (World.rangeAt_setCells_same (w3.alloc (.cells (fC f0).toArray 35)) w3.heap.size 0 (fC G) (by rw [fC_len HGk.out]; exact HT3.out))
        have L8 := lt_box w3 (.cells (fC f0).toArray 35) G
        have hA8 := hz3
        have hg8 : g < w3.heap.size := J3.out.lt
        go_wp2_with (first | ((with_reducible refine at_load 29 ?_); refine wpList_load_mid rfl 29 _ rfl w.heap.size 0 rfl (fC FF) _ J5.out.m.r0 Try.underlying29 rfl HI29.out ?_) | ((with_reducible refine at_store 35 ?_); refine wpList_store_f _ _ rfl rfl w3.heap.size G HGk.out rfl rfl HT3.out ?_; generalize (w3.alloc (.cells (fC f0).toArray 35)).setCells w3.heap.size 0 (fC G) = w5 at J5 X5 R8 L8 ⊢; clear HT3 hz3 X3 J3; generalize w3.heap.size = b8 at R8 L8 hA8 hg8 ⊢; have a0 : w5.cell? ⟨A, 0, none⟩ = some (.int .i64 xo) := X5.out 0 _ rfl; have a1 : w5.cell? ⟨A, 1, none⟩ = some (.int .i64 xs) := X5.out 1 _ rfl; have a2 : w5.cell? ⟨A, 2, none⟩ = some (.int .u8 xk) := X5.out 2 _ rfl; have a3 : w5.cell? ⟨A, 3, none⟩ = some (.int .i64 xm) := X5.out 3 _ rfl; have a4 : w5.cell? ⟨A, 4, none⟩ = some (.int .u64 xn) := X5.out 4 _ rfl; have a5 : w5.cell? ⟨A, 5, none⟩ = some (.int .i64 xv) := X5.out 5 _ rfl))
        refine (HSR.out _).mono ?_
        rintro e w6 ⟨rfl, b6⟩
        have J6 := hid (J5.out.next b6)
        have X6 := hid (range_below X5.out (Nat.lt_trans hA8 L8) (bcell b6).1)
        have R86 := hid (range_below R8.out L8 (bcell b6).1)
        have L86 := Nat.lt_of_lt_of_le L8 b6.size
        clear b6 a0 a1 a2 a3 a4 a5 HSR J5 X5 R8 L8
        have HT6 := hid (HV.out w6)
        have J7 := hid (J6.out.next (bel_box w6 (.cells (fC f0).toArray 29) G))
        have X7 := hid (range_below X6.out (Nat.lt_trans hA8 L86) (bcell (bel_box w6 (.cells (fC f0).toArray 29) G)).1)
        have R87 := hid (range_below R86.out L86 (bcell (bel_box w6 (.cells (fC f0).toArray 29) G)).1)
        have R10 := hid (World.rangeAt_setCells_same (w6.alloc (.cells (fC f0).toArray 29)) w6.heap.size 0 (fC G) (by rw [fC_len HGk.out]; exact HT6.out))
        have L10 := lt_box w6 (.cells (fC f0).toArray 29) G
        have hg10 : g < w6.heap.size := J6.out.lt
        have L87 := L86
        go_wp2_with ((with_reducible refine at_store 29 ?_); refine wpList_store_rf _ _ rfl rfl w6.heap.size G HGk.out rfl rfl HT6.out ?_; generalize (w6.alloc (.cells (fC f0).toArray 29)).setCells w6.heap.size 0 (fC G) = q at J7 X7 R87 R10 L10 ⊢; clear HT6 X6 R86 L86 J6; generalize w6.heap.size = b10 at R10 L10 L87 hg10 ⊢)
        have HSg := hid (fun W => same_self G W HGk.out)
        unfold fV at HSg
        have hi35 : (Try.prog.info? 35).map (·.size) = some (fC G).length := by rw [fC_len HGk.out]; exact info35
        have hi29 : (Try.prog.info? 29).map (·.size) = some (fC G).length := by rw [fC_len HGk.out]; exact info29r
        have hu35 := Try.underlying35
        have hu29 := Try.underlying29
        have d2 : q.cell? ⟨A, 2, none⟩ = some (.int .u8 xk) := X7.out 2 _ rfl
        have d3 : q.cell? ⟨A, 3, none⟩ = some (.int .i64 xm) := X7.out 3 _ rfl
        have d4 : q.cell? ⟨A, 4, none⟩ = some (.int .u64 xn) := X7.out 4 _ rfl
        have d5 : q.cell? ⟨A, 5, none⟩ = some (.int .i64 xv) := X7.out 5 _ rfl
        have L8q : b8 < q.heap.size := Nat.lt_trans L87 L10
        have B66 := Below.refl q.heap.size q
        have HQ := hid HGk.out
        clear X7
        generalize mayB ⟨xk, xm, xn, xv⟩ = mb at HMc HMd
        refine wp_region_held_drew (S := (fun w' : World => w'.rangeAt b8 0 (fC G) ∧ w'.rangeAt b10 0 (fC G) ∧ w'.cell? ⟨A, 2, none⟩ = some (.int .u8 xk) ∧ w'.cell? ⟨A, 3, none⟩ = some (.int .i64 xm) ∧ w'.cell? ⟨A, 4, none⟩ = some (.int .u64 xn) ∧ w'.cell? ⟨A, 5, none⟩ = some (.int .i64 xv) ∧ Below q.heap.size q w')) (by kernel_rfl) ?_ (fun hHeld => ?_)
        · (try dsimp only); (refine keepA R87.out R10.out d2 d3 d4 d5 L8q L10 ?_; (try go_split_ands); first | (with_reducible assumption) | ((with_reducible refine Below.drew ?_); with_reducible assumption))
        (try simp only [Act.put, List.setIfInBounds_toArray, List.set_cons_zero, List.set_cons_succ])
        refine take_d (i := 0) (v := _) rfl (by rfl) (by kernel_rfl) (by kernel_rfl) (by kernel_rfl) (fun _ _ _ h => h) (yieldsIf_load_mid (by rfl) _ _ rfl _ _ rfl (fC G) _ ?h0 hu35 rfl hi35) (by assumption) ?r0
        case h0 => (intro wS hSw; (try dsimp only at hSw); go_split_ands; assumption)
        (try simp only [Act.put, List.setIfInBounds_toArray, List.set_cons_zero, List.set_cons_succ])
        refine take_d (i := 1) (v := _) rfl (by rfl) (by kernel_rfl) (by kernel_rfl) (by kernel_rfl) (fun _ _ _ h => h) (yieldsIf_load_mid (by rfl) _ _ rfl _ _ rfl (fC G) _ ?h1 hu29 rfl hi29) (by assumption) ?r1
        case h1 => (intro wS hSw; (try dsimp only at hSw); go_split_ands; assumption)
        (try simp only [Act.put, List.setIfInBounds_toArray, List.set_cons_zero, List.set_cons_succ])
        refine wpAnyH_ready (rs := [2]) (by kernel_rfl) (by simp) ?_
        refine AllReadyH.cons rfl (fun K hK => ?_) AllReadyH.nil
        go_simp
        go_at_call 19
        go_split_ands
        refine (HSg.out _).mono ?_
        rintro e w7 ⟨rfl, b7⟩
        have hB7 := belowM (w2 := q) b7 (by with_reducible assumption)
        clear b7
        try go_simp
        refine hK.out _ _ ?_ (fun hHeld => ?_)
        · (try dsimp only); (refine keepA R87.out R10.out d2 d3 d4 d5 L8q L10 ?_; (try go_split_ands); first | (with_reducible assumption) | ((with_reducible refine Below.drew ?_); with_reducible assumption))
        clear hK K hB7
        (try simp only [Act.put, List.setIfInBounds_toArray, List.set_cons_zero, List.set_cons_succ])
        refine take_d (i := 3) (v := ?v3) rfl (by rfl) (by kernel_rfl) (by kernel_rfl) (by kernel_rfl) (fun _ _ _ h => h) (Or.inl ⟨by rfl, ?h3⟩) (by assumption) ?r3
        case h3 => (intro wS hSw; (try dsimp only at hSw); go_simp; try (with_reducible rfl))
        (try simp only [Act.put, List.setIfInBounds_toArray, List.set_cons_zero, List.set_cons_succ])
        refine take_d (i := 4) (v := ?v4) rfl (by rfl) (by kernel_rfl) (by kernel_rfl) (by kernel_rfl) (fun _ _ _ h => h) (Or.inl ⟨by rfl, ?h4⟩) (by assumption) ?r4
        case h4 => (intro wS hSw; (try dsimp only at hSw); go_simp; try (with_reducible rfl))
        (try simp only [Act.put, List.setIfInBounds_toArray, List.set_cons_zero, List.set_cons_succ])
        refine take_d (i := 5) (v := ?v5) rfl (by rfl) (by kernel_rfl) (by kernel_rfl) (by kernel_rfl) (fun _ _ _ h => h) (Or.inl ⟨by rfl, ?h5⟩) (by assumption) ?r5
        case h5 => (intro wS hSw; (try dsimp only at hSw); go_simp; try (with_reducible rfl))
        (try simp only [Act.put, List.setIfInBounds_toArray, List.set_cons_zero, List.set_cons_succ])
        refine take_d (i := 6) (v := ?v6) rfl (by rfl) (by kernel_rfl) (by kernel_rfl) (by kernel_rfl) (fun _ _ _ h => h) (Or.inl ⟨by rfl, ?h6⟩) (by assumption) ?r6
        case h6 => (intro wS hSw; (try dsimp only at hSw); go_simp; try (with_reducible rfl))
        (try simp only [Act.put, List.setIfInBounds_toArray, List.set_cons_zero, List.set_cons_succ])
        refine take_d (i := 7) (v := ?v7) rfl (by rfl) (by kernel_rfl) (by kernel_rfl) (by kernel_rfl) (fun _ _ _ h => h) (Or.inl ⟨by rfl, ?h7⟩) (by assumption) ?r7
        case h7 => (intro wS hSw; (try dsimp only at hSw); go_simp; try (with_reducible rfl))
        (try simp only [Act.put, List.setIfInBounds_toArray, List.set_cons_zero, List.set_cons_succ])
        refine take_d (i := 8) (v := ?v8) rfl (by rfl) (by kernel_rfl) (by kernel_rfl) (by kernel_rfl) (fun _ _ _ h => h) (Or.inl ⟨by rfl, ?h8⟩) (by assumption) ?r8
        case h8 => (intro wS hSw; (try dsimp only at hSw); go_simp; try (with_reducible rfl))
        (try simp only [Act.put, List.setIfInBounds_toArray, List.set_cons_zero, List.set_cons_succ])
        refine take_d (i := 9) (v := ?v9) rfl (by rfl) (by kernel_rfl) (by kernel_rfl) (by kernel_rfl) (fun _ _ _ h => h) (Or.inl ⟨by rfl, ?h9⟩) (by assumption) ?r9
        case h9 => (intro wS hSw; (try dsimp only at hSw); go_simp; try (with_reducible rfl))
        (try simp only [Act.put, List.setIfInBounds_toArray, List.set_cons_zero, List.set_cons_succ])
        refine take_d (i := 10) (v := ?v10) rfl (by rfl) (by kernel_rfl) (by kernel_rfl) (by kernel_rfl) (fun _ _ _ h => h) (Or.inl ⟨by rfl, ?h10⟩) (by assumption) ?r10
        case h10 => (intro wS hSw; (try dsimp only at hSw); go_simp; try (with_reducible rfl))
        (try simp only [Act.put, List.setIfInBounds_toArray, List.set_cons_zero, List.set_cons_succ])
        refine take_d (i := 11) (v := ?v11) rfl (by rfl) (by kernel_rfl) (by kernel_rfl) (by kernel_rfl) (fun _ _ _ h => h) (Or.inl ⟨by rfl, ?h11⟩) (by assumption) ?r11
        case h11 => (intro wS hSw; (try dsimp only at hSw); go_simp; try (with_reducible rfl))
        (try simp only [Act.put, List.setIfInBounds_toArray, List.set_cons_zero, List.set_cons_succ])
        refine take_d (i := 13) (v := ?v13) rfl (by rfl) (by kernel_rfl) (by kernel_rfl) (by kernel_rfl) (fun _ _ _ h => h) (Or.inl ⟨by rfl, ?h13⟩) (by assumption) ?r13
        case h13 => (intro wS hSw; (try dsimp only at hSw); go_simp; try (with_reducible rfl))
        (try simp only [Act.put, List.setIfInBounds_toArray, List.set_cons_zero, List.set_cons_succ])
        refine take_d (i := 14) (v := ?v14) rfl (by rfl) (by kernel_rfl) (by kernel_rfl) (by kernel_rfl) (fun _ _ _ h => h) (Or.inl ⟨by rfl, ?h14⟩) (by assumption) ?r14
        case h14 => (intro wS hSw; (try dsimp only at hSw); go_simp; try (with_reducible rfl))
        (try simp only [Act.put, List.setIfInBounds_toArray, List.set_cons_zero, List.set_cons_succ])
        refine wpAnyH_ready (rs := [12]) (by kernel_rfl) (by simp) ?_
        refine AllReadyH.cons rfl (fun K hK => ?_) AllReadyH.nil
        go_simp
        go_at_call 20
        go_split_ands
        refine (HMc.out _).mono ?_
        rintro e w7 ⟨rfl, b7⟩
        have hB7 := belowM (w2 := q) b7 (by with_reducible assumption)
        clear b7
        try go_simp
        refine hK.out _ _ ?_ (fun hHeld => ?_)
        · (try dsimp only); (refine keepA R87.out R10.out d2 d3 d4 d5 L8q L10 ?_; (try go_split_ands); first | (with_reducible assumption) | ((with_reducible refine Below.drew ?_); with_reducible assumption))
        clear hK K hB7
        (try simp only [Act.put, List.setIfInBounds_toArray, List.set_cons_zero, List.set_cons_succ])
        refine wpAnyH_ready (rs := [15]) (by kernel_rfl) (by simp) ?_
        refine AllReadyH.cons rfl (fun K hK => ?_) AllReadyH.nil
        go_simp
        go_at_call 21
        go_split_ands
        refine (HMd.out _).mono ?_
        rintro e w7 ⟨rfl, b7⟩
        have hB7 := belowM (w2 := q) b7 (by with_reducible assumption)
        clear b7
        try go_simp
        refine hK.out _ _ ?_ (fun hHeld => ?_)
        · (try dsimp only); (refine keepA R87.out R10.out d2 d3 d4 d5 L8q L10 ?_; (try go_split_ands); first | (with_reducible assumption) | ((with_reducible refine Below.drew ?_); with_reducible assumption))
        clear hK K
        (try simp only [Act.put, List.setIfInBounds_toArray, List.set_cons_zero, List.set_cons_succ])
        refine take_d (i := 16) (v := ?v16) rfl (by rfl) (by kernel_rfl) (by kernel_rfl) (by kernel_rfl) (fun _ _ _ h => h) (Or.inl ⟨by rfl, ?h16⟩) (by assumption) ?r16
        case h16 => (intro wS hSw; (try dsimp only at hSw); go_simp; try (with_reducible rfl))
        (try simp only [Act.put, List.setIfInBounds_toArray, List.set_cons_zero, List.set_cons_succ])
        refine take_d (i := 17) (v := ?v17) rfl (by rfl) (by kernel_rfl) (by kernel_rfl) (by kernel_rfl) (fun _ _ _ h => h) (Or.inl ⟨by rfl, ?h17⟩) (by assumption) ?r17
        case h17 => (intro wS hSw; (try dsimp only at hSw); go_simp; try (with_reducible rfl))
        (try simp only [Act.put, List.setIfInBounds_toArray, List.set_cons_zero, List.set_cons_succ])
        refine wpAnyH_done (by kernel_rfl) ?_ _
        have J8 := hid (J7.out.next hB7)
        have R88 := hid (range_below R87.out L8q (bcell hB7).1)
        have R108 := hid (range_below R10.out L10 (bcell hB7).1)
        have L88 : b8 < w7.heap.size := Nat.lt_of_lt_of_le L8q hB7.size
        have L108 : b10 < w7.heap.size := Nat.lt_of_lt_of_le L10 hB7.size
        clear hHeld hB7 J7 R87 R10 d2 d3 d4 d5 L8q L10 B66
        by_cases hE : E = 0
        · subst hE
          go_wp2_with fail
          have B77 := Below.refl w7.heap.size w7
          refine wp_region_held_drew (S := SpP w g b8 b10 G) (by kernel_rfl) ?_ (fun hHeld => ?_)
          · exact SpP.first J8.out R88.out R108.out L88 L108 (Below.drew B77)
          (try simp only [Act.put, List.setIfInBounds_toArray, List.set_cons_zero, List.set_cons_succ])
          refine take_d (i := 0) (v := _) rfl (by rfl) (by kernel_rfl) (by kernel_rfl) (by kernel_rfl) (fun _ _ _ h => h) (yieldsIf_load_mid (by rfl) _ _ rfl _ _ rfl (fC G) _ (fun wS hS => hS.ra) hu35 rfl hi35) hHeld ?_
          (try simp only [Act.put, List.setIfInBounds_toArray, List.set_cons_zero, List.set_cons_succ])
          refine take_d (i := 1) (v := _) rfl (by rfl) (by kernel_rfl) (by kernel_rfl) (by kernel_rfl) (fun _ _ _ h => h) (yieldsIf_load_mid (by rfl) _ _ rfl _ _ rfl (fC G) _ (fun wS hS => hS.rb) hu29 rfl hi29) hHeld ?_
          (try simp only [Act.put, List.setIfInBounds_toArray, List.set_cons_zero, List.set_cons_succ])
          have hlo := J8.out.lo
          have JN := hid (MsI.put2 HQ.out hHeld.bel hlo hHeld.lt hHeld.t0 hHeld.t1)
          have hS2 := hHeld.set (c := g) (Nat.le_of_lt hlo) (by omega) (by omega)
          have hS3 := hS2.set (c := w.heap.size) (Nat.le_refl _) (by omega) (by omega)
          refine one_hs (i := 2) _ (by kernel_rfl) rfl rfl (by rfl) rfl (fun K hK => ?_)
          refine wp_store_f1 _ _ rfl g G HQ.out rfl rfl hHeld.t1 ?_
          refine hK _ _ hS2 ?_
          clear hK K
          refine one_hs (i := 3) _ (by kernel_rfl) rfl rfl (by rfl) rfl (fun K hK => ?_)
          refine wp_store_f2 _ _ rfl w.heap.size G HQ.out rfl rfl hS2.t0 ?_
          refine hK _ _ hS3 ?_
          clear hK K
          refine wpAnyH_done (by kernel_rfl) ?_ _
          clear hHeld hS2 hS3
          go_wp2_with fail
          go_roundw
          case rel => exact ⟨k + 1, by omega, by omega, by go_num, hid ⟨G, HQ.out, JN.out⟩⟩
          case measure => simp [intOf]; omega
        · have hE' : (E == 0) = false := by simpa using hE
          go_wp2_with fail
          go_roundw
          case rel => exact ⟨k + 1, by omega, by omega, by go_num, hid ⟨FF, HFF.out, J8.out⟩⟩
          case measure => simp [intOf]; omega
    · have hkl : k = l.length := by omega
      go_wp2_with (first | ((with_reducible refine at_load 35 ?_); refine wpList_load_mid rfl 35 _ rfl g 0 rfl (fC FF) _ II.out.r1 Try.underlying35 rfl HI35.out ?_) | ((with_reducible refine at_load 29 ?_); refine wpList_load_mid rfl 29 _ rfl w.heap.size 0 rfl (fC FF) _ II.out.m.r0 Try.underlying29 rfl HI29.out ?_))
      refine (HSm.out _).mono ?_
      rintro e w9 ⟨rfl, b9⟩
      have hfin := below_next_w II.out.m.bel b9 (Nat.le_of_lt II.out.m.sz)
      go_wp2
      go_ret
      exact ⟨rfl, hfin⟩

end Go.Proofs.Ytjlaenkfjejbkaa
