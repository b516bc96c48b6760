/-
  The laws' frame: the zero frame behind some stores.
-/
import Derived.Test.YtjlaenkfjejbkaaMeK
namespace Go.Proofs.Ytjlaenkfjejbkaa
set_option linter.unusedSimpArgs false
set_option linter.unusedVariables false
open Go.ChangeShapes Go.WideShapes Go.ChangeAt Go.RowKit

/-- A store: where, how much, what. -/
structure Ac where
  off : Int
  size : Int
  v : Vl
def AOk (x : Ac) : Prop := (-9223372036854775808 ≤ x.off ∧ x.off < 9223372036854775808) ∧ (-9223372036854775808 ≤ x.size ∧ x.size < 9223372036854775808) ∧ VOk x.v
def aC (x : Ac) : List Value := [.int .i64 x.off, .int .i64 x.size, .int .u8 x.v.k, .int .i64 x.v.m, .int .u64 x.v.n, .int .i64 x.v.o]
/-- The stores in memory: a slice that holds them, or nil. -/
def ASl (pv : Value) (l : List Ac) (w : World) : Prop :=
  (∃ g o cap, pv = .slice (some ⟨g, o, none⟩) l.length cap ∧ g < w.heap.size ∧ ∀ j (h : j < l.length), w.rangeAt g (o + j * 6) (aC l[j])) ∨ ((∃ p cap, pv = .slice p 0 cap) ∧ l = [])
def stepF (F : Nat → Sl) (x : Ac) : Nat → Sl := if (storeF F x.off x.size x.v).2 = 0 then (storeF F x.off x.size x.v).1 else F
def frameF (l : List Ac) : Nat → Sl := (l.take 60).foldl stepF f0
theorem stepF_def (F : Nat → Sl) (x : Ac) : stepF F x = if (storeF F x.off x.size x.v).2 = 0 then (storeF F x.off x.size x.v).1 else F := rfl
theorem stepF_ok {F : Nat → Sl} {x : Ac} (hF : FOk F) (hx : AOk x) : FOk (stepF F x) := by
  unfold stepF
  split
  · exact storeF_ok hF hx.2.2
  · exact hF
theorem foldl_ok : ∀ (l : List Ac) (F : Nat → Sl), FOk F → (∀ x ∈ l, AOk x) → FOk (l.foldl stepF F)
  | [], _, h, _ => h
  | x :: l, F, h, hl => foldl_ok l _ (stepF_ok h (hl x (List.mem_cons_self ..))) (fun y hy => hl y (List.mem_cons_of_mem _ hy))
theorem frameF_ok {l : List Ac} (h : ∀ x ∈ l, AOk x) : FOk (frameF l) := foldl_ok _ _ f0_ok (fun x hx => h x (List.mem_of_mem_take hx))

/-- What frame keeps: the answer's place at g, the frame so far at g + 1. -/
structure FmI (g : Nat) (w W : World) (F : Nat → Sl) : Prop where
  bel : Below g w W
  sz : g + 1 < W.heap.size
  r1 : W.rangeAt (g + 1) 0 (fC F)
  t1 : W.there (g + 1) 0 832
  t0 : W.there g 0 832
theorem FmI.next {g : Nat} {w W W' : World} {F : Nat → Sl} (h : FmI g w W F) (hb : Below W.heap.size W W') : FmI g w W' F := by
  obtain ⟨hc, hf⟩ := bcell hb
  have hz := h.sz
  have hz' := hb.size
  exact ⟨below_next_w h.bel hb, by omega, range_below h.r1 (by omega) hc, there_below h.t1 (by omega) hc hf, there_below h.t0 (by omega) hc hf⟩
theorem FmI.alloc {g : Nat} {w W : World} {F : Nat → Sl} (h : FmI g w W F) (o : Obj) : FmI g w (W.alloc o) F := h.next ((Below.refl _ _).alloc (Nat.le_refl _) _)
/-- Behind a store of a frame to a new block. -/
theorem FmI.far {g b : Nat} {w W : World} {F G : Nat → Sl} (h : FmI g w W F) (hb : g + 1 < b) : FmI g w (W.setCells b 0 (fC G)) F := by
  have hz := (below_setCells (n := 0) (a := W) b (Nat.zero_le _) (fC G) 0 W (Below.refl _ _)).size
  exact ⟨below_setCells b (by omega) _ _ _ h.bel, by have := h.sz; omega, World.rangeAt_setCells_apart h.r1 b 0 _ (Or.inl (by omega)), World.there_setCells h.t1 b 0 _, World.there_setCells h.t0 b 0 _⟩
theorem FmI.put {g : Nat} {w W : World} {F G : Nat → Sl} (h : FmI g w W F) (hG : FOk G) : FmI g w (W.setCells (g + 1) 0 (fC G)) G := by
  have hz := (below_setCells (n := 0) (a := W) (g + 1) (Nat.zero_le _) (fC G) 0 W (Below.refl _ _)).size
  exact ⟨below_setCells (g + 1) (by omega) _ _ _ h.bel, by have := h.sz; omega, World.rangeAt_setCells_same W (g + 1) 0 (fC G) (by rw [fC_len hG]; exact h.t1), World.there_setCells h.t1 (g + 1) 0 _, World.there_setCells h.t0 (g + 1) 0 _⟩
theorem FmI.first (w : World) : FmI w.heap.size w ((w.alloc (.cells (fC f0).toArray 35)).alloc (.cells (fC f0).toArray 35)) f0 := by
  refine ⟨((Below.refl _ _).alloc (Nat.le_refl _) _).alloc (by simp) _, by simp, ?_, ?_, ?_⟩
  · have := (FrI.first (w.alloc (.cells (fC f0).toArray 35)) f0 35).r0
    simpa using this
  · have := there_box (w.alloc (.cells (fC f0).toArray 35)) (fC f0).toArray 35 832 f0_size
    simpa using this
  · exact World.there_alloc (there_box w (fC f0).toArray 35 832 f0_size) _

theorem res_one {P : Program} {fn : Func} {p : Tmp} {ty : TypeId} (h : fn.results = #[.cell p ty]) (tmps : Array Value) (W : World) (b o : Nat) (cs : List Value) (d : TypeDesc)
    (hp : tmps.getD p undef = .pointer (some ⟨b, o, none⟩)) (hr : W.rangeAt b o cs) (hu : P.underlying ty = some d) (hd : d.isRow = true) (hi : (P.info? ty).map (·.size) = some cs.length) :
    (results fn tmps).run P W = .ok (.agg cs.toArray) W := by
  have e : (results fn tmps).run P W = ((asAddr (tmps.getD p undef)).run P W).andThen fun a w1 => (loadVar ty a).run P w1 := by
    simp only [results, h]
    simp [Sem.run_bind, Result.andThen]
  rw [e, hp]
  simp [asAddr, Result.andThen, run_loadVar_mid W b o ty cs d hr hu hd hi]

set_option maxRecDepth 100000 in
set_option maxHeartbeats 1600000 in
theorem frame_any (pv : Value) (l : List Ac) (w : World) (hp : ASl pv l w) (hl : ∀ x ∈ l, AOk x) (hn : (l.length : Int) < 9223372036854775808) :
    Calls Try.prog 26 #[pv] w fun e w' => e = .returned (fV (frameF l)) ∧ Below w.heap.size w w' := by
  have ZF0 := (zero_of_info zf_info).1
  have ZF : ∀ w, (zeroValue 35).run Try.prog w = .ok (.agg (fC f0).toArray) w := ZF0
  have I0 := hid (FmI.first w)
  have HU : Hid (∀ W : World, (W.alloc (.cells (fC f0).toArray 35)).there W.heap.size 0 832) := hid (fun W => there_box W _ 35 832 f0_size)
  have HL := hid hl
  have HP := hid hp
  have hlen : ∃ p cap, pv = .slice p l.length cap := by
    rcases hp with ⟨g, o, cap, rfl, _, _⟩ | ⟨⟨p, cap, rfl⟩, rfl⟩
    · exact ⟨_, _, rfl⟩
    · exact ⟨p, cap, rfl⟩
  obtain ⟨p, cap, rfl⟩ := hlen
  obtain ⟨R, hR0⟩ : ∃ R, (l.take 60).foldl stepF f0 = R := ⟨_, rfl⟩
  rw [show frameF l = R from hR0]
  have HFR := hid hR0
  clear hR0
  unfold fV
  clear ZF0 hp hl
  go_enter Try.func26, Try.ntmps26
  go_wp2_with fail
  go_loopw [10] (fun i w' => ∃ k : Nat, k ≤ l.length ∧ k ≤ 60 ∧ i = .int .i64 k ∧ Hid (FmI w.heap.size w w' ((l.take k).foldl stepF f0))) (fun i _ => l.length - (intOf i).toNat)
  case atStart => exact ⟨0, Nat.zero_le _, by omega, rfl, I0⟩
  case round =>
    obtain ⟨k, hk, hk60, rfl, I1⟩ := hrel
    by_cases hlt : k < l.length
    · have hx := HL.out l[k] (List.getElem_mem hlt)
      have hFk : FOk ((l.take k).foldl stepF f0) := foldl_ok _ _ f0_ok (fun x hx => HL.out x (List.mem_of_mem_take hx))
      have hstep : (l.take (k + 1)).foldl stepF f0 = stepF ((l.take k).foldl stepF f0) l[k] := by
        rw [List.take_succ_eq_append_getElem hlt, List.foldl_append]
        rfl
      have HST := hid (fun W => Store_any ((l.take k).foldl stepF f0) l[k].off l[k].size l[k].v W hFk hx.2.2 hx.1)
      have HSS := hid (hstep.trans (stepF_def _ _))
      have hc6 : ∃ gp op, p = some ⟨gp, op, none⟩ ∧ gp < w.heap.size ∧ w.rangeAt gp (op + k * 6) (aC l[k]) := by
        rcases HP.out with ⟨g, o, c, e, hg, hr⟩ | ⟨_, e⟩
        · injection e with e1 _ _
          exact ⟨g, o, e1, hg, hr k hlt⟩
        · rw [e] at hlt
          exact absurd hlt (Nat.not_lt_zero _)
      obtain ⟨gp, op, rfl, hgp, hrr⟩ := hc6
      have hrw := range_below hrr hgp (bcell I1.out.bel).1
      generalize l[k] = x at HST HSS hrw hx
      obtain ⟨xo, xs, ⟨xk, xm, xn, xv⟩⟩ := x
      have c0 : wr.cell? ⟨gp, op + k * 6, none⟩ = some (.int .i64 xo) := hrw 0 _ rfl
      have c1 : wr.cell? ⟨gp, op + k * 6 + 1, none⟩ = some (.int .i64 xs) := hrw 1 _ rfl
      have c2 : wr.cell? ⟨gp, op + k * 6 + 2, none⟩ = some (.int .u8 xk) := hrw 2 _ rfl
      have c3 : wr.cell? ⟨gp, op + k * 6 + 3, none⟩ = some (.int .i64 xm) := hrw 3 _ rfl
      have c4 : wr.cell? ⟨gp, op + k * 6 + 4, none⟩ = some (.int .u64 xn) := hrw 4 _ rfl
      have c5 : wr.cell? ⟨gp, op + k * 6 + 5, none⟩ = some (.int .i64 xv) := hrw 5 _ rfl
      have HFk := hid hFk
      have HGk := hid (storeF_ok (off := xo) (size := xs) (v := ⟨xk, xm, xn, xv⟩) hFk hx.2.2)
      clear hrw hrr hFk hstep hx
      dsimp only at HST HSS
      by_cases h60 : k = 60
      · have e60 : ((k : Int) == 60) = true := by simp; omega
        have hR : (l.take k).foldl stepF f0 = R := by rw [h60]; exact HFR.out
        clear h60
        rw [hR] at I1 HFk
        have HRok := hid HFk.out
        clear hR HST HSS HGk
        have J1 := hid (I1.out.alloc (.cells #[.int .i64 xo, .int .i64 xs, .int .u8 xk, .int .i64 xm, .int .u64 xn, .int .i64 xv] 45))
        have HGI : Hid ((Try.prog.info? 35).map (·.size) = some (fC R).length) := hid (by rw [fC_len HRok.out]; exact info35)
        have HR1 := hid J1.out.r1
        have HT0 := hid J1.out.t0
        go_wp2_with (first | ((with_reducible refine at_load 35 ?_); refine wpList_load_mid rfl 35 _ rfl (w.heap.size + 1) 0 rfl (fC R) _ HR1.out Try.underlying35 rfl HGI.out ?_) | ((with_reducible refine at_store 35 ?_); refine wpList_store_f _ _ rfl rfl w.heap.size R HRok.out rfl rfl HT0.out ?_))
        exact bodyPost_ret (res_one rfl _ _ w.heap.size 0 (fC R) _ rfl (World.rangeAt_setCells_same _ w.heap.size 0 (fC R) (by rw [fC_len HRok.out]; exact HT0.out)) Try.underlying35 rfl HGI.out) rfl ⟨rfl, below_setCells w.heap.size (Nat.le_refl _) (fC R) 0 _ J1.out.bel⟩
      · have hk' : ((k : Int) == 60) = false := by simp; omega
        have hGok := HGk.out
        clear HGk
        generalize hFF : (l.take k).foldl stepF f0 = FF at *
        clear hFF
        unfold fV vV at HST
        dsimp only at HST HSS
        have HR1 := hid I1.out.r1
        have HGI : Hid ((Try.prog.info? 35).map (·.size) = some (fC FF).length) := hid (by rw [fC_len HFk.out]; exact info35)
        go_wp2_with ((with_reducible refine at_load 35 ?_); refine wpList_load_mid rfl 35 _ rfl (w.heap.size + 1) 0 rfl (fC FF) _ (World.rangeAt_alloc HR1.out _) Try.underlying35 rfl HGI.out ?_)
        refine (HST.out _).mono ?_
        rintro e w3 ⟨rfl, b3⟩
        have I3 := hid ((I1.out.alloc _).next b3)
        have I4 := hid (I3.out.alloc (.cells (fC f0).toArray 35))
        have hz3 := I3.out.sz
        clear b3 c0 c1 c2 c3 c4 c5 HR1 HST
        generalize storeF FF xo xs ⟨xk, xm, xn, xv⟩ = RR at hGok HSS ⊢
        obtain ⟨G, E⟩ := RR
        dsimp only at hGok HSS ⊢
        have HGok := hid hGok
        clear hGok
        have HT3 := hid (HU.out w3)
        have I5 := hid (I4.out.far (G := G) hz3)
        have HGG : Hid ((Try.prog.info? 35).map (·.size) = some (fC G).length) := hid (by rw [fC_len HGok.out]; exact info35)
        by_cases hE : E = 0
        · subst hE
          have hS1 : (l.take (k + 1)).foldl stepF f0 = G := by rw [HSS.out, if_pos rfl]
          have HR6 := hid (World.rangeAt_setCells_same (w3.alloc (.cells (fC f0).toArray 35)) w3.heap.size 0 (fC G) (by rw [fC_len HGok.out]; exact HT3.out))
          have HT6 := hid I5.out.t1
          have I6 := hid (I5.out.put HGok.out)
          have HS1 := hid hS1
          clear hS1 HSS
          go_wp2_with (first | ((with_reducible refine at_store 35 ?_); refine wpList_store_f _ _ rfl rfl w3.heap.size G HGok.out rfl rfl HT3.out ?_) | ((with_reducible refine at_load 35 ?_); refine wpList_load_mid rfl 35 _ rfl w3.heap.size 0 rfl (fC G) _ HR6.out Try.underlying35 rfl HGG.out ?_) | ((with_reducible refine at_store 35 ?_); refine wpList_store_f _ _ rfl rfl (w.heap.size + 1) G HGok.out rfl rfl HT6.out ?_))
          go_roundw
          case rel => exact ⟨k + 1, by omega, by omega, by go_num, hid (by rw [HS1.out]; exact I6.out)⟩
          case measure => simp [intOf]; omega
        · have hE' : (E == 0) = false := by simpa using hE
          have hS1 : (l.take (k + 1)).foldl stepF f0 = FF := by rw [HSS.out, if_neg hE]
          have HS1 := hid hS1
          clear hS1 HSS hE
          go_wp2_with ((with_reducible refine at_store 35 ?_); refine wpList_store_f _ _ rfl rfl w3.heap.size G HGok.out rfl rfl HT3.out ?_)
          go_roundw
          case rel => exact ⟨k + 1, by omega, by omega, by go_num, hid (by rw [HS1.out]; exact I5.out)⟩
          case measure => simp [intOf]; omega
    · have hkl : k = l.length := by omega
      have hR : (l.take k).foldl stepF f0 = R := by rw [← HFR.out, hkl, List.take_length, List.take_of_length_le (by omega)]
      have HRok : Hid (FOk R) := hid (by rw [← hR]; exact foldl_ok _ _ f0_ok (fun x hx => HL.out x (List.mem_of_mem_take hx)))
      rw [hR] at I1
      clear hR
      have HGI : Hid ((Try.prog.info? 35).map (·.size) = some (fC R).length) := hid (by rw [fC_len HRok.out]; exact info35)
      have HR1 := hid I1.out.r1
      have HT0 := hid I1.out.t0
      go_wp2_with (first | ((with_reducible refine at_load 35 ?_); refine wpList_load_mid rfl 35 _ rfl (w.heap.size + 1) 0 rfl (fC R) _ HR1.out Try.underlying35 rfl HGI.out ?_) | ((with_reducible refine at_store 35 ?_); refine wpList_store_f _ _ rfl rfl w.heap.size R HRok.out rfl rfl HT0.out ?_))
      exact bodyPost_ret (res_one rfl _ _ w.heap.size 0 (fC R) _ rfl (World.rangeAt_setCells_same _ w.heap.size 0 (fC R) (by rw [fC_len HRok.out]; exact HT0.out)) Try.underlying35 rfl HGI.out) rfl ⟨rfl, below_setCells w.heap.size (Nat.le_refl _) (fC R) 0 _ I1.out.bel⟩

end Go.Proofs.Ytjlaenkfjejbkaa
