/-
  The code's putCode and Encode.
-/
import Derived.Test.YtolpgcoebmboeaaImC
namespace Go.Proofs.Ytolpgcoebmboeaa
set_option linter.unusedSimpArgs false
set_option linter.unusedVariables false
open Go.ChangeShapes Go.WideShapes Go.ChangeAt Go.RowKit

theorem encode_I (x : I5) (hx : x.ok) (hk : iOk x = true) (w : World) : Calls Try.prog 27 #[x.V] w (EncPost w (iB x)) := by
  obtain ⟨h0, h1, d0, d1, s0, s1, o0, o1, m0, m1⟩ := hx
  obtain ⟨hd, hs⟩ := (by simpa [iOk] using hk : x.dst ≤ 15 ∧ x.src ≤ 15)
  exact encode_yes x.op x.dst x.src x.off x.imm w h0 h1 d0 hd s0 hs o0 o1 m0 m1
theorem encode_X (x : I5) (hx : x.ok) (hk : iOk x = false) (w : World) : Calls Try.prog 27 #[x.V] w fun e w' => e = .returned (.tuple #[.slice none 0 0, .int .i64 21]) ∧ Below w.heap.size w w' := by
  obtain ⟨h0, h1, d0, d1, s0, s1, o0, o1, m0, m1⟩ := hx
  refine encode_no x.op x.dst x.src x.off x.imm w h0 h1 d0 d1 s0 s1 o0 o1 m0 m1 ?_
  simp [iOk] at hk
  omega
theorem rencode_I (x : I5) (hx : x.ok) (hk : iOk x = true) (w : World) : Calls Try.prog 21 #[x.V] w (EncPost w (iB x)) := by
  obtain ⟨h0, h1, d0, d1, s0, s1, o0, o1, m0, m1⟩ := hx
  obtain ⟨hd, hs⟩ := (by simpa [iOk] using hk : x.dst ≤ 15 ∧ x.src ≤ 15)
  exact rencode_yes x.op x.dst x.src x.off x.imm w h0 h1 d0 hd s0 hs o0 o1 m0 m1
theorem rencode_X (x : I5) (hx : x.ok) (hk : iOk x = false) (w : World) : Calls Try.prog 21 #[x.V] w fun e w' => e = .returned (.tuple #[.slice none 0 0, .int .i64 21]) ∧ Below w.heap.size w w' := by
  obtain ⟨h0, h1, d0, d1, s0, s1, o0, o1, m0, m1⟩ := hx
  refine rencode_no x.op x.dst x.src x.off x.imm w h0 h1 d0 d1 s0 s1 o0 o1 m0 m1 ?_
  simp [iOk] at hk
  omega
/-- What Encode left, as bytes in memory. -/
theorem enc_by {x : I5} (hx : x.ok) (hk : iOk x = true) {w' : World} {g : Nat} (hg : g < w'.heap.size) (hh : w'.heap[g]? = some (.cells (bytesV (iB x)) 5 (0, 0))) : ByL w'.heap.size w' (some ⟨g, 0, none⟩) 8 (iB x) := by
  refine ⟨rfl, By.iB hx hk, .inr ⟨g, 0, rfl, hg, fun j hj => ?_⟩⟩
  have hj' : j < (iB x).length := hj
  unfold World.cell?
  dsimp only
  rw [hh]
  simp [bytesV, List.getElem?_map, List.getElem?_eq_getElem hj', List.getD_eq_getElem?_getD]
theorem own_mono {w : World} {n m : Nat} {e : TypeId} {k j : Nat} {v : Value} {xs : List Value} (h : w.ownsRow m e k v j xs) (hn : n ≤ m) : w.ownsRow n e k v j xs :=
  ⟨h.1, h.2.imp id (fun ⟨g, cap, cur, a, b, c⟩ => ⟨g, cap, cur, a, Nat.le_trans hn b, c⟩)⟩
/-- The code's part, as far as the first k. -/
def codeTo (zs : List Int) (c : List I5) (k : Nat) : List Int := zs ++ headB c.length ++ (c.take k).flatMap iB
theorem codeTo_succ {zs : List Int} {c : List I5} {k : Nat} (hk : k < c.length) : codeTo zs c (k + 1) = codeTo zs c k ++ iB (at5 c k) := by
  unfold codeTo at5
  rw [List.take_add_one, List.getElem?_eq_getElem hk, List.flatMap_append, List.getD_eq_getElem?_getD, List.getElem?_eq_getElem hk]
  simp
theorem codeTo_zero (zs : List Int) (c : List I5) : codeTo zs c 0 = zs ++ headB c.length := by simp [codeTo]
theorem codeTo_all (zs : List Int) (c : List I5) : codeTo zs c c.length = zs ++ codeB c := by unfold codeTo codeB; rw [List.take_length, List.append_assoc]
theorem iall_take_succ {l : List I5} {k : Nat} (hk : k < l.length) (h : (l.take k).all iOk = true) (hm : iOk (at5 l k) = true) : (l.take (k + 1)).all iOk = true := by
  unfold at5 at hm
  rw [List.getD_eq_getElem?_getD, List.getElem?_eq_getElem hk] at hm
  rw [List.take_add_one, List.getElem?_eq_getElem hk, List.all_append, h]
  simpa using hm
theorem iall_at {l : List I5} {k : Nat} (hk : k < l.length) (h : l.all iOk = true) : iOk (at5 l k) = true := by
  unfold at5
  rw [List.getD_eq_getElem?_getD, List.getElem?_eq_getElem hk]
  exact List.all_eq_true.1 h _ (List.getElem_mem hk)
set_option maxHeartbeats 3200000 in
theorem putCode_ok (pc : Option Addr) (cc : Nat) (c : List I5) (n₀ : Nat) (w0 w : World) (v : Value) (n : Nat) (zs : List Int) (hO : ByO n₀ w0 w v n zs) (hn : n ≤ 1000) (h5 : c.length ≤ 512) (hc : CdSl n₀ w0 pc c.length c) (hall : c.all iOk = true) :
    Calls Try.prog 20 #[v, .slice pc c.length cc] w fun e w' => ∃ v', e = .returned (.tuple #[v', .int .i64 0]) ∧ ByO n₀ w0 w' v' (n + 2 + 8 * c.length) (zs ++ codeB c) := by
  have hcell : ∀ k, k < c.length → ∃ b off, pc = some ⟨b, off, none⟩ ∧ b < n₀ ∧ InsAt w0 b (off + k * 5) (at5 c k) := by
    intro k hk
    obtain ⟨b, off, e, hb, hc⟩ := hc.2.2.2.resolve_left (by omega)
    exact ⟨b, off, e, hb, hc k hk⟩
  have HC := hid hcell
  have HALL := hid hall
  have HOK := hid (fun k => at5_ok hc.2.1 k)
  have e1 : IntKind.u8.wrap (c.length : Int) = (c.length : Int) % 256 := IntKind.wrap_u8 _
  have e2 : IntKind.u8.wrap ((c.length : Int) / 256) = (c.length : Int) / 256 % 256 := IntKind.wrap_u8 _
  clear hcell hall hc
  go_enter Try.func20, Try.ntmps20
  go_wp2_with (at_builtin; refine app_b2 rfl (.tmp 10) (.tmp 18) rfl _ _ _ _ _ _ _ _ (by exact rfl) hO _ (by exact rfl) (by simp) (by omega) ?_; intro v1 w1 O1)
  have O1 : ByO n₀ w0 w1 v1 (n + 2) (codeTo zs c 0) := by rw [codeTo_zero]; exact O1
  go_loopw [0, 22] (fun bv i wr => ∃ k : Nat, k ≤ c.length ∧ i = .int .i64 k ∧ ByO n₀ w0 wr bv (n + 2 + 8 * k) (codeTo zs c k) ∧ Hid ((c.take k).all iOk = true)) (fun _ i _ => c.length - (intOf i).toNat)
  case atStart => exact ⟨0, Nat.zero_le _, rfl, O1, hid rfl⟩
  case round =>
    obtain ⟨k, hk, rfl, OK, HT⟩ := hrel
    by_cases hlt : k < c.length
    · have HS := hid (codeTo_succ (zs := zs) hlt)
      have HTT := hid (fun hm => iall_take_succ hlt HT.out hm)
      have hli : (k : Int) < (c.length : Int) := by omega
      obtain ⟨b, off, rfl, hb, hm0, hm1, hm2, hm3, hm4⟩ := HC.out k hlt
      have r0 := (OK.bel.cell (p := ⟨b, off + k * 5, none⟩) hb).trans hm0
      have r1 := (OK.bel.cell (p := ⟨b, off + k * 5 + 1, none⟩) hb).trans hm1
      have r2 := (OK.bel.cell (p := ⟨b, off + k * 5 + 2, none⟩) hb).trans hm2
      have r3 := (OK.bel.cell (p := ⟨b, off + k * 5 + 3, none⟩) hb).trans hm3
      have r4 := (OK.bel.cell (p := ⟨b, off + k * 5 + 4, none⟩) hb).trans hm4
      have HQ := hid (fun (h : c.all iOk = true) => iall_at hlt h)
      have hxk := HOK.out k
      clear hm0 hm1 hm2 hm3 hm4 e1 e2
      generalize at5 c k = x at *
      have HX := hid hxk
      clear hxk
      have HM := hid (HQ.out HALL.out)
      have HMM := hid (HTT.out HM.out)
      clear HQ HTT
      have HE := hid (fun W => encode_I x HX.out HM.out W)
      have HBY := hid (fun (W : World) (g : Nat) => enc_by (w' := W) (g := g) HX.out HM.out)
      generalize iB x = ys at *
      obtain ⟨p0, p1, p2, p3, p4⟩ := x
      dsimp only at r0 r1 r2 r3 r4
      go_wp2_with fail
      refine (HE.out _).mono ?_
      rintro e w2 ⟨g, rfl, b2, hg1, hg2, hblk⟩
      have O2 := (OK.alloc (.cells #[.int .u8 p0, .int .u8 p1, .int .u8 p2, .int .i16 p3, .int .i32 p4] 51)).kept b2
      have L2 := HBY.out w2 g hg2 hblk
      clear b2 hblk
      go_wp2_with (at_builtin; refine app_bl rfl (.tmp 34) (.tmp 35) rfl _ _ _ _ _ _ _ (by exact rfl) O2 _ _ _ _ (by exact rfl) L2 (by omega) ?_; intro v3 w3 O3 _)
      go_roundw
      case rel => exact ⟨k + 1, by omega, by go_num, by rw [HS.out, show n + 2 + 8 * (k + 1) = n + 2 + 8 * k + 8 by omega]; exact O3, HMM⟩
      case measure => simp [intOf]; omega
    · obtain rfl : k = c.length := by omega
      clear hlt
      rw [codeTo_all] at OK
      go_wp2
      go_ret2
      exact ⟨_, rfl, OK⟩
set_option maxHeartbeats 3200000 in
theorem putCode_no (pc : Option Addr) (cc : Nat) (c : List I5) (n₀ : Nat) (w0 w : World) (v : Value) (n : Nat) (zs : List Int) (hO : ByO n₀ w0 w v n zs) (hn : n ≤ 1000) (h5 : c.length ≤ 512) (hc : CdSl n₀ w0 pc c.length c) (hall : c.all iOk = false) :
    Calls Try.prog 20 #[v, .slice pc c.length cc] w fun e w' => e = .returned (.tuple #[.slice none 0 0, .int .i64 21]) ∧ Below n₀ w0 w' := by
  have hcell : ∀ k, k < c.length → ∃ b off, pc = some ⟨b, off, none⟩ ∧ b < n₀ ∧ InsAt w0 b (off + k * 5) (at5 c k) := by
    intro k hk
    obtain ⟨b, off, e, hb, hc⟩ := hc.2.2.2.resolve_left (by omega)
    exact ⟨b, off, e, hb, hc k hk⟩
  have HC := hid hcell
  have HALL := hid hall
  have HOK := hid (fun k => at5_ok hc.2.1 k)
  have e1 : IntKind.u8.wrap (c.length : Int) = (c.length : Int) % 256 := IntKind.wrap_u8 _
  have e2 : IntKind.u8.wrap ((c.length : Int) / 256) = (c.length : Int) / 256 % 256 := IntKind.wrap_u8 _
  clear hcell hall hc
  go_enter Try.func20, Try.ntmps20
  go_wp2_with (at_builtin; refine app_b2 rfl (.tmp 10) (.tmp 18) rfl _ _ _ _ _ _ _ _ (by exact rfl) hO _ (by exact rfl) (by simp) (by omega) ?_; intro v1 w1 O1)
  have O1 : ByO n₀ w0 w1 v1 (n + 2) (codeTo zs c 0) := by rw [codeTo_zero]; exact O1
  go_loopw [0, 22] (fun bv i wr => ∃ k : Nat, k ≤ c.length ∧ i = .int .i64 k ∧ ByO n₀ w0 wr bv (n + 2 + 8 * k) (codeTo zs c k) ∧ Hid ((c.take k).all iOk = true)) (fun _ i _ => c.length - (intOf i).toNat)
  case atStart => exact ⟨0, Nat.zero_le _, rfl, O1, hid rfl⟩
  case round =>
    obtain ⟨k, hk, rfl, OK, HT⟩ := hrel
    by_cases hlt : k < c.length
    · have HS := hid (codeTo_succ (zs := zs) hlt)
      have HTT := hid (fun hm => iall_take_succ hlt HT.out hm)
      have hli : (k : Int) < (c.length : Int) := by omega
      obtain ⟨b, off, rfl, hb, hm0, hm1, hm2, hm3, hm4⟩ := HC.out k hlt
      have r0 := (OK.bel.cell (p := ⟨b, off + k * 5, none⟩) hb).trans hm0
      have r1 := (OK.bel.cell (p := ⟨b, off + k * 5 + 1, none⟩) hb).trans hm1
      have r2 := (OK.bel.cell (p := ⟨b, off + k * 5 + 2, none⟩) hb).trans hm2
      have r3 := (OK.bel.cell (p := ⟨b, off + k * 5 + 3, none⟩) hb).trans hm3
      have r4 := (OK.bel.cell (p := ⟨b, off + k * 5 + 4, none⟩) hb).trans hm4
      have HQ := hid (fun (h : c.all iOk = true) => iall_at hlt h)
      have hxk := HOK.out k
      clear hm0 hm1 hm2 hm3 hm4 e1 e2
      generalize at5 c k = x at *
      have HX := hid hxk
      clear hxk
      cases hmk : iOk x
      · have HE := hid (fun W => encode_X x HX.out hmk W)
        clear HQ HTT HS hmk
        obtain ⟨p0, p1, p2, p3, p4⟩ := x
        dsimp only at r0 r1 r2 r3 r4
        go_wp2_with fail
        refine (HE.out _).mono ?_
        rintro e w2 ⟨rfl, b2⟩
        have O2 := (OK.alloc (.cells #[.int .u8 p0, .int .u8 p1, .int .u8 p2, .int .i16 p3, .int .i32 p4] 51)).kept b2
        clear b2
        go_wp2
        go_ret2
        exact ⟨rfl, O2.bel⟩
      · have HM := hid hmk
        have HMM := hid (HTT.out hmk)
        clear HQ HTT hmk
        have HE := hid (fun W => encode_I x HX.out HM.out W)
        have HBY := hid (fun (W : World) (g : Nat) => enc_by (w' := W) (g := g) HX.out HM.out)
        generalize iB x = ys at *
        obtain ⟨p0, p1, p2, p3, p4⟩ := x
        dsimp only at r0 r1 r2 r3 r4
        go_wp2_with fail
        refine (HE.out _).mono ?_
        rintro e w2 ⟨g, rfl, b2, hg1, hg2, hblk⟩
        have O2 := (OK.alloc (.cells #[.int .u8 p0, .int .u8 p1, .int .u8 p2, .int .i16 p3, .int .i32 p4] 51)).kept b2
        have L2 := HBY.out w2 g hg2 hblk
        clear b2 hblk
        go_wp2_with (at_builtin; refine app_bl rfl (.tmp 34) (.tmp 35) rfl _ _ _ _ _ _ _ (by exact rfl) O2 _ _ _ _ (by exact rfl) L2 (by omega) ?_; intro v3 w3 O3 _)
        go_roundw
        case rel => exact ⟨k + 1, by omega, by go_num, by rw [HS.out, show n + 2 + 8 * (k + 1) = n + 2 + 8 * k + 8 by omega]; exact O3, HMM⟩
        case measure => simp [intOf]; omega
    · exfalso
      obtain rfl : k = c.length := by omega
      have := HT.out
      rw [List.take_length, HALL.out] at this
      exact absurd this (by decide)

/-- What Encode tells: bytes of the call's own, or why there are none. -/
def EnP (w : World) (l : List M4) (c : List I5) (e : Ending) (w' : World) : Prop :=
  (encE l c = 0 ∧ ∃ v, e = .returned (.tuple #[v, .int .i64 0]) ∧ ByO w.heap.size w w' v (3 + 4 * l.length + 8 * c.length) (formB l c)) ∨
  (encE l c ≠ 0 ∧ e = .returned (.tuple #[.slice none 0 0, .int .i64 (encE l c)]) ∧ Below w.heap.size w w')
set_option maxHeartbeats 3200000 in
theorem cEncode_any (pm pc : Option Addr) (cm cc : Nat) (l : List M4) (c : List I5) (w : World) (hm : MpSl w.heap.size w pm l.length l) (hc : CdSl w.heap.size w pc c.length c) :
    Calls Try.prog 12 #[.agg #[.slice pm l.length cm, .slice pc c.length cc]] w (EnP w l c) := by
  have hB := (Below.refl w.heap.size w).alloc (Nat.le_refl _) (.cells #[.slice pm l.length cm, .slice pc c.length cc] 25)
  have hn1 : w.heap.size ≤ (w.alloc (.cells #[.slice pm l.length cm, .slice pc c.length cc] 25)).heap.size := by simp
  by_cases h4 : 4 < l.length
  · have hE : encE l c = 3 := by unfold encE; rw [if_pos h4]
    have d1 : decide (4 < l.length) = true := decide_eq_true h4
    have d2 : decide (4 < (l.length : Int)) = true := decide_eq_true (by omega)
    clear h4 hm hc
    go_enter Try.func12, Try.ntmps12
    go_wp2
    go_ret2
    exact .inr ⟨by rw [hE]; decide, ret_val (by rw [hE]; rfl), hB⟩
  have d1 : decide (4 < l.length) = false := decide_eq_false h4
  have d2 : decide (4 < (l.length : Int)) = false := decide_eq_false (by omega)
  by_cases h5 : 512 < c.length
  · have hE : encE l c = 3 := by unfold encE; rw [if_neg h4, if_pos h5]
    have d3 : decide (512 < c.length) = true := decide_eq_true h5
    have d4 : decide (512 < (c.length : Int)) = true := decide_eq_true (by omega)
    clear h4 h5 hm hc
    go_enter Try.func12, Try.ntmps12
    go_wp2
    go_ret2
    exact .inr ⟨by rw [hE]; decide, ret_val (by rw [hE]; rfl), hB⟩
  have d3 : decide (512 < c.length) = false := decide_eq_false h5
  have d4 : decide (512 < (c.length : Int)) = false := decide_eq_false (by omega)
  have hc1 := (hc.kept hB (Nat.le_refl _)).wide hn1
  have hq : (w.alloc (.cells #[.slice pm l.length cm, .slice pc c.length cc] 25)).heap.size = w.heap.size + 1 := by simp
  have k0 : (w.alloc (.cells #[.slice pm l.length cm, .slice pc c.length cc] 25)).cell? ⟨w.heap.size, 0, none⟩ = some (.slice pm l.length cm) := by simp
  have k1 : (w.alloc (.cells #[.slice pm l.length cm, .slice pc c.length cc] 25)).cell? ⟨w.heap.size, 1, none⟩ = some (.slice pc c.length cc) := by simp
  cases ha : l.all mOk
  · have hE : encE l c = 26 := by unfold encE; rw [if_neg h4, if_neg h5, if_pos ha]
    have HP := hid (putMaps_no pm cm l (w.alloc (.cells #[.slice pm l.length cm, .slice pc c.length cc] 25)) (by omega) ((hm.kept hB (Nat.le_refl _)).wide hn1) ha)
    clear h4 h5 hm hc hc1 ha k0 k1 hq
    go_enter Try.func12, Try.ntmps12
    go_wp2_with fail
    refine HP.out.mono ?_
    rintro e w1 ⟨rfl, b1⟩
    go_wp2
    go_ret2
    exact .inr ⟨by rw [hE]; decide, ret_val (by rw [hE]; rfl), hB.trans (b1.mono hn1)⟩
  have HP := hid (putMaps_ok pm cm l (w.alloc (.cells #[.slice pm l.length cm, .slice pc c.length cc] 25)) (by omega) ((hm.kept hB (Nat.le_refl _)).wide hn1) ha)
  cases hb : c.all iOk
  · have hE : encE l c = 21 := by unfold encE; rw [if_neg h4, if_neg h5, if_neg (by rw [ha]; decide), if_pos hb]
    have HC := hid (fun w1 v O => putCode_no pc cc c (w.alloc (.cells #[.slice pm l.length cm, .slice pc c.length cc] 25)).heap.size (w.alloc (.cells #[.slice pm l.length cm, .slice pc c.length cc] 25)) w1 v (1 + 4 * l.length) (mapsB l) O (by omega) (by omega) hc1 hb)
    clear hm hc hc1 ha hb
    go_enter Try.func12, Try.ntmps12
    go_wp2_with fail
    refine HP.out.mono ?_
    rintro e w1 ⟨v, rfl, O⟩
    have c1 := (O.bel.cell (p := ⟨w.heap.size, 1, none⟩) (by simp)).trans k1
    go_wp2_with fail
    refine (HC.out _ _ O).mono ?_
    rintro e w2 ⟨rfl, b2⟩
    go_wp2
    go_ret2
    exact .inr ⟨by rw [hE]; decide, ret_val (by rw [hE]; rfl), hB.trans (b2.mono hn1)⟩
  have hE : encE l c = 0 := encE_mk (by omega) (by omega) ha hb
  have HC := hid (fun w1 v O => putCode_ok pc cc c (w.alloc (.cells #[.slice pm l.length cm, .slice pc c.length cc] 25)).heap.size (w.alloc (.cells #[.slice pm l.length cm, .slice pc c.length cc] 25)) w1 v (1 + 4 * l.length) (mapsB l) O (by omega) (by omega) hc1 hb)
  clear hm hc hc1 ha hb
  go_enter Try.func12, Try.ntmps12
  go_wp2_with fail
  refine HP.out.mono ?_
  rintro e w1 ⟨v, rfl, O⟩
  have c1 := (O.bel.cell (p := ⟨w.heap.size, 1, none⟩) (by simp)).trans k1
  go_wp2_with fail
  refine (HC.out _ _ O).mono ?_
  rintro e w2 ⟨v2, rfl, O2⟩
  go_wp2
  go_ret2
  refine .inl ⟨hE, _, rfl, ⟨?_, hB.trans (O2.bel.mono hn1), Nat.le_trans hn1 O2.base⟩⟩
  have := own_mono O2.own hn1
  rwa [show 1 + 4 * l.length + 2 + 8 * c.length = 3 + 4 * l.length + 8 * c.length by omega] at this
end Go.Proofs.Ytolpgcoebmboeaa
