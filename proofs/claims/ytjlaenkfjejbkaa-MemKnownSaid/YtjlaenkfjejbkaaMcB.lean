/-
  MemBytes: the walk.
-/
import Derived.Test.YtjlaenkfjejbkaaMbW
import Derived.Test.YtjlaenkfjejbkaaMcP
import Derived.Laws.IdiomStrings
import Derived.Laws.BytesString
namespace Go.Proofs.Ytjlaenkfjejbkaa
set_option linter.unusedSimpArgs false
set_option linter.unusedVariables false
open Go.ChangeShapes Go.WideShapes Go.ChangeAt Go.RowKit

def bS (l : List Int) : ByteArray := ⟨(l.map fun x => UInt8.ofNat x.toNat).toArray⟩
/-- string(b) -/
theorem conv_b {pv : Value} {l : List Int} {W : World} (hp : BSl pv l W) (hb : ∀ x ∈ l, 0 ≤ x ∧ x < 256) : (convert 53 9 pv).run Try.prog W = .ok (.string (bS l)) W := by
  rcases hp with ⟨g, o, cap, rfl, hc, hr⟩ | ⟨⟨p, cap, rfl⟩, rfl⟩
  · have := run_convert_bytes_back (P := Try.prog) W 53 9 5 ⟨g, o, none⟩ cap (l.map fun x => UInt8.ofNat x.toNat) Try.underlying53 Try.underlying5 Try.underlying9
      (fun j hj => by
        have hj' : j < l.length := by simpa using hj
        rw [Addr.add_mid, hr j (.int .u8 l[j]) (by simp [bC, hj'])]
        have hx := hb l[j] (List.getElem_mem hj')
        have e : (((l.map fun x => UInt8.ofNat x.toNat)[j]).toNat : Int) = l[j] := by
          rw [List.getElem_map, UInt8.toNat_ofNat']
          omega
        rw [e])
    rw [List.length_map] at this
    exact this
  · cases p with
    | none =>
      show (convert 53 9 (.slice none 0 cap)).run Try.prog W = _
      rw [run_convert_bytes_string W 53 9 5 none 0 cap Try.underlying53 Try.underlying5 Try.underlying9]
      simp [Conv.bytesToString]
      rfl
    | some a => exact run_convert_bytes_back (P := Try.prog) W 53 9 5 a cap [] Try.underlying53 Try.underlying5 Try.underlying9 (fun j hj => absurd hj (Nat.not_lt_zero _))
theorem own_some {w0 w : World} {v : Value} {zs : List Int} (h : OwnB w0 w v zs) (hz : 0 < zs.length) : ∃ g cap, v = .slice (some ⟨g, 0, none⟩) zs.length cap ∧ zs.length ≤ cap ∧ w.rangeAt g 0 (bC zs) ∧ w0.heap.size ≤ g ∧ g < w.heap.size := by
  rcases h.1.2 with ⟨rfl, h0⟩ | ⟨g, cap, cur, rfl, hg, hh, hc, _⟩
  · omega
  · refine ⟨g, cap, rfl, hc, fun j u hu => ?_, hg, (h.1.lt g rfl).2⟩
    have := h.1.cells (g := g) rfl j u hu
    rwa [Addr.add_mid] at this
theorem OwnB.empty {w0 w : World} (hb : Below w0.heap.size w0 w) : OwnB w0 (w.alloc (.cells #[] 5)) (.slice (some ⟨w.heap.size, 0, none⟩) 0 0) [] :=
  ⟨⟨rfl, .inr ⟨w.heap.size, 0, #[], rfl, hb.size, heap_alloc_last w _, Nat.le_refl _, Nat.zero_le _, rfl, rfl⟩⟩, hb.alloc hb.size _⟩
/-- append(s, b...) -/
theorem append_bytes {ops : Array Oper} {rest : List Oper} {o : Oper} {a : Act} {Q : Exit → Act → World → Prop} (hgd : o.guard = none) (s x : Operand)
    (ho : o.op = .call { callee := .builtin .append, args := #[s, x], argTypes := #[53, 53] })
    (w0 w : World) (v pv : Value) (zs l : List Int) (hs : a.eval s = v) (hown : OwnB w0 w v zs) (hx : a.eval x = pv) (hp : BSl pv l w) (hn : ∀ cap, pv = .slice none 0 cap → cap = 0) (hlen : zs.length + l.length < 140737488355328)
    (h : ∀ v' w', OwnB w0 w' v' (zs ++ l) → wpList Try.prog ops Q rest (a.put o.dst v') w') : wpList Try.prog ops Q (o :: rest) a w := by
  obtain ⟨i, hi, hpp⟩ := Option.map_eq_some_iff.1 byteInfo
  injection hpp with hp1 hpp
  injection hpp with hp2 hp3
  obtain ⟨ho1, hb⟩ := hown
  have key : ∀ (ad : Addr) (c : Nat), pv = .slice (some ad) l.length c → (∀ j u, (bC l)[j]? = some u → w.cell? (ad.add j) = some u) → wpList Try.prog ops Q (o :: rest) a w := by
    rintro ad c rfl hc
    refine wpList_append_own _ hgd s x 53 ho w0.heap.size 5 i _ 1 1 Try.underlying53 hi hp1 hp2 hp3 rfl (by decide) v zs.length (bC zs) hs ho1
      ad l.length c (bC l) hx (by rw [bC_len]; omega) hc (bC_one l) (by simp only [maxLen]; omega) (by omega) hb.size ?_
    intro v' w' h1 h2 _
    refine h v' w' ⟨?_, hb.grown h2 hb.size (fun k hk => (ho1.lt k hk).1)⟩
    rw [List.length_append]
    simpa [bC] using h1
  rcases hp with ⟨g, of, cap, e, hc, hr⟩ | ⟨⟨p, cap, e⟩, rfl⟩
  · exact key ⟨g, of, none⟩ cap e (fun j u hu => by rw [Addr.add_mid]; exact hr j u hu)
  · cases p with
    | none =>
      obtain rfl := hn cap e
      refine wpList_append_own_none hgd s x 53 ho w0.heap.size 5 i 1 Try.underlying53 hi v zs.length (bC zs) hs ho1 (hx.trans e) ?_
      refine h v w ⟨?_, hb⟩
      rw [List.append_nil]
      exact ho1
    | some ad => exact key ad cap e (fun j u hu => by simp [bC] at hu)
theorem bsl_below {pv : Value} {l : List Int} {w W : World} (h : BSl pv l w) (hb : Below w.heap.size w W) : BSl pv l W := by
  rcases h with ⟨g, o, cap, e, hc, hr⟩ | h
  · refine .inl ⟨g, o, cap, e, hc, fun j v hv => ?_⟩
    have := hr j v hv
    rw [(bcell hb).1 _ _ (World.block_lt_of_cell? w _ this)]
    exact this
  · exact .inr h
theorem set_range {W : World} {B k : Nat} {zs : List Int} (y : Int) (hk : k < zs.length) (hr : W.rangeAt B 0 (bC zs)) : (W.setCell ⟨B, k, none⟩ (.int .u8 y)).rangeAt B 0 (bC (putL zs k [y])) := by
  have := put_range (i := k) (xs := [y]) (by simp; omega) hr
  simpa [bC, World.setCells] using this
theorem bsl_part {g o cap : Nat} {l m : List Int} {W : World} (hc : l.length ≤ cap) (hr : W.rangeAt g o (bC (l ++ m))) : BSl (.slice (some ⟨g, o, none⟩) l.length cap) l W :=
  .inl ⟨g, o, cap, rfl, hc, fun j u hu => hr j u (by
    unfold bC at hu ⊢
    rw [List.map_append, List.getElem?_append_left (List.getElem?_eq_some_iff.1 hu).1]
    exact hu)⟩

set_option maxRecDepth 100000 in
set_option maxHeartbeats 3200000 in
theorem memBytes_ok (pv : Value) (l : List Int) (xo xs xk xm xn xv : Int) (w : World) (hp : BSl pv l w) (hnil : ∀ cap, pv = .slice none 0 cap → cap = 0) (hb : ∀ x ∈ l, 0 ≤ x ∧ x < 256) (hl : l.length ≤ 140737488351232) (hx : AOk ⟨xo, xs, ⟨xk, xm, xn, xv⟩⟩) (hE : getE l.length xo xs = 0) :
    Calls Try.prog 5 #[pv, .agg #[.int .i64 xo, .int .i64 xs, .int .u8 xk, .int .i64 xm, .int .u64 xn, .int .i64 xv]] w fun e w' => e = .returned (.bool true) ∧ Below w.heap.size w w' := by
  have HAw := hid awake_any
  obtain ⟨⟨hxo0, hxo1⟩, _, _, _, ⟨hxn0, hxn1⟩, _⟩ := hx
  dsimp only at hxo0 hxo1 hxn0 hxn1
  have hpv : ∃ p cap, pv = .slice p l.length cap := by
    rcases hp with ⟨g, o, cap, rfl, _, _⟩ | ⟨⟨p, cap, rfl⟩, rfl⟩
    · exact ⟨_, _, rfl⟩
    · exact ⟨p, cap, rfl⟩
  obtain ⟨p, cp, rfl⟩ := hpv
  have HA0 : Below w.heap.size w (w.alloc (.cells #[.int .i64 xo, .int .i64 xs, .int .u8 xk, .int .i64 xm, .int .u64 xn, .int .i64 xv] 45)) := (Below.refl _ _).alloc (Nat.le_refl _) _
  have P0 := hid (bsl_below hp HA0)
  have hsz1 : (w.alloc (.cells #[.int .i64 xo, .int .i64 xs, .int .u8 xk, .int .i64 xm, .int .u64 xn, .int .i64 xv] 45)).heap.size = w.heap.size + 1 := by simp
  have ow0 := OwnB.empty (Below.refl _ (w.alloc (.cells #[.int .i64 xo, .int .i64 xs, .int .u8 xk, .int .i64 xm, .int .u64 xn, .int .i64 xv] 45)))
  rw [hsz1] at ow0
  have OW0 := hid ow0
  clear ow0 hsz1
  have P0' := hid (bsl_below P0.out ((Below.refl _ _).alloc (Nat.le_refl _) (.cells #[] 5)))
  have HNIL := hid hnil
  have HB := hid hb
  clear hp hnil hb
  go_enter Try.func5, Try.ntmps5
  go_wp2_with (at_builtin; first
    | (refine append_bytes rfl (.tmp 16) (.tmp 17) rfl (w.alloc (.cells #[.int .i64 xo, .int .i64 xs, .int .u8 xk, .int .i64 xm, .int .u64 xn, .int .i64 xv] 45)) _ _ _ [] l (by exact rfl) OW0.out (by exact rfl) P0'.out HNIL.out (by simp; omega) ?_; intro v1 w1 own1; have OW1 := hid own1; clear own1; rw [List.nil_append] at OW1)
    | (refine append_byte rfl (.tmp 18) (.tmp 19) rfl (w.alloc (.cells #[.int .i64 xo, .int .i64 xs, .int .u8 xk, .int .i64 xm, .int .u64 xn, .int .i64 xv] 45)) w1 _ l _ (by exact rfl) OW1.out _ (by exact rfl) rfl (by omega) ?_; intro v2 w2 own2; obtain ⟨gv, cv, rfl, hcv, hrv, hgv, hgl⟩ := own_some own2 (by simp); have OW2 := hid own2; have HRV := hid hrv; have X2 := hid (C6.first own2.2); obtain ⟨c0, c1, c2, c3, c4, c5⟩ := X2.out; clear own2 hrv; rw [List.length_append, List.length_singleton] at hcv ⊢))
  have HP2 := hid (bsl_below P0.out OW2.out.2)
  have HG2 := hid (bsl_part (Nat.le_of_succ_le hcv) HRV.out)
  have B2 := hid (below_next HA0 OW2.out.2)
  clear OW0 P0 P0' OW1 HNIL HA0
  refine (Get_any _ l xo xs w2 HG2.out HB.out (by omega) ⟨hxo0, hxo1⟩).mono ?_
  rintro e w3 ⟨rfl, rfl⟩
  go_wp2_with fail
  refine (rGet_any _ l xo xs w2 HP2.out HB.out (by omega) ⟨hxo0, hxo1⟩).mono ?_
  rintro e w3 ⟨rfl, rfl⟩
  rw [hE]
  generalize getN l xo xs = N
  go_wp2_with fail
  have hrl : w2.rangeAt gv 0 (bC l) := fun j u hu => HRV.out j u (by
    unfold bC at hu ⊢
    rw [List.map_append, List.getElem?_append_left (List.getElem?_eq_some_iff.1 hu).1]
    exact hu)
  refine (Put_ok gv 0 cv l xo xs xn w2 (Nat.le_of_succ_le hcv) hrl hl ⟨hxn0, hxn1⟩ hE).mono ?_
  rintro e w3 ⟨rfl, hr3, hz3, b3, ht3⟩
  have hlenP := (get_put (x := xn) hxn0 hE).1
  have HBP := hid (put_bd (i := xo.toNat) (x := xn) (s := xs.toNat) HB.out)
  have HP3 := hid (bsl_below HP2.out b3)
  have X3 := hid (X2.out.next b3)
  have hlen0 : 0 < l.length := by
    obtain ⟨hs, _, _⟩ := getE_ok hE
    rcases size_cases hs with h | h | h | h <;> omega
  have hbs : ∃ g o, p = some ⟨g, o, none⟩ ∧ w3.rangeAt g o (bC l) := by
    rcases HP3.out with ⟨g, o, c, e, _, hr⟩ | ⟨_, h⟩
    · injection e with e1 _ _
      exact ⟨g, o, e1, hr⟩
    · rw [h] at hlen0
      exact absurd hlen0 (by decide)
  obtain ⟨g, o, rfl, hrg⟩ := hbs
  have HRP := hid (rPut_ok g o cp l xo xs xn w3 hrg hl ⟨hxn0, hxn1⟩ HB.out hE)
  generalize putL l xo.toNat (layL xn xs.toNat) = P at hr3 hlenP HBP HRP
  have HC3 : Hid (BSl (.slice (some ⟨w2.heap.size, 0, none⟩) l.length l.length) P w3) := hid (.inl ⟨_, 0, _, by rw [hlenP], by omega, hr3⟩)
  have HT3 := hid ht3
  have B3 := hid b3
  have HR3 := hid hr3
  clear hr3 ht3 b3 hrg hrl c0 c1 c2 c3 c4 c5
  obtain ⟨c0, c1, c2, c3, c4, c5⟩ := X3.out
  go_wp2_with fail
  refine HRP.out.mono ?_
  rintro e w4 ⟨v4, rfl, own4⟩
  have B4 := hid own4.2
  have hz4 := own4.2.size
  have HC4 := hid (bsl_below HC3.out B4.out)
  have HG4 := hid (bsl_below HG2.out (below_next B3.out B4.out))
  have HP4 := hid (bsl_below HP3.out B4.out)
  have F1 := conv_b HC4.out HBP.out
  have F2 := conv_b own4.bsl HBP.out
  have F3 := conv_b HG4.out HB.out
  have F4 := conv_b HP4.out HB.out
  have k77 : w4.cell? ⟨gv, l.length, none⟩ = some (.int .u8 77) := by
    have := HRV.out l.length (.int .u8 77) (by simp [bC])
    rw [Nat.zero_add] at this
    rw [(bcell (below_next B3.out B4.out)).1 _ _ hgl]
    exact this
  obtain ⟨pd, ld, cd, rfl⟩ : ∃ pd ld cd, v4 = .slice pd ld cd := by
    rcases own4.bsl with ⟨g, o, c, e, _, _⟩ | ⟨⟨p, c, e⟩, _⟩
    · exact ⟨_, _, _, e⟩
    · exact ⟨_, _, _, e⟩
  have R4 := hid (range_below HR3.out hz3 (bcell B4.out).1)
  have T4 := hid (there_below HT3.out hz3 (bcell B4.out).1 (bcell B4.out).2)
  clear own4 HC3 HC4 HP3 HR3 HT3 HRP X3 c0 c1 c2 c3 c4 c5
  go_wp2_with fail
  generalize hBc : w2.heap.size = Bc at *
  go_loopw [104] (fun i w' => ∃ (k : Nat) (zs : List Int), k ≤ l.length ∧ i = .int .i64 k ∧ zs.length = l.length ∧ Hid (w'.rangeAt Bc 0 (bC zs)) ∧ Hid (w'.there Bc 0 l.length) ∧ Hid (Below Bc w4 w')) (fun i _ => l.length - (intOf i).toNat)
  case atStart => exact ⟨0, P, Nat.zero_le _, rfl, hlenP, R4, T4, hid (Below.refl _ _)⟩
  case round =>
    obtain ⟨k, zs, hk, rfl, hzl, HZ, HT, HBB⟩ := hrel
    by_cases hlt : k < l.length
    · have hcell : wr.cell? ⟨Bc, k, none⟩ = some (.int .u8 zs[k]) := by
        have := HZ.out k (.int .u8 zs[k]) (by simp [bC, hzl, hlt])
        rwa [Nat.zero_add] at this
      have hfr : wr.frozen? ⟨Bc, k, none⟩ = false := by
        have := (HT.out k hlt).2
        rwa [Nat.zero_add] at this
      generalize zs[k] = z at hcell
      clear F1 F2 F3 F4 k77
      go_wp2
      go_roundw
      case rel => exact ⟨k + 1, putL zs k [_], by omega, by go_num, by rw [putL_len (by simp; omega)]; exact hzl, hid (set_range _ (by omega) HZ.out), hid (World.there_setCells HT.out Bc k [_]), hid (below_setCells Bc (Nat.le_refl _) [_] k _ HBB.out)⟩
      case measure => simp [intOf]; omega
    · clear F1 F2 F3 F4 k77
      go_wp2_with fail
      refine (HAw.out _).mono ?_
      rintro e w7 ⟨rfl, b7⟩
      have hz4' := HBB.out.size
      have HT7 : Below w2.heap.size w2 w7 := by
        rw [hBc]
        have b3' := B3.out
        exact (b3'.trans ((B4.out.mono (Nat.le_of_lt hz3)).trans HBB.out)).trans (b7.mono (Nat.le_trans (Nat.le_of_lt hz3) (Nat.le_trans hz4 hz4')))
      have F5 := conv_b (bsl_below HG2.out HT7) HB.out
      have F6 := conv_b (bsl_below HP2.out HT7) HB.out
      have hfin := B2.out.trans (HT7.mono B2.out.size)
      clear b7
      go_wp2
      go_ret
      exact ⟨rfl, hfin⟩

set_option maxRecDepth 100000 in
set_option maxHeartbeats 3200000 in
theorem memBytes_bad (pv : Value) (l : List Int) (xo xs xk xm xn xv : Int) (w : World) (hp : BSl pv l w) (hnil : ∀ cap, pv = .slice none 0 cap → cap = 0) (hb : ∀ x ∈ l, 0 ≤ x ∧ x < 256) (hl : l.length ≤ 140737488351232) (hx : AOk ⟨xo, xs, ⟨xk, xm, xn, xv⟩⟩) (hE : getE l.length xo xs ≠ 0) :
    Calls Try.prog 5 #[pv, .agg #[.int .i64 xo, .int .i64 xs, .int .u8 xk, .int .i64 xm, .int .u64 xn, .int .i64 xv]] w fun e w' => e = .returned (.bool true) ∧ Below w.heap.size w w' := by
  have HAw := hid awake_any
  obtain ⟨⟨hxo0, hxo1⟩, _, _, _, ⟨hxn0, hxn1⟩, _⟩ := hx
  dsimp only at hxo0 hxo1 hxn0 hxn1
  have hpv : ∃ p cap, pv = .slice p l.length cap := by
    rcases hp with ⟨g, o, cap, rfl, _, _⟩ | ⟨⟨p, cap, rfl⟩, rfl⟩
    · exact ⟨_, _, rfl⟩
    · exact ⟨p, cap, rfl⟩
  obtain ⟨p, cp, rfl⟩ := hpv
  have HA0 : Below w.heap.size w (w.alloc (.cells #[.int .i64 xo, .int .i64 xs, .int .u8 xk, .int .i64 xm, .int .u64 xn, .int .i64 xv] 45)) := (Below.refl _ _).alloc (Nat.le_refl _) _
  have P0 := hid (bsl_below hp HA0)
  have hsz1 : (w.alloc (.cells #[.int .i64 xo, .int .i64 xs, .int .u8 xk, .int .i64 xm, .int .u64 xn, .int .i64 xv] 45)).heap.size = w.heap.size + 1 := by simp
  have ow0 := OwnB.empty (Below.refl _ (w.alloc (.cells #[.int .i64 xo, .int .i64 xs, .int .u8 xk, .int .i64 xm, .int .u64 xn, .int .i64 xv] 45)))
  rw [hsz1] at ow0
  have OW0 := hid ow0
  clear ow0 hsz1
  have P0' := hid (bsl_below P0.out ((Below.refl _ _).alloc (Nat.le_refl _) (.cells #[] 5)))
  have HNIL := hid hnil
  have HB := hid hb
  clear hp hnil hb
  go_enter Try.func5, Try.ntmps5
  go_wp2_with (at_builtin; first
    | (refine append_bytes rfl (.tmp 16) (.tmp 17) rfl (w.alloc (.cells #[.int .i64 xo, .int .i64 xs, .int .u8 xk, .int .i64 xm, .int .u64 xn, .int .i64 xv] 45)) _ _ _ [] l (by exact rfl) OW0.out (by exact rfl) P0'.out HNIL.out (by simp; omega) ?_; intro v1 w1 own1; have OW1 := hid own1; clear own1; rw [List.nil_append] at OW1)
    | (refine append_byte rfl (.tmp 18) (.tmp 19) rfl (w.alloc (.cells #[.int .i64 xo, .int .i64 xs, .int .u8 xk, .int .i64 xm, .int .u64 xn, .int .i64 xv] 45)) w1 _ l _ (by exact rfl) OW1.out _ (by exact rfl) rfl (by omega) ?_; intro v2 w2 own2; obtain ⟨gv, cv, rfl, hcv, hrv, hgv, hgl⟩ := own_some own2 (by simp); have OW2 := hid own2; have HRV := hid hrv; have X2 := hid (C6.first own2.2); obtain ⟨c0, c1, c2, c3, c4, c5⟩ := X2.out; clear own2 hrv; rw [List.length_append, List.length_singleton] at hcv ⊢))
  have HP2 := hid (bsl_below P0.out OW2.out.2)
  have HG2 := hid (bsl_part (Nat.le_of_succ_le hcv) HRV.out)
  have B2 := hid (below_next HA0 OW2.out.2)
  clear OW0 P0 P0' OW1 HNIL HA0
  refine (Get_any _ l xo xs w2 HG2.out HB.out (by omega) ⟨hxo0, hxo1⟩).mono ?_
  rintro e w3 ⟨rfl, rfl⟩
  go_wp2_with fail
  refine (rGet_any _ l xo xs w2 HP2.out HB.out (by omega) ⟨hxo0, hxo1⟩).mono ?_
  rintro e w3 ⟨rfl, rfl⟩
  have HPB := hid (fun p cap => Put_bad p l.length cap xo xs xn w2 (by omega) ⟨hxo0, hxo1⟩ hE)
  have HRB := hid (fun p cap => rPut_bad p l.length cap xo xs xn w2 (by omega) ⟨hxo0, hxo1⟩ hE)
  generalize getE l.length xo xs = E at HPB HRB ⊢
  generalize getN l xo xs = N
  clear hE
  go_wp2_with fail
  refine (HPB.out _ _).mono ?_
  rintro e w3 ⟨rfl, rfl⟩
  go_wp2_with fail
  refine (HRB.out _ _).mono ?_
  rintro e w3 ⟨rfl, rfl⟩
  have F1 := conv_b (pv := .slice none 0 0) (l := []) (W := w2) (.inr ⟨⟨none, 0, rfl⟩, rfl⟩) (by simp)
  have F3 := conv_b HG2.out HB.out
  have F4 := conv_b HP2.out HB.out
  have k77 : w2.cell? ⟨gv, l.length, none⟩ = some (.int .u8 77) := by
    have := HRV.out l.length (.int .u8 77) (by simp [bC])
    rwa [Nat.zero_add] at this
  go_wp2_with fail
  go_loop [104] (fun i => i = .int .i64 0) (fun _ => 0)
  case atStart => exact rfl
  case round =>
    obtain rfl := hrel
    clear F1 F3 F4 k77
    go_wp2_with fail
    refine (HAw.out _).mono ?_
    rintro e w7 ⟨rfl, b7⟩
    have F5 := conv_b (bsl_below HG2.out b7) HB.out
    have F6 := conv_b (bsl_below HP2.out b7) HB.out
    have hfin := below_next_w B2.out b7 B2.out.size
    clear b7
    go_wp2
    go_ret
    exact ⟨rfl, hfin⟩

theorem memBytes_walk (pv : Value) (l : List Int) (xo xs xk xm xn xv : Int) (w : World) (hp : BSl pv l w) (hnil : ∀ cap, pv = .slice none 0 cap → cap = 0) (hb : ∀ x ∈ l, 0 ≤ x ∧ x < 256) (hl : l.length ≤ 140737488351232) (hx : AOk ⟨xo, xs, ⟨xk, xm, xn, xv⟩⟩) :
    Calls Try.prog 5 #[pv, .agg #[.int .i64 xo, .int .i64 xs, .int .u8 xk, .int .i64 xm, .int .u64 xn, .int .i64 xv]] w fun e w' => e = .returned (.bool true) ∧ Below w.heap.size w w' := by
  by_cases hE : getE l.length xo xs = 0
  · exact memBytes_ok pv l xo xs xk xm xn xv w hp hnil hb hl hx hE
  · exact memBytes_bad pv l xo xs xk xm xn xv w hp hnil hb hl hx hE

end Go.Proofs.Ytjlaenkfjejbkaa
