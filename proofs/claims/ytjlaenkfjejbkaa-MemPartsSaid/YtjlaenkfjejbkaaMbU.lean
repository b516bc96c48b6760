/-
  MemParts: the walk.
-/
import Derived.Test.YtjlaenkfjejbkaaMbW
import Derived.Test.YtjlaenkfjejbkaaMbT
namespace Go.Proofs.Ytjlaenkfjejbkaa
set_option linter.unusedSimpArgs false
set_option linter.unusedVariables false
open Go.ChangeShapes Go.WideShapes Go.ChangeAt Go.RowKit

theorem BSl.below {pv : Value} {l : List Int} {w W : World} (h : BSl pv l w) (hb : Below w.heap.size w W) : BSl pv l W := by
  rcases h with ⟨g, o, cap, e, hc, hr⟩ | h
  · refine .inl ⟨g, o, cap, e, hc, fun j v hv => ?_⟩
    have := hr j v hv
    rw [(bcell hb).1 _ _ (World.block_lt_of_cell? w _ this)]
    exact this
  · exact .inr h

theorem half1 {l : List Int} {off : Int} (hb : ∀ x ∈ l, 0 ≤ x ∧ x < 256) (h : getE l.length off 2 = 0) : getE l.length off 1 = 0 ∧ getE l.length (off + 1) 1 = 0 ∧ bits .or .u64 (getN l off 1) (IntKind.u64.wrap (getN l (off + 1) 1 * 256)) = getN l off 2 := by
  have k := getN_half (H := 1) hb (by decide) h
  refine ⟨k.1, k.2.1, ?_⟩
  rw [show (256 : Int) = 2 ^ (8 * 1) from rfl]
  exact k.2.2
theorem half2 {l : List Int} {off : Int} (hb : ∀ x ∈ l, 0 ≤ x ∧ x < 256) (h : getE l.length off 4 = 0) : getE l.length off 2 = 0 ∧ getE l.length (off + 2) 2 = 0 ∧ bits .or .u64 (getN l off 2) (IntKind.u64.wrap (getN l (off + 2) 2 * 65536)) = getN l off 4 := by
  have k := getN_half (H := 2) hb (by decide) h
  refine ⟨k.1, k.2.1, ?_⟩
  rw [show (65536 : Int) = 2 ^ (8 * 2) from rfl]
  exact k.2.2
theorem half4 {l : List Int} {off : Int} (hb : ∀ x ∈ l, 0 ≤ x ∧ x < 256) (h : getE l.length off 8 = 0) : getE l.length off 4 = 0 ∧ getE l.length (off + 4) 4 = 0 ∧ bits .or .u64 (getN l off 4) (IntKind.u64.wrap (getN l (off + 4) 4 * 4294967296)) = getN l off 8 := by
  have k := getN_half (H := 4) hb (by decide) h
  refine ⟨k.1, k.2.1, ?_⟩
  rw [show (4294967296 : Int) = 2 ^ (8 * 4) from rfl]
  exact k.2.2

set_option maxRecDepth 100000 in
set_option maxHeartbeats 3200000 in
theorem memParts_walk (pv : Value) (l : List Int) (xo xs xk xm xn xv ot : Int) (w : World) (hp : BSl pv l w) (hb : ∀ x ∈ l, 0 ≤ x ∧ x < 256) (hl : l.length ≤ 140737488351232) (hx : AOk ⟨xo, xs, ⟨xk, xm, xn, xv⟩⟩) (hot : -9223372036854775808 ≤ ot ∧ ot < 9223372036854775808) :
    Calls Try.prog 8 #[pv, .agg #[.int .i64 xo, .int .i64 xs, .int .u8 xk, .int .i64 xm, .int .u64 xn, .int .i64 xv], .int .i64 ot] w fun e w' => e = .returned (.bool true) ∧ Below w.heap.size w w' := by
  have HAw := hid awake_any
  obtain ⟨⟨hxo0, hxo1⟩, _, _, _, ⟨hxn0, hxn1⟩, _⟩ := hx
  dsimp only at hxo0 hxo1 hxn0 hxn1
  have HP := hid hp
  clear hp
  go_enter Try.func8, Try.ntmps8
  go_wp2_with fail
  refine (HAw.out _).mono ?_
  rintro e w1 ⟨rfl, b1⟩
  have X1 := hid (C6.first b1)
  have B1 := hid (((Below.refl w.heap.size w).alloc (Nat.le_refl _) _).trans (b1.mono (by simp)))
  have P1 := hid (HP.out.below B1.out)
  clear b1 HAw HP
  obtain ⟨c0, c1, c2, c3, c4, c5⟩ := X1.out
  have HG := hid (Get_any pv l xo xs w1 P1.out hb (by omega) ⟨hxo0, hxo1⟩)
  have hcs := getE_cases l.length xo xs
  by_cases hE : getE l.length xo xs = 0
  · obtain ⟨hs, hxo2, hxo3⟩ := getE_ok hE
    have hlen0 : 0 < l.length := by rcases size_cases hs with h | h | h | h <;> omega
    have hbs : ∃ g o cap, pv = .slice (some ⟨g, o, none⟩) l.length cap ∧ l.length ≤ cap ∧ w1.rangeAt g o (bC l) := by
      rcases P1.out with h | ⟨_, h⟩
      · exact h
      · rw [h] at hlen0
        exact absurd hlen0 (by decide)
    obtain ⟨g, o, cap, rfl, hcap, hr⟩ := hbs
    have HR := hid hr
    rw [hE] at HG
    clear hcs hr
    rcases size_cases hs with rfl | rfl | rfl | rfl
    · generalize hN : getN l xo 1 = N at HG
      clear hs
      go_wp2_with fail
      refine HG.out.mono ?_
      rintro e w2 ⟨rfl, rfl⟩
      clear HG
      have hP := Put_ok g o cap l xo _ xn w1 hcap HR.out hl ⟨hxn0, hxn1⟩ hE
      go_wp2_with fail
      refine hP.mono ?_
      rintro e w3 ⟨rfl, hr3, hz3, b3⟩
      clear hP
      have HR3 := hid hr3
      have b3q := hid b3
      have B3 := hid (below_next_w B1.out b3 B1.out.size)
      have X3 := hid (X1.out.next b3)
      have hgp := get_put (x := xn) hxn0 hE
      have hbp := put_bd (i := xo.toNat) (x := xn) (s := 1) hb
      have hoth := fun j => @put_other l xo 1 xn j hE
      simp only [Int.toNat_natCast, Int.reduceToNat] at hgp hbp hoth HR3
      generalize putL l xo.toNat (layL xn 1) = l2 at HR3 hgp hbp hoth
      obtain ⟨hlen, hget⟩ := hgp
      have hG2 := Get_any (.slice (some ⟨w1.heap.size, 0, none⟩) l2.length l.length) l2 xo 1 w3 (.inl ⟨_, 0, _, rfl, by omega, HR3.out⟩) hbp (by omega) ⟨by omega, by omega⟩
      rw [hlen, hE, hget] at hG2
      have HCt := hid (fun W => cut_any xn 1 W hxn0 hxn1 rfl)
      simp only [Int.reduceToNat] at hG2 HCt
      generalize xn % 256 ^ 1 = y at hG2 HCt
      have HG2 := hid hG2
      clear hr3 c0 c1 c2 c3 c4 c5
      obtain ⟨c0, c1, c2, c3, c4, c5⟩ := X3.out
      go_wp2_with fail
      refine HG2.out.mono ?_
      rintro e w4 ⟨rfl, rfl⟩
      by_cases h0 : ot < 0
      · have d0 : decide (ot < 0) = true := decide_eq_true h0
        go_wp2_with (go_at_call 27; refine (HCt.out _).mono ?_; rintro e w9 ⟨rfl, rfl⟩)
        go_ret
        exact ⟨rfl, B3.out⟩
      · have d0 : decide (ot < 0) = false := decide_eq_false h0
        by_cases h1 : (l.length : Int) ≤ ot
        · have d1 : decide ((l.length : Int) ≤ ot) = true := decide_eq_true h1
          go_wp2_with (go_at_call 27; refine (HCt.out _).mono ?_; rintro e w9 ⟨rfl, rfl⟩)
          go_ret
          exact ⟨rfl, B3.out⟩
        · have d1 : decide ((l.length : Int) ≤ ot) = false := decide_eq_false h1
          by_cases h2 : xo ≤ ot
          · have d2 : decide (xo ≤ ot) = true := decide_eq_true h2
            by_cases h3 : ot < xo + 1
            · have d3 : decide (ot < xo + 1) = true := decide_eq_true h3
              go_wp2_with (go_at_call 27; refine (HCt.out _).mono ?_; rintro e w9 ⟨rfl, rfl⟩)
              go_ret
              exact ⟨rfl, B3.out⟩
            · have d3 : decide (ot < xo + 1) = false := decide_eq_false h3
              obtain ⟨j, rfl⟩ : ∃ j : Nat, ot = j := ⟨ot.toNat, by omega⟩
              have hj : j < l.length := by omega
              have hjj := hoth j hj (by omega)
              have k1 : w3.cell? ⟨w1.heap.size, j, none⟩ = some (.int .u8 l[j]) := by have := HR3.out j (.int .u8 l[j]) (by simp only [bC, List.getElem?_map, hjj]; simp [hj]); rwa [Nat.zero_add] at this
              have k2 : w3.cell? ⟨g, o + j, none⟩ = some (.int .u8 l[j]) := by have := HR.out j (.int .u8 l[j]) (by simp [bC, hj]); rw [(bcell b3q.out).1 _ _ (World.block_lt_of_cell? w1 _ this)]; exact this
              generalize l[j] = z at k1 k2
              clear hoth hjj
              go_wp2_with (go_at_call 27; refine (HCt.out _).mono ?_; rintro e w9 ⟨rfl, rfl⟩)
              go_quiet (fail)
              go_wp2
              go_ret
              exact ⟨rfl, B3.out.trans (below_drewN _ _ _)⟩
          · have d2 : decide (xo ≤ ot) = false := decide_eq_false h2
            obtain ⟨j, rfl⟩ : ∃ j : Nat, ot = j := ⟨ot.toNat, by omega⟩
            have hj : j < l.length := by omega
            have hjj := hoth j hj (by omega)
            have k1 : w3.cell? ⟨w1.heap.size, j, none⟩ = some (.int .u8 l[j]) := by have := HR3.out j (.int .u8 l[j]) (by simp only [bC, List.getElem?_map, hjj]; simp [hj]); rwa [Nat.zero_add] at this
            have k2 : w3.cell? ⟨g, o + j, none⟩ = some (.int .u8 l[j]) := by have := HR.out j (.int .u8 l[j]) (by simp [bC, hj]); rw [(bcell b3q.out).1 _ _ (World.block_lt_of_cell? w1 _ this)]; exact this
            generalize l[j] = z at k1 k2
            clear hoth hjj
            go_wp2_with (go_at_call 27; refine (HCt.out _).mono ?_; rintro e w9 ⟨rfl, rfl⟩)
            go_quiet (fail)
            go_wp2
            go_ret
            exact ⟨rfl, B3.out.trans (below_drewN _ _ _)⟩
    · generalize hN : getN l xo 2 = N at HG
      clear hs
      go_wp2_with fail
      refine HG.out.mono ?_
      rintro e w2 ⟨rfl, rfl⟩
      clear HG
      obtain ⟨e1, e2, e3⟩ := half1 hb hE
      have HGl := hid (Get_any _ l xo 1 w1 P1.out hb (by omega) ⟨by omega, by omega⟩)
      have HGh := hid (Get_any _ l (xo + 1) 1 w1 P1.out hb (by omega) ⟨by omega, by omega⟩)
      rw [e1] at HGl
      rw [e2] at HGh
      generalize getN l xo 1 = lo at HGl e3
      generalize getN l (xo + 1) 1 = hi at HGh e3
      rw [hN] at e3
      go_wp2_with fail
      refine HGl.out.mono ?_
      rintro e w2 ⟨rfl, rfl⟩
      go_wp2_with fail
      refine HGh.out.mono ?_
      rintro e w2 ⟨rfl, rfl⟩
      clear HGl HGh e1 e2
      have hP := Put_ok g o cap l xo _ xn w1 hcap HR.out hl ⟨hxn0, hxn1⟩ hE
      go_wp2_with fail
      refine hP.mono ?_
      rintro e w3 ⟨rfl, hr3, hz3, b3⟩
      clear hP
      have HR3 := hid hr3
      have b3q := hid b3
      have B3 := hid (below_next_w B1.out b3 B1.out.size)
      have X3 := hid (X1.out.next b3)
      have hgp := get_put (x := xn) hxn0 hE
      have hbp := put_bd (i := xo.toNat) (x := xn) (s := 2) hb
      have hoth := fun j => @put_other l xo 2 xn j hE
      simp only [Int.toNat_natCast, Int.reduceToNat] at hgp hbp hoth HR3
      generalize putL l xo.toNat (layL xn 2) = l2 at HR3 hgp hbp hoth
      obtain ⟨hlen, hget⟩ := hgp
      have hG2 := Get_any (.slice (some ⟨w1.heap.size, 0, none⟩) l2.length l.length) l2 xo 2 w3 (.inl ⟨_, 0, _, rfl, by omega, HR3.out⟩) hbp (by omega) ⟨by omega, by omega⟩
      rw [hlen, hE, hget] at hG2
      have HCt := hid (fun W => cut_any xn 2 W hxn0 hxn1 rfl)
      simp only [Int.reduceToNat] at hG2 HCt
      generalize xn % 256 ^ 2 = y at hG2 HCt
      have HG2 := hid hG2
      clear hr3 c0 c1 c2 c3 c4 c5
      obtain ⟨c0, c1, c2, c3, c4, c5⟩ := X3.out
      go_wp2_with fail
      refine HG2.out.mono ?_
      rintro e w4 ⟨rfl, rfl⟩
      by_cases h0 : ot < 0
      · have d0 : decide (ot < 0) = true := decide_eq_true h0
        go_wp2_with (go_at_call 27; refine (HCt.out _).mono ?_; rintro e w9 ⟨rfl, rfl⟩)
        go_ret
        exact ⟨rfl, B3.out⟩
      · have d0 : decide (ot < 0) = false := decide_eq_false h0
        by_cases h1 : (l.length : Int) ≤ ot
        · have d1 : decide ((l.length : Int) ≤ ot) = true := decide_eq_true h1
          go_wp2_with (go_at_call 27; refine (HCt.out _).mono ?_; rintro e w9 ⟨rfl, rfl⟩)
          go_ret
          exact ⟨rfl, B3.out⟩
        · have d1 : decide ((l.length : Int) ≤ ot) = false := decide_eq_false h1
          by_cases h2 : xo ≤ ot
          · have d2 : decide (xo ≤ ot) = true := decide_eq_true h2
            by_cases h3 : ot < xo + 2
            · have d3 : decide (ot < xo + 2) = true := decide_eq_true h3
              go_wp2_with (go_at_call 27; refine (HCt.out _).mono ?_; rintro e w9 ⟨rfl, rfl⟩)
              go_ret
              exact ⟨rfl, B3.out⟩
            · have d3 : decide (ot < xo + 2) = false := decide_eq_false h3
              obtain ⟨j, rfl⟩ : ∃ j : Nat, ot = j := ⟨ot.toNat, by omega⟩
              have hj : j < l.length := by omega
              have hjj := hoth j hj (by omega)
              have k1 : w3.cell? ⟨w1.heap.size, j, none⟩ = some (.int .u8 l[j]) := by have := HR3.out j (.int .u8 l[j]) (by simp only [bC, List.getElem?_map, hjj]; simp [hj]); rwa [Nat.zero_add] at this
              have k2 : w3.cell? ⟨g, o + j, none⟩ = some (.int .u8 l[j]) := by have := HR.out j (.int .u8 l[j]) (by simp [bC, hj]); rw [(bcell b3q.out).1 _ _ (World.block_lt_of_cell? w1 _ this)]; exact this
              generalize l[j] = z at k1 k2
              clear hoth hjj
              go_wp2_with (go_at_call 27; refine (HCt.out _).mono ?_; rintro e w9 ⟨rfl, rfl⟩)
              go_quiet (fail)
              go_wp2
              go_ret
              exact ⟨rfl, B3.out.trans (below_drewN _ _ _)⟩
          · have d2 : decide (xo ≤ ot) = false := decide_eq_false h2
            obtain ⟨j, rfl⟩ : ∃ j : Nat, ot = j := ⟨ot.toNat, by omega⟩
            have hj : j < l.length := by omega
            have hjj := hoth j hj (by omega)
            have k1 : w3.cell? ⟨w1.heap.size, j, none⟩ = some (.int .u8 l[j]) := by have := HR3.out j (.int .u8 l[j]) (by simp only [bC, List.getElem?_map, hjj]; simp [hj]); rwa [Nat.zero_add] at this
            have k2 : w3.cell? ⟨g, o + j, none⟩ = some (.int .u8 l[j]) := by have := HR.out j (.int .u8 l[j]) (by simp [bC, hj]); rw [(bcell b3q.out).1 _ _ (World.block_lt_of_cell? w1 _ this)]; exact this
            generalize l[j] = z at k1 k2
            clear hoth hjj
            go_wp2_with (go_at_call 27; refine (HCt.out _).mono ?_; rintro e w9 ⟨rfl, rfl⟩)
            go_quiet (fail)
            go_wp2
            go_ret
            exact ⟨rfl, B3.out.trans (below_drewN _ _ _)⟩
    · generalize hN : getN l xo 4 = N at HG
      clear hs
      go_wp2_with fail
      refine HG.out.mono ?_
      rintro e w2 ⟨rfl, rfl⟩
      clear HG
      obtain ⟨e1, e2, e3⟩ := half2 hb hE
      have HGl := hid (Get_any _ l xo 2 w1 P1.out hb (by omega) ⟨by omega, by omega⟩)
      have HGh := hid (Get_any _ l (xo + 2) 2 w1 P1.out hb (by omega) ⟨by omega, by omega⟩)
      rw [e1] at HGl
      rw [e2] at HGh
      generalize getN l xo 2 = lo at HGl e3
      generalize getN l (xo + 2) 2 = hi at HGh e3
      rw [hN] at e3
      go_wp2_with fail
      refine HGl.out.mono ?_
      rintro e w2 ⟨rfl, rfl⟩
      go_wp2_with fail
      refine HGh.out.mono ?_
      rintro e w2 ⟨rfl, rfl⟩
      clear HGl HGh e1 e2
      have hP := Put_ok g o cap l xo _ xn w1 hcap HR.out hl ⟨hxn0, hxn1⟩ hE
      go_wp2_with fail
      refine hP.mono ?_
      rintro e w3 ⟨rfl, hr3, hz3, b3⟩
      clear hP
      have HR3 := hid hr3
      have b3q := hid b3
      have B3 := hid (below_next_w B1.out b3 B1.out.size)
      have X3 := hid (X1.out.next b3)
      have hgp := get_put (x := xn) hxn0 hE
      have hbp := put_bd (i := xo.toNat) (x := xn) (s := 4) hb
      have hoth := fun j => @put_other l xo 4 xn j hE
      simp only [Int.toNat_natCast, Int.reduceToNat] at hgp hbp hoth HR3
      generalize putL l xo.toNat (layL xn 4) = l2 at HR3 hgp hbp hoth
      obtain ⟨hlen, hget⟩ := hgp
      have hG2 := Get_any (.slice (some ⟨w1.heap.size, 0, none⟩) l2.length l.length) l2 xo 4 w3 (.inl ⟨_, 0, _, rfl, by omega, HR3.out⟩) hbp (by omega) ⟨by omega, by omega⟩
      rw [hlen, hE, hget] at hG2
      have HCt := hid (fun W => cut_any xn 4 W hxn0 hxn1 rfl)
      simp only [Int.reduceToNat] at hG2 HCt
      generalize xn % 256 ^ 4 = y at hG2 HCt
      have HG2 := hid hG2
      clear hr3 c0 c1 c2 c3 c4 c5
      obtain ⟨c0, c1, c2, c3, c4, c5⟩ := X3.out
      go_wp2_with fail
      refine HG2.out.mono ?_
      rintro e w4 ⟨rfl, rfl⟩
      by_cases h0 : ot < 0
      · have d0 : decide (ot < 0) = true := decide_eq_true h0
        go_wp2_with (go_at_call 27; refine (HCt.out _).mono ?_; rintro e w9 ⟨rfl, rfl⟩)
        go_ret
        exact ⟨rfl, B3.out⟩
      · have d0 : decide (ot < 0) = false := decide_eq_false h0
        by_cases h1 : (l.length : Int) ≤ ot
        · have d1 : decide ((l.length : Int) ≤ ot) = true := decide_eq_true h1
          go_wp2_with (go_at_call 27; refine (HCt.out _).mono ?_; rintro e w9 ⟨rfl, rfl⟩)
          go_ret
          exact ⟨rfl, B3.out⟩
        · have d1 : decide ((l.length : Int) ≤ ot) = false := decide_eq_false h1
          by_cases h2 : xo ≤ ot
          · have d2 : decide (xo ≤ ot) = true := decide_eq_true h2
            by_cases h3 : ot < xo + 4
            · have d3 : decide (ot < xo + 4) = true := decide_eq_true h3
              go_wp2_with (go_at_call 27; refine (HCt.out _).mono ?_; rintro e w9 ⟨rfl, rfl⟩)
              go_ret
              exact ⟨rfl, B3.out⟩
            · have d3 : decide (ot < xo + 4) = false := decide_eq_false h3
              obtain ⟨j, rfl⟩ : ∃ j : Nat, ot = j := ⟨ot.toNat, by omega⟩
              have hj : j < l.length := by omega
              have hjj := hoth j hj (by omega)
              have k1 : w3.cell? ⟨w1.heap.size, j, none⟩ = some (.int .u8 l[j]) := by have := HR3.out j (.int .u8 l[j]) (by simp only [bC, List.getElem?_map, hjj]; simp [hj]); rwa [Nat.zero_add] at this
              have k2 : w3.cell? ⟨g, o + j, none⟩ = some (.int .u8 l[j]) := by have := HR.out j (.int .u8 l[j]) (by simp [bC, hj]); rw [(bcell b3q.out).1 _ _ (World.block_lt_of_cell? w1 _ this)]; exact this
              generalize l[j] = z at k1 k2
              clear hoth hjj
              go_wp2_with (go_at_call 27; refine (HCt.out _).mono ?_; rintro e w9 ⟨rfl, rfl⟩)
              go_quiet (fail)
              go_wp2
              go_ret
              exact ⟨rfl, B3.out.trans (below_drewN _ _ _)⟩
          · have d2 : decide (xo ≤ ot) = false := decide_eq_false h2
            obtain ⟨j, rfl⟩ : ∃ j : Nat, ot = j := ⟨ot.toNat, by omega⟩
            have hj : j < l.length := by omega
            have hjj := hoth j hj (by omega)
            have k1 : w3.cell? ⟨w1.heap.size, j, none⟩ = some (.int .u8 l[j]) := by have := HR3.out j (.int .u8 l[j]) (by simp only [bC, List.getElem?_map, hjj]; simp [hj]); rwa [Nat.zero_add] at this
            have k2 : w3.cell? ⟨g, o + j, none⟩ = some (.int .u8 l[j]) := by have := HR.out j (.int .u8 l[j]) (by simp [bC, hj]); rw [(bcell b3q.out).1 _ _ (World.block_lt_of_cell? w1 _ this)]; exact this
            generalize l[j] = z at k1 k2
            clear hoth hjj
            go_wp2_with (go_at_call 27; refine (HCt.out _).mono ?_; rintro e w9 ⟨rfl, rfl⟩)
            go_quiet (fail)
            go_wp2
            go_ret
            exact ⟨rfl, B3.out.trans (below_drewN _ _ _)⟩
    · generalize hN : getN l xo 8 = N at HG
      clear hs
      go_wp2_with fail
      refine HG.out.mono ?_
      rintro e w2 ⟨rfl, rfl⟩
      clear HG
      obtain ⟨e1, e2, e3⟩ := half4 hb hE
      have HGl := hid (Get_any _ l xo 4 w1 P1.out hb (by omega) ⟨by omega, by omega⟩)
      have HGh := hid (Get_any _ l (xo + 4) 4 w1 P1.out hb (by omega) ⟨by omega, by omega⟩)
      rw [e1] at HGl
      rw [e2] at HGh
      generalize getN l xo 4 = lo at HGl e3
      generalize getN l (xo + 4) 4 = hi at HGh e3
      rw [hN] at e3
      go_wp2_with fail
      refine HGl.out.mono ?_
      rintro e w2 ⟨rfl, rfl⟩
      go_wp2_with fail
      refine HGh.out.mono ?_
      rintro e w2 ⟨rfl, rfl⟩
      clear HGl HGh e1 e2
      have hP := Put_ok g o cap l xo _ xn w1 hcap HR.out hl ⟨hxn0, hxn1⟩ hE
      go_wp2_with fail
      refine hP.mono ?_
      rintro e w3 ⟨rfl, hr3, hz3, b3⟩
      clear hP
      have HR3 := hid hr3
      have b3q := hid b3
      have B3 := hid (below_next_w B1.out b3 B1.out.size)
      have X3 := hid (X1.out.next b3)
      have hgp := get_put (x := xn) hxn0 hE
      have hbp := put_bd (i := xo.toNat) (x := xn) (s := 8) hb
      have hoth := fun j => @put_other l xo 8 xn j hE
      simp only [Int.toNat_natCast, Int.reduceToNat] at hgp hbp hoth HR3
      generalize putL l xo.toNat (layL xn 8) = l2 at HR3 hgp hbp hoth
      obtain ⟨hlen, hget⟩ := hgp
      have hG2 := Get_any (.slice (some ⟨w1.heap.size, 0, none⟩) l2.length l.length) l2 xo 8 w3 (.inl ⟨_, 0, _, rfl, by omega, HR3.out⟩) hbp (by omega) ⟨by omega, by omega⟩
      rw [hlen, hE, hget] at hG2
      have HCt := hid (fun W => cut_any xn 8 W hxn0 hxn1 rfl)
      simp only [Int.reduceToNat] at hG2 HCt
      generalize xn % 256 ^ 8 = y at hG2 HCt
      have HG2 := hid hG2
      clear hr3 c0 c1 c2 c3 c4 c5
      obtain ⟨c0, c1, c2, c3, c4, c5⟩ := X3.out
      go_wp2_with fail
      refine HG2.out.mono ?_
      rintro e w4 ⟨rfl, rfl⟩
      by_cases h0 : ot < 0
      · have d0 : decide (ot < 0) = true := decide_eq_true h0
        go_wp2_with (go_at_call 27; refine (HCt.out _).mono ?_; rintro e w9 ⟨rfl, rfl⟩)
        go_ret
        exact ⟨rfl, B3.out⟩
      · have d0 : decide (ot < 0) = false := decide_eq_false h0
        by_cases h1 : (l.length : Int) ≤ ot
        · have d1 : decide ((l.length : Int) ≤ ot) = true := decide_eq_true h1
          go_wp2_with (go_at_call 27; refine (HCt.out _).mono ?_; rintro e w9 ⟨rfl, rfl⟩)
          go_ret
          exact ⟨rfl, B3.out⟩
        · have d1 : decide ((l.length : Int) ≤ ot) = false := decide_eq_false h1
          by_cases h2 : xo ≤ ot
          · have d2 : decide (xo ≤ ot) = true := decide_eq_true h2
            by_cases h3 : ot < xo + 8
            · have d3 : decide (ot < xo + 8) = true := decide_eq_true h3
              go_wp2_with (go_at_call 27; refine (HCt.out _).mono ?_; rintro e w9 ⟨rfl, rfl⟩)
              go_ret
              exact ⟨rfl, B3.out⟩
            · have d3 : decide (ot < xo + 8) = false := decide_eq_false h3
              obtain ⟨j, rfl⟩ : ∃ j : Nat, ot = j := ⟨ot.toNat, by omega⟩
              have hj : j < l.length := by omega
              have hjj := hoth j hj (by omega)
              have k1 : w3.cell? ⟨w1.heap.size, j, none⟩ = some (.int .u8 l[j]) := by have := HR3.out j (.int .u8 l[j]) (by simp only [bC, List.getElem?_map, hjj]; simp [hj]); rwa [Nat.zero_add] at this
              have k2 : w3.cell? ⟨g, o + j, none⟩ = some (.int .u8 l[j]) := by have := HR.out j (.int .u8 l[j]) (by simp [bC, hj]); rw [(bcell b3q.out).1 _ _ (World.block_lt_of_cell? w1 _ this)]; exact this
              generalize l[j] = z at k1 k2
              clear hoth hjj
              go_wp2_with (go_at_call 27; refine (HCt.out _).mono ?_; rintro e w9 ⟨rfl, rfl⟩)
              go_quiet (fail)
              go_wp2
              go_ret
              exact ⟨rfl, B3.out.trans (below_drewN _ _ _)⟩
          · have d2 : decide (xo ≤ ot) = false := decide_eq_false h2
            obtain ⟨j, rfl⟩ : ∃ j : Nat, ot = j := ⟨ot.toNat, by omega⟩
            have hj : j < l.length := by omega
            have hjj := hoth j hj (by omega)
            have k1 : w3.cell? ⟨w1.heap.size, j, none⟩ = some (.int .u8 l[j]) := by have := HR3.out j (.int .u8 l[j]) (by simp only [bC, List.getElem?_map, hjj]; simp [hj]); rwa [Nat.zero_add] at this
            have k2 : w3.cell? ⟨g, o + j, none⟩ = some (.int .u8 l[j]) := by have := HR.out j (.int .u8 l[j]) (by simp [bC, hj]); rw [(bcell b3q.out).1 _ _ (World.block_lt_of_cell? w1 _ this)]; exact this
            generalize l[j] = z at k1 k2
            clear hoth hjj
            go_wp2_with (go_at_call 27; refine (HCt.out _).mono ?_; rintro e w9 ⟨rfl, rfl⟩)
            go_quiet (fail)
            go_wp2
            go_ret
            exact ⟨rfl, B3.out.trans (below_drewN _ _ _)⟩
  · have hN : getN l xo xs = 0 := getN_bad hE
    rw [hN] at HG
    have hE' : getE l.length xo xs = 1 ∨ getE l.length xo xs = 42 := hcs.resolve_left hE
    clear hcs hE hN
    rcases hE' with hE | hE
    · rw [hE] at HG
      clear hE
      go_wp2_with fail
      refine HG.out.mono ?_
      rintro e w2 ⟨rfl, rfl⟩
      go_wp2
      go_ret
      exact ⟨rfl, B1.out⟩
    · rw [hE] at HG
      clear hE
      go_wp2_with fail
      refine HG.out.mono ?_
      rintro e w2 ⟨rfl, rfl⟩
      go_wp2
      go_ret
      exact ⟨rfl, B1.out⟩

end Go.Proofs.Ytjlaenkfjejbkaa
