/-
  The laws' twin: an image in memory of the call's own.
-/
import Derived.Test.YtdnkikgfiganaaaDoorTwinP
namespace Go.Proofs.YtdnkikgfiganaaaDoor
set_option linter.unusedSimpArgs false
set_option linter.unusedVariables false
open Go.ChangeShapes Go.WideShapes Go.ChangeAt Go.RowKit

set_option maxRecDepth 100000 in
set_option maxHeartbeats 8000000 in
theorem twin_any (pm pc : Option Addr) (cm cc n m : Nat) (l : List M4) (c : List I5) (w : World) (hml : MpSl w.heap.size w pm n l) (hsl : CdSl w.heap.size w pc m c) :
    Calls Tryd.prog 14 #[.agg #[.slice pm n cm, .slice pc m cc]] w (TwPost w l c) := by
  obtain rfl := hml.1
  obtain rfl := hsl.1
  have HSM := hid (src_maps hml)
  have HSC := hid (src_code hsl)
  have hlm := hml.2.1
  have hlc := hsl.2.2.1
  obtain ⟨im, him, hp⟩ := Option.map_eq_some_iff.1 mapInfo
  injection hp with hm1 hp
  injection hp with hm2 hm3
  obtain ⟨ii, hii, hp⟩ := Option.map_eq_some_iff.1 insInfo
  injection hp with hi1 hp
  injection hp with hi2 hi3
  have HIM := hid (And.intro him (And.intro hm1 (And.intro hm2 hm3)))
  have HII := hid (And.intro hii (And.intro hi1 (And.intro hi2 hi3)))
  clear hml hsl him hm1 hm2 hm3 hii hi1 hi2 hi3
  go_enter Tryd.func14, Tryd.ntmps14
  go_wp2_with fail
  have Bq0 : Bq w (((w.alloc (.cells #[.slice pm l.length cm, .slice pc c.length cc] 25)).alloc (.cells #[.slice none 0 0, .slice none 0 0] 25)).alloc (.cells #[.slice none 0 0, .slice none 0 0] 25)) := (((Below.refl _ w).alloc (Nat.le_refl _) _).alloc (by simp) _).alloc (by simp; omega) _
  have a0 : (((w.alloc (.cells #[.slice pm l.length cm, .slice pc c.length cc] 25)).alloc (.cells #[.slice none 0 0, .slice none 0 0] 25)).alloc (.cells #[.slice none 0 0, .slice none 0 0] 25)).cell? ⟨w.heap.size, 0, none⟩ = some (.slice pm l.length cm) := cna _ (cna _ (by simp))
  have a1 : (((w.alloc (.cells #[.slice pm l.length cm, .slice pc c.length cc] 25)).alloc (.cells #[.slice none 0 0, .slice none 0 0] 25)).alloc (.cells #[.slice none 0 0, .slice none 0 0] 25)).cell? ⟨w.heap.size, 1, none⟩ = some (.slice pc c.length cc) := cna _ (cna _ (by simp))
  have hob := heap_alloc_new ((w.alloc (.cells #[.slice pm l.length cm, .slice pc c.length cc] 25)).alloc (.cells #[.slice none 0 0, .slice none 0 0] 25)) (.cells #[.slice none 0 0, .slice none 0 0] 25)
  have hrb0 := heap_alloc_new (w.alloc (.cells #[.slice pm l.length cm, .slice pc c.length cc] 25)) (.cells #[.slice none 0 0, .slice none 0 0] 25)
  rw [World.size_alloc] at hrb0
  have hrb := (Below.heap_alloc ((w.alloc (.cells #[.slice pm l.length cm, .slice pc c.length cc] 25)).alloc (.cells #[.slice none 0 0, .slice none 0 0] 25)) (.cells #[.slice none 0 0, .slice none 0 0] 25) (w.heap.size + 1) (by simp)).trans hrb0
  simp only [World.size_alloc] at hob
  have hszr : (((w.alloc (.cells #[.slice pm l.length cm, .slice pc c.length cc] 25)).alloc (.cells #[.slice none 0 0, .slice none 0 0] 25)).alloc (.cells #[.slice none 0 0, .slice none 0 0] 25)).heap.size = w.heap.size + 1 + 1 + 1 := by simp
  generalize ((w.alloc (.cells #[.slice pm l.length cm, .slice pc c.length cc] 25)).alloc (.cells #[.slice none 0 0, .slice none 0 0] 25)).alloc (.cells #[.slice none 0 0, .slice none 0 0] 25) = wr at *
  have hK0 : TwK w pm pc cm cc l.length c.length (.slice none 0 0) (.slice none 0 0) wr := ⟨a0, a1, hob, hrb, Bq0⟩
  clear hob hrb hrb0 a0 a1
  have hsz0 : ∀ W : World, W.heap[w.heap.size + 1]? = some (.cells #[.slice none 0 0, .slice none 0 0] 25 (0, 0)) → (∀ x, W.heap[w.heap.size + 1 + 1]? = some x → w.heap.size + 1 + 1 + 1 ≤ W.heap.size) := fun W _ x h => (Array.getElem?_eq_some_iff.1 h).1
  replace hsz0 : ∀ (W : World), W.heap[w.heap.size + 1]? = some (.cells #[.slice none 0 0, .slice none 0 0] 25 (0, 0)) → ∀ {x : Obj}, W.heap[w.heap.size + 1 + 1]? = some x → w.heap.size + 1 + 1 + 1 ≤ W.heap.size := fun W h x h' => hsz0 W h x h'
  have HSRC : Hid (∀ W, Bq w W → SrcP w.heap.size W pm (l.flatMap cellsM)) := hid (fun W hb => HSM.out.kept hb (Nat.le_refl _))
  have q1 : w.heap.size < wr.heap.size := by omega
  have q2 : w.heap.size + 1 < wr.heap.size := by omega
  have q3 : w.heap.size + 1 + 1 < wr.heap.size := by omega
  clear hszr Bq0
  refine Code.wp_mono (Q := CutR (fun a W' => ∃ (v1 : Value) (bq g2 k2 : Nat) (W2 : World), TwK w pm pc cm cc l.length c.length (.slice none 0 0) (.slice none 0 0) W2 ∧ W2.ownsRow (w.heap.size + 1 + 1 + 1) 48 4 (.slice (some ⟨g2, 0, none⟩) (l.length + 1) k2) (l.length + 1) (l.flatMap cellsM ++ [.int .i64 9, .int .i64 0, .int .i64 0, .int .i64 0]) ∧
      a = { tmps := #[.agg #[.slice pm l.length cm, .slice pc c.length cc], .pointer (some ⟨w.heap.size, 0, none⟩), .pointer (some ⟨w.heap.size + 1, 0, none⟩), .pointer (some ⟨w.heap.size + 1 + 1, 0, none⟩), .pointer (some ⟨w.heap.size + 1 + 1, 0, none⟩), .slice none 0 0, .pointer (some ⟨w.heap.size, 0, none⟩), .slice pm l.length cm, v1, .agg #[.int .i64 9, .int .i64 0, .int .i64 0, .int .i64 0], .slice (some ⟨bq, 0, none⟩) 1 1, .slice (some ⟨g2, 0, none⟩) (l.length + 1) k2, .pointer (some ⟨w.heap.size, 0, none⟩), .slice pm l.length cm, .int .i64 l.length, .slice (some ⟨g2, 0, none⟩) l.length k2, .pointer (some ⟨w.heap.size + 1 + 1, 0, none⟩), undef, undef, undef, undef, undef, undef, undef, undef, undef, undef, undef, undef, undef, undef], defers := [] } ∧ W' = W2.setCell ⟨w.heap.size + 1 + 1, 0, none⟩ (.slice (some ⟨g2, 0, none⟩) l.length k2))) (CutR.imp ?_) ?_
  · rintro a W' ⟨v1, bq, g2, k2, W2, hK, own, rfl, rfl⟩
    obtain ⟨om, hmk⟩ := own_cut own (flat4_len l) (by omega)
    have hgl1 := (own.lt g2 rfl).1
    have om' := om.kept (grown_set W2 ⟨w.heap.size + 1 + 1, 0, none⟩ (.slice (some ⟨g2, 0, none⟩) l.length k2)) (.inr (by simp [Value.ownBlock]; omega))
    have hK4 := hK.set0 (.slice (some ⟨g2, 0, none⟩) l.length k2)
    generalize W2.setCell ⟨w.heap.size + 1 + 1, 0, none⟩ (.slice (some ⟨g2, 0, none⟩) l.length k2) = W3 at *
    have OM := hid om'
    have hg1 := (om'.lt g2 rfl).2
    have HKM := hid hmk
    clear hK own om om' hmk HSRC
    revert hK4 OM hg1 HKM hgl1
    generalize g2 = g1
    generalize k2 = k1
    generalize v1 = u1
    generalize bq = b1
    intro hgl1 hK4 OM hg1 HKM
    have HSRD : Hid (∀ W, Bq w W → SrcP w.heap.size W pc (c.flatMap cellsI)) := hid (fun W hb => HSC.out.kept hb (Nat.le_refl _))
    have q1 : w.heap.size < W3.heap.size := World.block_lt_of_cell? W3 _ hK4.1
    have q3 : w.heap.size + 1 + 1 < W3.heap.size := World.block_lt_of_cell? W3 _ hK4.x0
    have q2 : w.heap.size + 1 < W3.heap.size := by omega
    go_wp2_with fail
    refine Code.wp_mono (Q := CutR (fun a W' => ∃ (v1 : Value) (bq g2 k2 : Nat) (W2 : World), TwK w pm pc cm cc l.length c.length (.slice (some ⟨g1, 0, none⟩) l.length k1) (.slice none 0 0) W2 ∧ W2.ownsRow (w.heap.size + 1 + 1 + 1) 37 5 (.slice (some ⟨g2, 0, none⟩) (c.length + 1) k2) (c.length + 1) (c.flatMap cellsI ++ [.int .u8 9, .int .u8 0, .int .u8 0, .int .i16 0, .int .i32 0]) ∧ W2.ownsRow (w.heap.size + 1 + 1 + 1) 48 4 (.slice (some ⟨g1, 0, none⟩) l.length k1) l.length (l.flatMap cellsM) ∧
        a = { tmps := #[.agg #[.slice pm l.length cm, .slice pc c.length cc], .pointer (some ⟨w.heap.size, 0, none⟩), .pointer (some ⟨w.heap.size + 1, 0, none⟩), .pointer (some ⟨w.heap.size + 1 + 1, 0, none⟩), .pointer (some ⟨w.heap.size + 1 + 1, 0, none⟩), .slice none 0 0, .pointer (some ⟨w.heap.size, 0, none⟩), .slice pm l.length cm, u1, .agg #[.int .i64 9, .int .i64 0, .int .i64 0, .int .i64 0], .slice (some ⟨b1, 0, none⟩) 1 1, .slice (some ⟨g1, 0, none⟩) (l.length + 1) k1, .pointer (some ⟨w.heap.size, 0, none⟩), .slice pm l.length cm, .int .i64 l.length, .slice (some ⟨g1, 0, none⟩) l.length k1, .pointer (some ⟨w.heap.size + 1 + 1, 0, none⟩), .pointer (some ⟨w.heap.size + 1 + 1, 1, none⟩), .slice none 0 0, .pointer (some ⟨w.heap.size, 1, none⟩), .slice pc c.length cc, v1, .agg #[.int .u8 9, .int .u8 0, .int .u8 0, .int .i16 0, .int .i32 0], .slice (some ⟨bq, 0, none⟩) 1 1, .slice (some ⟨g2, 0, none⟩) (c.length + 1) k2, .pointer (some ⟨w.heap.size, 1, none⟩), .slice pc c.length cc, .int .i64 c.length, .slice (some ⟨g2, 0, none⟩) c.length k2, .pointer (some ⟨w.heap.size + 1 + 1, 1, none⟩), undef], defers := [] } ∧ W' = W2.setCell ⟨w.heap.size + 1 + 1, 1, none⟩ (.slice (some ⟨g2, 0, none⟩) c.length k2))) (CutR.imp ?_) ?_
    · rintro a W' ⟨v1, bq, g2, k2, W2, hK, own, om, rfl, rfl⟩
      obtain ⟨oc, hck⟩ := own_cut own (flat5_len c) (by omega)
      have hgl2 := (own.lt g2 rfl).1
      have oc' := oc.kept (grown_set W2 ⟨w.heap.size + 1 + 1, 1, none⟩ (.slice (some ⟨g2, 0, none⟩) c.length k2)) (.inr (by simp [Value.ownBlock]; omega))
      have om' := om.kept (grown_set W2 ⟨w.heap.size + 1 + 1, 1, none⟩ (.slice (some ⟨g2, 0, none⟩) c.length k2)) (.inr (by simp [Value.ownBlock]; omega))
      have hK5 := hK.set1 (.slice (some ⟨g2, 0, none⟩) c.length k2)
      have x0 := hK5.x0
      have x1 := hK5.x1
      have r0 : (W2.setCell ⟨w.heap.size + 1 + 1, 1, none⟩ (.slice (some ⟨g2, 0, none⟩) c.length k2)).cell? ⟨w.heap.size + 1, 0, none⟩ = some (.slice none 0 0) := by unfold World.cell?; dsimp only; rw [hK5.2.2.2.1]; rfl
      have r1 : (W2.setCell ⟨w.heap.size + 1 + 1, 1, none⟩ (.slice (some ⟨g2, 0, none⟩) c.length k2)).cell? ⟨w.heap.size + 1, 1, none⟩ = some (.slice none 0 0) := by unfold World.cell?; dsimp only; rw [hK5.2.2.2.1]; rfl
      have f0 : (W2.setCell ⟨w.heap.size + 1 + 1, 1, none⟩ (.slice (some ⟨g2, 0, none⟩) c.length k2)).frozen? ⟨w.heap.size + 1, 0, none⟩ = false := by unfold World.frozen?; dsimp only; rw [hK5.2.2.2.1]; simp
      have f1 : (W2.setCell ⟨w.heap.size + 1 + 1, 1, none⟩ (.slice (some ⟨g2, 0, none⟩) c.length k2)).frozen? ⟨w.heap.size + 1, 1, none⟩ = false := by unfold World.frozen?; dsimp only; rw [hK5.2.2.2.1]; simp
      have hne : g1 ≠ g2 := by
        intro e
        subst e
        have h1 := own_elem om
        have h2 := own_elem own
        rw [h1] at h2
        cases h2
      generalize W2.setCell ⟨w.heap.size + 1 + 1, 1, none⟩ (.slice (some ⟨g2, 0, none⟩) c.length k2) = W5 at *
      have HK5 := hid hK5
      have HOC := hid oc'
      have HOM := hid om'
      have hgl1 := (om.lt g1 rfl).1
      clear hK hK5 oc oc' om om' own
      go_wp2
      have hs1 := grown_set W5 ⟨w.heap.size + 1, 0, none⟩ (.slice (some ⟨g1, 0, none⟩) l.length k1)
      have hs2 := grown_set (W5.setCell ⟨w.heap.size + 1, 0, none⟩ (.slice (some ⟨g1, 0, none⟩) l.length k1)) ⟨w.heap.size + 1, 1, none⟩ (.slice (some ⟨g2, 0, none⟩) c.length k2)
      have oM := (HOM.out.kept hs1 (.inr (by simp [Value.ownBlock]; omega))).kept hs2 (.inr (by simp [Value.ownBlock]; omega))
      have oC := (HOC.out.kept hs1 (.inr (by simp [Value.ownBlock]; omega))).kept hs2 (.inr (by simp [Value.ownBlock]; omega))
      have hBl : Below w.heap.size w ((W5.setCell ⟨w.heap.size + 1, 0, none⟩ (.slice (some ⟨g1, 0, none⟩) l.length k1)).setCell ⟨w.heap.size + 1, 1, none⟩ (.slice (some ⟨g2, 0, none⟩) c.length k2)) := (Below.setCell (show Below w.heap.size w W5 from HK5.out.2.2.2.2) (p := ⟨w.heap.size + 1, 0, none⟩) (by simp) _).setCell (p := ⟨w.heap.size + 1, 1, none⟩) (by simp) _
      refine bodyPost_ret (v := .agg #[.slice (some ⟨g1, 0, none⟩) l.length k1, .slice (some ⟨g2, 0, none⟩) c.length k2]) ?_ rfl ⟨g1, k1, g2, k2, rfl, ⟨own_base oM (by omega), HKM.out⟩, ⟨own_base oC (by omega), hck⟩, hne, hBl⟩
      simp [results, Tryd.results14, go_sem, r0, r1]
      try rfl
    · have hKa := hK4.drew.grow (World.grownBy_alloc W3.drew (.cells #[.int .u8 9, .int .u8 0, .int .u8 0, .int .i16 0, .int .i32 0] 37) none) (fun k e => by cases e)
      have hox := hK4.x1
      have hoy := hK4.2.1
      go_region_law (first
        | (refine step_app _ (by rfl) (.tmp 18) (.tmp 20) _ (by rfl) (w.heap.size + 1 + 1 + 1) 37 ii _ 5 12 Tryd.underlying23 HII.out.1 HII.out.2.1 HII.out.2.2.1 HII.out.2.2.2 rfl (by decide) (.slice none 0 0) 0 [] (by rfl) (World.ownsRow_nil _ _ _ _) w.heap.size pc c.length cc (c.flatMap cellsI) (by rfl) (flat5_len c) (HSRD.out _ hK4.2.2.2.2.drew) (flat5_one c) (by simp only [maxLen]; omega) (by omega) (hsz0 _ hK4.drew.2.2.2.1 hK4.drew.2.2.1) ?_; intro v1 w1 own1 grow1 at1; rw [Nat.zero_add, List.nil_append] at own1; have om1 := (show W3.drew.ownsRow (w.heap.size + 1 + 1 + 1) 48 4 (.slice (some ⟨g1, 0, none⟩) l.length k1) l.length (l.flatMap cellsM) from OM.out).kept grow1 (.inr (by simp [Value.ownBlock])); have hK1 := hK4.drew.grow grow1 (fun k e => by cases e); have hK2 := hK1.grow (World.grownBy_alloc w1 (.cells #[.int .u8 9, .int .u8 0, .int .u8 0, .int .i16 0, .int .i32 0] 37) none) (fun k e => by cases e); have la := hK1.2.1; have lb := hK1.x1; have qa := World.block_lt_of_cell? w1 _ la; have qb := World.block_lt_of_cell? w1 _ lb; simp only at qa qb)
        | (refine step_app _ (by rfl) (.tmp 18) (.tmp 20) _ (by rfl) (w.heap.size + 1 + 1 + 1) 37 ii _ 5 12 Tryd.underlying23 HII.out.1 HII.out.2.1 HII.out.2.2.1 HII.out.2.2.2 rfl (by decide) (.slice none 0 0) 0 [] (by rfl) (World.ownsRow_nil _ _ _ _) w.heap.size pc c.length cc (c.flatMap cellsI) (by rfl) (flat5_len c) (HSRD.out _ hKa.2.2.2.2) (flat5_one c) (by simp only [maxLen]; omega) (by omega) (hsz0 _ hKa.2.2.2.1 hKa.2.2.1) ?_; intro v1 w1 own1 grow1 at1; rw [Nat.zero_add, List.nil_append] at own1; have om1 := ((show W3.drew.ownsRow (w.heap.size + 1 + 1 + 1) 48 4 (.slice (some ⟨g1, 0, none⟩) l.length k1) l.length (l.flatMap cellsM) from OM.out).alloc _).kept grow1 (.inr (by simp [Value.ownBlock])); have hK1 := hKa.grow grow1 (fun k e => by cases e); have la := hK1.2.1)
        | (refine step_app _ (by rfl) (.tmp 21) (.tmp 23) _ (by rfl) (w.heap.size + 1 + 1 + 1) 37 ii _ 5 12 Tryd.underlying23 HII.out.1 HII.out.2.1 HII.out.2.2.1 HII.out.2.2.2 rfl (by decide) v1 c.length ((c.flatMap cellsI)) (by rfl) (own1.alloc _) _ (some ⟨w1.heap.size, 0, none⟩) 1 1 [.int .u8 9, .int .u8 0, .int .u8 0, .int .i16 0, .int .i32 0] (by rfl) rfl (src_new5 w1 _ _ _ _ _ _) (by simp [Value.oneCell']) (by simp only [maxLen]; omega) (by omega) (hsz0 _ hK2.2.2.2.1 hK2.2.2.1) ?_; intro v2 w2 own2 grow2 at2; have om3 := own_far (om1.alloc _) grow2 at1 hg1; have hK3 := hK2.grow grow2 (fun k hk => (own1.lt k hk).1); obtain ⟨g2, k2, rfl, hk2, hgb, hgl⟩ := own_some own2 (by omega); have hxx := hK3.x0; have hyy := hK3.x1; have hfz := hK3.fz 1; have lc := hK3.2.1; have hsl := slice_to 23 37 5 (by kernel_rfl) (fun W => by kernel_rfl) g2 (c.length + 1) k2 c.length (by omega) hk2 (by omega))
        | (refine step_app _ (by rfl) (.tmp 21) (.tmp 23) _ (by rfl) (w.heap.size + 1 + 1 + 1) 37 ii _ 5 12 Tryd.underlying23 HII.out.1 HII.out.2.1 HII.out.2.2.1 HII.out.2.2.2 rfl (by decide) v1 c.length ((c.flatMap cellsI)) (by rfl) own1 _ (some ⟨W3.drew.heap.size, 0, none⟩) 1 1 [.int .u8 9, .int .u8 0, .int .u8 0, .int .i16 0, .int .i32 0] (by rfl) rfl ((src_new5 W3.drew _ _ _ _ _ _).grow grow1 (fun k e => by cases e)) (by simp [Value.oneCell']) (by simp only [maxLen]; omega) (by omega) (hsz0 _ hK1.2.2.2.1 hK1.2.2.1) ?_; intro v2 w2 own2 grow2 at2; have om3 := own_far om1 grow2 at1 (by simp; exact Nat.lt_succ_of_lt hg1); have hK3 := hK1.grow grow2 (fun k hk => (own1.lt k hk).1); obtain ⟨g2, k2, rfl, hk2, hgb, hgl⟩ := own_some own2 (by omega); have hxx := hK3.x0; have hyy := hK3.x1; have hfz := hK3.fz 1; have lc := hK3.2.1; have hsl := slice_to 23 37 5 (by kernel_rfl) (fun W => by kernel_rfl) g2 (c.length + 1) k2 c.length (by omega) hk2 (by omega)))
      all_goals exact ⟨_, _, _, _, _, hK3, own2, om3, rfl, rfl⟩
  · have hKa := hK0.drew.grow (World.grownBy_alloc wr.drew (.cells #[.int .i64 9, .int .i64 0, .int .i64 0, .int .i64 0] 48) none) (fun k e => by cases e)
    have hox := hK0.x0
    have hoy := hK0.1
    go_region_law (first
      | (refine step_app _ (by rfl) (.tmp 5) (.tmp 7) _ (by rfl) (w.heap.size + 1 + 1 + 1) 48 im _ 4 32 Tryd.underlying22 HIM.out.1 HIM.out.2.1 HIM.out.2.2.1 HIM.out.2.2.2 rfl (by decide) (.slice none 0 0) 0 [] (by rfl) (World.ownsRow_nil _ _ _ _) w.heap.size pm l.length cm (l.flatMap cellsM) (by rfl) (flat4_len l) (HSRC.out _ hK0.2.2.2.2.drew) (flat4_one l) (by simp only [maxLen]; omega) (by omega) (hsz0 _ hK0.drew.2.2.2.1 hK0.drew.2.2.1) ?_; intro v1 w1 own1 grow1 at1; rw [Nat.zero_add, List.nil_append] at own1; have hK1 := hK0.drew.grow grow1 (fun k e => by cases e); have hK2 := hK1.grow (World.grownBy_alloc w1 (.cells #[.int .i64 9, .int .i64 0, .int .i64 0, .int .i64 0] 48) none) (fun k e => by cases e); have la := hK1.1; have lb := hK1.x0; have qa := World.block_lt_of_cell? w1 _ la; have qb := World.block_lt_of_cell? w1 _ lb; simp only at qa qb)
      | (refine step_app _ (by rfl) (.tmp 5) (.tmp 7) _ (by rfl) (w.heap.size + 1 + 1 + 1) 48 im _ 4 32 Tryd.underlying22 HIM.out.1 HIM.out.2.1 HIM.out.2.2.1 HIM.out.2.2.2 rfl (by decide) (.slice none 0 0) 0 [] (by rfl) (World.ownsRow_nil _ _ _ _) w.heap.size pm l.length cm (l.flatMap cellsM) (by rfl) (flat4_len l) (HSRC.out _ hKa.2.2.2.2) (flat4_one l) (by simp only [maxLen]; omega) (by omega) (hsz0 _ hKa.2.2.2.1 hKa.2.2.1) ?_; intro v1 w1 own1 grow1 at1; rw [Nat.zero_add, List.nil_append] at own1; have hK1 := hKa.grow grow1 (fun k e => by cases e); have la := hK1.1)
      | (refine step_app _ (by rfl) (.tmp 8) (.tmp 10) _ (by rfl) (w.heap.size + 1 + 1 + 1) 48 im _ 4 32 Tryd.underlying22 HIM.out.1 HIM.out.2.1 HIM.out.2.2.1 HIM.out.2.2.2 rfl (by decide) v1 l.length ((l.flatMap cellsM)) (by rfl) (own1.alloc _) _ (some ⟨w1.heap.size, 0, none⟩) 1 1 [.int .i64 9, .int .i64 0, .int .i64 0, .int .i64 0] (by rfl) rfl (src_new4 w1 _ _ _ _ _) (by simp [Value.oneCell']) (by simp only [maxLen]; omega) (by omega) (hsz0 _ hK2.2.2.2.1 hK2.2.2.1) ?_; intro v2 w2 own2 grow2 at2; have hK3 := hK2.grow grow2 (fun k hk => (own1.lt k hk).1); obtain ⟨g2, k2, rfl, hk2, hgb, hgl⟩ := own_some own2 (by omega); have hxx := hK3.x0; have hyy := hK3.x1; have hfz := hK3.fz 0; have lc := hK3.1; have hsl := slice_to 22 48 4 (by kernel_rfl) (fun W => by kernel_rfl) g2 (l.length + 1) k2 l.length (by omega) hk2 (by omega))
      | (refine step_app _ (by rfl) (.tmp 8) (.tmp 10) _ (by rfl) (w.heap.size + 1 + 1 + 1) 48 im _ 4 32 Tryd.underlying22 HIM.out.1 HIM.out.2.1 HIM.out.2.2.1 HIM.out.2.2.2 rfl (by decide) v1 l.length ((l.flatMap cellsM)) (by rfl) own1 _ (some ⟨wr.drew.heap.size, 0, none⟩) 1 1 [.int .i64 9, .int .i64 0, .int .i64 0, .int .i64 0] (by rfl) rfl ((src_new4 wr.drew _ _ _ _ _).grow grow1 (fun k e => by cases e)) (by simp [Value.oneCell']) (by simp only [maxLen]; omega) (by omega) (hsz0 _ hK1.2.2.2.1 hK1.2.2.1) ?_; intro v2 w2 own2 grow2 at2; have hK3 := hK1.grow grow2 (fun k hk => (own1.lt k hk).1); obtain ⟨g2, k2, rfl, hk2, hgb, hgl⟩ := own_some own2 (by omega); have hxx := hK3.x0; have hyy := hK3.x1; have hfz := hK3.fz 0; have lc := hK3.1; have hsl := slice_to 22 48 4 (by kernel_rfl) (fun W => by kernel_rfl) g2 (l.length + 1) k2 l.length (by omega) hk2 (by omega)))
    all_goals exact ⟨_, _, _, _, _, hK3, own2, rfl, rfl⟩
end Go.Proofs.YtdnkikgfiganaaaDoor
