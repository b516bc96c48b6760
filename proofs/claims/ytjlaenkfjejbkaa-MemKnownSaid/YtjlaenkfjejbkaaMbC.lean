/-
  Contract of Put, as the landed code has it: the bytes in new memory, a number laid over some of them.
-/
import Derived.Test.YtjlaenkfjejbkaaMeY
import Derived.Laws.IdiomCopy
import Derived.Deep.OwnRows
namespace Go.Proofs.Ytjlaenkfjejbkaa
set_option linter.unusedSimpArgs false
set_option linter.unusedVariables false
open Go.ChangeShapes Go.WideShapes Go.ChangeAt Go.RowKit

theorem byteInfo : (Try.prog.info? 5).map (fun i => (i.zero, i.size, i.bytes)) = some (some (.int .u8 0), 1, 1) := by kernel_rfl
theorem byteSize : (Try.prog.info? 5).map (·.size) = some 1 := by kernel_rfl
theorem bC_len (l : List Int) : (bC l).length = l.length := by simp [bC]
theorem bC_one (l : List Int) : ∀ v ∈ bC l, v.oneCell' = true := by
  intro v hv
  obtain ⟨x, _, rfl⟩ := List.mem_map.1 hv
  rfl
theorem put_range {W : World} {B i : Nat} {l xs : List Int} (hi : i + xs.length ≤ l.length) (hr : W.rangeAt B 0 (bC l)) : (W.setCells B i (bC xs)).rangeAt B 0 (bC (putL l i xs)) := by
  intro j v hv
  have hj : j < l.length := by have := (List.getElem?_eq_some_iff.1 hv).1; rwa [bC_len, putL_len hi] at this
  have hsome : ∀ k, k < l.length → (W.cell? ⟨B, k, none⟩).isSome = true := fun k hk => by
    have := hr k (.int .u8 l[k]) (by simp [bC, hk])
    rw [Nat.zero_add] at this
    rw [this]; rfl
  rw [Nat.zero_add]
  by_cases hin : i ≤ j ∧ j < i + xs.length
  · obtain ⟨k, rfl⟩ : ∃ k, j = i + k := ⟨j - i, by omega⟩
    have hk : k < xs.length := by omega
    rw [World.cell?_setCells_in B (bC xs) i W (fun m hm => hsome _ (by rw [bC_len] at hm; omega)) k (by rw [bC_len]; exact hk), ← hv]
    simp only [bC, List.getElem?_map, putL_in hi k hk, List.getElem_map, List.getElem?_eq_getElem hk, Option.map_some]
  · rw [World.cell?_setCells_out _ _ _ _ _ (fun _ _ => by show j < i ∨ i + (bC xs).length ≤ j; rw [bC_len]; omega)]
    have := hr j v (by rw [← hv]; simp only [bC, List.getElem?_map, putL_out hi j (by omega)])
    rwa [Nat.zero_add] at this

set_option maxHeartbeats 1600000 in
theorem Put_bad (p : Option Addr) (len cap : Nat) (off n x : Int) (w : World) (hl : (len : Int) < 9223372036854775808) (ho : -9223372036854775808 ≤ off ∧ off < 9223372036854775808) (hE : getE len off n ≠ 0) :
    Calls Try.prog 24 #[.slice p len cap, .int .i64 off, .int .i64 n, .int .u64 x] w fun e w' => e = .returned (.tuple #[.slice none 0 0, .int .i64 (getE len off n)]) ∧ w = w' := by
  have HP := hid (part_bad p len cap off n w hl ho hE)
  have hE' : (getE len off n != 0) = true := by simpa using hE
  generalize getE len off n = E at HP hE' ⊢
  clear hE hl ho
  go_enter Try.func24, Try.ntmps24
  go_wp2_with (go_at_call 38; refine HP.out.mono ?_; rintro e w1 ⟨rfl, rfl⟩)
  go_ret2
  exact ⟨rfl, rfl⟩

set_option maxHeartbeats 1600000 in
theorem Put_ok (g o cap : Nat) (l : List Int) (off n x : Int) (w : World) (hcap : l.length ≤ cap) (hc : w.rangeAt g o (bC l)) (hl : l.length ≤ 140737488351232) (hx : 0 ≤ x ∧ x < 18446744073709551616) (hE : getE l.length off n = 0) :
    Calls Try.prog 24 #[.slice (some ⟨g, o, none⟩) l.length cap, .int .i64 off, .int .i64 n, .int .u64 x] w fun e w' =>
      e = .returned (.tuple #[.slice (some ⟨w.heap.size, 0, none⟩) l.length l.length, .int .i64 0]) ∧ w'.rangeAt w.heap.size 0 (bC (putL l off.toNat (layL x n.toNat))) ∧ w.heap.size < w'.heap.size ∧ Below w.heap.size w w' ∧ w'.there w.heap.size 0 l.length := by
  have hw : withinB l.length off n = true ∧ sizeB n = true := by
    unfold getE at hE
    cases hs : sizeB n
    · simp [hs] at hE
    · cases hw : withinB l.length off n
      · simp [hs, hw] at hE
      · exact ⟨rfl, rfl⟩
  have hn : 1 ≤ n ∧ n ≤ 8 := by rcases size_cases hw.2 with h | h | h | h <;> omega
  have ho : 0 ≤ off ∧ off ≤ l.length - n := by simpa [withinB] using hw.1
  have HP := hid (fun (W : World) (g o cap : Nat) (hc : l.length ≤ cap) => part_ok g o l.length cap off n W hc (by omega) hE)
  have HM : (Instr.makeSlice 53 (.int .i64 (l.length : Int)) (.int .i64 (l.length : Int))).run Try.prog w = .ok (.slice (some ⟨w.heap.size, 0, none⟩) l.length l.length) (w.alloc (.cells (madeCells #[.int .u8 0] l.length) 5)) :=
    run_make_row' 53 5 (.int .u8 0) 1 Try.underlying53 byteInfo rfl .i64 .i64 l.length (by omega) (by omega) w
  have hm : l.length = (madeCells #[.int .u8 0] l.length).size := by simp [madeCells]
  have hT := there_box w (madeCells #[.int .u8 0] l.length) 5 l.length hm
  have hB0 : Below w.heap.size w (w.alloc (.cells (madeCells #[.int .u8 0] l.length) 5)) := (Below.refl _ _).alloc (Nat.le_refl _) _
  have hz : w.heap.size < (w.alloc (.cells (madeCells #[.int .u8 0] l.length) 5)).heap.size := by simp
  have hs1 := World.rangeAt_alloc hc (.cells (madeCells #[.int .u8 0] l.length) 5)
  generalize hw1 : w.alloc (.cells (madeCells #[.int .u8 0] l.length) 5) = w1 at hT hB0 hs1 hz HM
  have HC : ∀ ty, (Builtin.copy_ #[53, 53] ty #[.slice (some ⟨w.heap.size, 0, none⟩) l.length l.length, .slice (some ⟨g, o, none⟩) l.length cap]).run Try.prog w1 = .ok (goInt (bC l).length) (w1.setCells w.heap.size 0 (bC l)) := fun ty =>
    run_copy_cells w1 _ _ ty 5 w.heap.size 0 l.length l.length ⟨g, o, none⟩ l.length cap (bC l) Try.underlying53 byteSize (by rw [bC_len]; simp)
      (fun j v hv => by rw [Addr.add_mid]; exact hs1 j v hv)
      (fun j hj => (hT j (by rwa [bC_len] at hj)).1) (fun j hj => (hT j (by rwa [bC_len] at hj)).2) (bC_one l)
  have hr2 := World.rangeAt_setCells_same w1 w.heap.size 0 (bC l) (by rw [bC_len]; exact hT)
  have hT2 := World.there_setCells hT w.heap.size 0 (bC l)
  have hB2 := below_setCells w.heap.size (Nat.le_refl _) (bC l) 0 _ hB0
  have hz2 : w.heap.size < (w1.setCells w.heap.size 0 (bC l)).heap.size := Nat.lt_of_lt_of_le hz (below_setCells (n := 0) (a := w1) w.heap.size (Nat.zero_le _) (bC l) 0 w1 (Below.refl _ _)).size
  generalize hw2 : w1.setCells w.heap.size 0 (bC l) = w2 at HC hr2 hT2 hB2 hz2
  obtain ⟨N, rfl⟩ : ∃ N : Nat, n = N := ⟨n.toNat, by omega⟩
  obtain ⟨O, rfl⟩ : ∃ O : Nat, off = O := ⟨off.toNat, by omega⟩
  simp only [Int.toNat_natCast] at HP ⊢
  have hTs : w2.there w.heap.size O N := fun j hj => by
    have := hT2 (O + j) (by omega)
    rwa [Nat.zero_add] at this
  have HL := hid (lay_some w.heap.size O N N (by omega) x hx.1 hx.2 w2 hTs)
  have hr3 := put_range (xs := layL x N) (i := O) (by rw [layL_len]; omega) hr2
  have hB3 := below_setCells w.heap.size (Nat.le_refl _) (bC (layL x N)) O _ hB2
  have hz3 : w.heap.size < (w2.setCells w.heap.size O (bC (layL x N))).heap.size := Nat.lt_of_lt_of_le hz2 (below_setCells (n := 0) (a := w2) w.heap.size (Nat.zero_le _) (bC (layL x N)) O w2 (Below.refl _ _)).size
  have HT3 := hid (World.there_setCells hT2 w.heap.size O (bC (layL x N)))
  have HR3 := hid hr3
  have HB3 := hid hB3
  have HZ3 := hid hz3
  have HCAP := hid hcap
  clear hr3 hB3 hz3 hTs hB2 hz2 hT2 hr2 hT hB0 hs1 hz hm hw hn ho hE hx hl hcap
  go_enter Try.func24, Try.ntmps24
  clear hw1 hw2
  generalize hbb : w.heap.size = bb at *
  clear hbb
  go_wp2_with fail
  refine (HP.out _ g o cap HCAP.out).mono ?_
  rintro e w7 ⟨rfl, rfl⟩
  go_wp2_with fail
  refine (HP.out _ bb 0 l.length (Nat.le_refl _)).mono ?_
  rintro e w7 ⟨rfl, rfl⟩
  go_wp2_with fail
  refine HL.out.mono ?_
  rintro e w8 ⟨rfl, rfl⟩
  go_wp2_with fail
  go_ret2
  exact ⟨rfl, HR3.out, HZ3.out, HB3.out, HT3.out⟩

end Go.Proofs.Ytjlaenkfjejbkaa
