/-
  Helpers of law ShapeKnown: its literal codes and what is wrong with each; many Exits.
-/
import Derived.Test.YtdnkikgfiganaaaDoorMoH
import Derived.Laws.OwnMore
namespace Go.Proofs.YtdnkikgfiganaaaDoor
set_option linter.unusedSimpArgs false
set_option linter.unusedVariables false
open Go.ChangeShapes Go.WideShapes Go.ChangeAt Go.RowKit

theorem own_step {w w' : World} {b : Nat} {e : TypeId} {k n : Nat} {v : Value} {xs : List Value} (h : w.ownsRow b e k v n xs) (hb : Below w.heap.size w w') : w'.ownsRow b e k v n xs :=
  h.kept (grown_of_below hb) (by by_cases h : v.ownBlock = none <;> simp [h])
theorem Bx.bl {w0 w : World} (h : Bx w0 w) : Below w0.heap.size w0 w := h.2
theorem Bx.alloc {w0 w : World} (o : Obj) (h : Bx w0 w) : Bx w0 (w.alloc o) := h.next ((Below.refl w.heap.size w).alloc (Nat.le_refl _) o)
def d1 : List I5 := [⟨24, 0, 0, 0, 0⟩]
theorem d1_ok : CdOk d1 := by
  intro x hx
  simp only [d1, List.mem_cons, List.not_mem_nil, or_false] at hx
  rcases hx with rfl <;> (unfold I5.ok; decide)
theorem d1_chk : chkI [] d1 = (0, 23) := by kernel_rfl
def d2 : List I5 := [⟨5, 0, 0, 0, 0⟩, ⟨24, 0, 0, 0, 0⟩, ⟨0, 0, 0, 0, 0⟩, ⟨149, 0, 0, 0, 0⟩]
theorem d2_ok : CdOk d2 := by
  intro x hx
  simp only [d2, List.mem_cons, List.not_mem_nil, or_false] at hx
  rcases hx with rfl | rfl | rfl | rfl <;> (unfold I5.ok; decide)
theorem d2_chk : chkI [] d2 = (0, 0) := by kernel_rfl
def d3 : List I5 := [⟨5, 0, 0, 1, 0⟩, ⟨24, 0, 0, 0, 0⟩, ⟨0, 0, 0, 0, 0⟩, ⟨149, 0, 0, 0, 0⟩]
theorem d3_ok : CdOk d3 := by
  intro x hx
  simp only [d3, List.mem_cons, List.not_mem_nil, or_false] at hx
  rcases hx with rfl | rfl | rfl | rfl <;> (unfold I5.ok; decide)
theorem d3_chk : chkI [] d3 = (0, 24) := by kernel_rfl
def d4 : List I5 := [⟨133, 0, 0, 0, 4⟩, ⟨149, 0, 0, 0, 0⟩]
theorem d4_ok : CdOk d4 := by
  intro x hx
  simp only [d4, List.mem_cons, List.not_mem_nil, or_false] at hx
  rcases hx with rfl | rfl <;> (unfold I5.ok; decide)
theorem d4_chk : chkI [] d4 = (0, 27) := by kernel_rfl
def d5 : List I5 := [⟨149, 0, 0, 0, 0⟩, ⟨24, 0, 1, 0, 0⟩, ⟨0, 0, 0, 0, 0⟩, ⟨149, 0, 0, 0, 0⟩]
theorem d5_ok : CdOk d5 := by
  intro x hx
  simp only [d5, List.mem_cons, List.not_mem_nil, or_false] at hx
  rcases hx with rfl | rfl | rfl | rfl <;> (unfold I5.ok; decide)
theorem d5_chk : chkI [] d5 = (1, 26) := by kernel_rfl
def d6 : List I5 := [⟨149, 0, 0, 0, 0⟩, ⟨21, 0, 0, -2, 0⟩]
theorem d6_ok : CdOk d6 := by
  intro x hx
  simp only [d6, List.mem_cons, List.not_mem_nil, or_false] at hx
  rcases hx with rfl | rfl <;> (unfold I5.ok; decide)
theorem d6_chk : chkI [] d6 = (1, 25) := by kernel_rfl
def d7 : List I5 := [⟨149, 0, 0, 0, 0⟩, ⟨24, 0, 0, 0, 0⟩, ⟨0, 0, 0, 0, 0⟩]
theorem d7_ok : CdOk d7 := by
  intro x hx
  simp only [d7, List.mem_cons, List.not_mem_nil, or_false] at hx
  rcases hx with rfl | rfl | rfl <;> (unfold I5.ok; decide)
theorem d7_chk : chkI [] d7 = (1, 25) := by kernel_rfl
theorem d5_bad : chkI [⟨9, 0, 0, 0⟩] d5 = (0, 26) := by kernel_rfl
theorem d5_good : chkI [⟨1, 4, 8, 1⟩] d5 = (0, 0) := by kernel_rfl
@[irreducible] def xs (k : Nat) : List I5 := List.replicate k xI
theorem xs_ok (k : Nat) : CdOk (xs k) := by
  intro x hx
  unfold xs at hx
  rw [(List.mem_replicate.1 hx).2]
  exact xI_ok
theorem xs_succ (k : Nat) : xs (k + 1) = xs k ++ [xI] := by unfold xs; rw [List.replicate_succ']
theorem xs_len (k : Nat) : (xs k).length = k := by simp [xs]
theorem xs_flat (k : Nat) : (xs (k + 1)).flatMap cellsI = (xs k).flatMap cellsI ++ [.int .u8 149, .int .u8 0, .int .u8 0, .int .i16 0, .int .i32 0] := by rw [xs_succ, List.flatMap_append]; rfl
theorem xs_one : RtI [] (xs 1) := by
  have h : chkI [] [xI] = (0, 0) := by kernel_rfl
  exact (right_iff _ _).1 (by rw [show xs 1 = [xI] by unfold xs; rfl, h])
theorem xs_right : ∀ k, k + 1 ≤ 512 → RtI [] (xs (k + 1))
  | 0, _ => xs_one
  | k + 1, h => by
    rw [xs_succ]
    exact right_exit (xs_right k (by omega)) (by rw [xs_len]; exact h)
theorem xs_chk : (chkI [] (xs 512)).2 = 0 := (right_iff _ _).2 (xs_right 511 (by decide))
theorem xs_chk' : chkI [] (xs 512) = ((chkI [] (xs 512)).1, 0) := Prod.ext rfl xs_chk
theorem xs_long : chkI [] (xs 513) = (0, 3) := by
  unfold chkI
  rw [if_neg (by rw [xs_len]; decide), if_pos (.inl (by rw [xs_len]; decide))]
def m7 : List M4 := [⟨1, 8, 8, 1⟩, ⟨2, 4, 8, 0⟩, ⟨2, 4, 8, 65⟩, ⟨3, 17, 8, 1⟩, ⟨3, 4, 65, 1⟩, ⟨3, 0, 1, 1⟩, ⟨3, 1, 0, 1⟩]
theorem m7_bad (k : Nat) (h : k < 7) : mayB (mpA m7 k) = false := by
  rcases k with _ | _ | _ | _ | _ | _ | _ | k <;> first | rfl | omega
theorem mps_new (w : World) (l : List M4) (t : TypeId) (cells : Array Value) (h : cells = (l.flatMap cellsM).toArray) (hl : l.length < 1000) : MpSl (w.alloc (.cells cells t)).heap.size (w.alloc (.cells cells t)) (some ⟨w.heap.size, 0, none⟩) l.length l := by
  subst h
  refine ⟨rfl, by omega, .inr ⟨w.heap.size, 0, rfl, by simp, fun j hj => ?_⟩⟩
  have hc : ∀ i, i < 4 → (w.alloc (.cells (l.flatMap cellsM).toArray t)).cell? ⟨w.heap.size, 0 + j * 4 + i, none⟩ = (cellsM (mpA l j))[i]? := by
    intro i hi
    unfold World.cell?
    dsimp only
    rw [heap_alloc_new]
    show ((l.flatMap cellsM).toArray)[0 + j * 4 + i]? = _
    rw [List.getElem?_toArray, Nat.zero_add, flat4_get l j hj i hi]
  exact ⟨hc 0 (by omega), hc 1 (by omega), hc 2 (by omega), hc 3 (by omega)⟩
theorem mp_new1 (w : World) (m : M4) (c : Array Value) (hc : c = #[.int .i64 m.kind, .int .i64 m.key, .int .i64 m.value, .int .i64 m.cap]) (o : Obj) : MpSl ((w.alloc (.cells c 48))).heap.size (w.alloc (.cells c 48)) (some ⟨w.heap.size, 0, none⟩) 1 [m] := by
  subst hc
  refine ⟨rfl, by decide, .inr ⟨w.heap.size, 0, rfl, by simp, fun j hj => ?_⟩⟩
  obtain rfl : j = 0 := by omega
  refine ⟨?_, ?_, ?_, ?_⟩ <;> (rw [World.cell?_alloc_at _ _ _ _ rfl]; rfl)
end Go.Proofs.YtdnkikgfiganaaaDoor
