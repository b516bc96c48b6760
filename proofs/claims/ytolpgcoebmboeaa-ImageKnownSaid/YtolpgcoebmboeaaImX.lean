/-
  ImageKnown: what it makes.
-/
import Derived.Test.YtolpgcoebmboeaaImN
import Derived.Test.YtolpgcoebmboeaaImT
import Derived.Laws.IdiomStrings
import Derived.Laws.BytesString
import Derived.Laws.MakeOwn
namespace Go.Proofs.Ytolpgcoebmboeaa
set_option linter.unusedSimpArgs false
set_option linter.unusedVariables false
open Go.ChangeShapes Go.WideShapes Go.ChangeAt Go.RowKit

theorem mk_any (t e : TypeId) (z : Value) (size bytes : Nat) (hu : Try.prog.underlying t = some (.slice e)) (hinfo : (Try.prog.info? e).map (fun i => (i.zero, i.size, i.bytes)) = some (some z, size, bytes)) (hb : bytes ≤ 64) (n : Nat) (hn : n ≤ 100000) (W : World) :
    (Instr.makeSlice t (.int .i64 n) (.int .i64 n)).run Try.prog W = .ok (.slice (some ⟨W.heap.size, 0, none⟩) n n) (W.alloc (.cells (madeCells z.cells (n * size)) e)) := by
  obtain ⟨i, hi, hp⟩ := Option.map_eq_some_iff.1 hinfo
  injection hp with hp1 hp
  injection hp with hp2 hp3
  have hbn : bytes * n ≤ 64 * 100000 := Nat.mul_le_mul hb hn
  have hb2 : ((bytes * n : Nat) : Int) ≤ 6400000 := by omega
  rw [Int.natCast_mul] at hb2
  have h := run_make (P := Try.prog) W t e i z hu hi hp1 .i64 .i64 n n (by omega) (Int.le_refl _) (by rw [hp3]; omega) (by omega)
  rw [hp2] at h
  simpa only [Int.toNat_natCast] using h
theorem made_at (z : Array Value) (m j : Nat) (hj : j < m) : (madeCells z m)[j]? = some (z[j % z.size]!) := by
  simp [madeCells, hj]
def ZB (n : Nat) : ByteArray := ⟨(List.replicate n (0 : UInt8)).toArray⟩
def bL (s : ByteArray) : List Int := s.data.toList.map (fun b => (b.toNat : Int))
theorem bL_ZB (n : Nat) : bL (ZB n) = List.replicate n 0 := by
  show ((List.replicate n (0 : UInt8)).toArray.toList.map fun b => (b.toNat : Int)) = _
  rw [List.toList_toArray, List.map_replicate]
  rfl
theorem bL_len (s : ByteArray) : (bL s).length = s.size := by unfold bL; rw [List.length_map, Array.length_toList]; rfl
theorem ZB_size (n : Nat) : (ZB n).size = n := by
  show (List.replicate n (0 : UInt8)).toArray.size = n
  rw [List.size_toArray, List.length_replicate]
theorem bL_by (s : ByteArray) : By (bL s) := by
  intro z hz
  obtain ⟨b, _, rfl⟩ := List.mem_map.1 hz
  have := b.toNat_lt
  omega
/-- make([]byte, n) in a region that draws. -/
theorem st_make {ops : Array Oper} {o : Oper} {a : Act} {w : World} {K : Act → World → Prop} {Q : Exit → Act → World → Prop} {E : Prop} (n : Nat) (hn : n ≤ 100000) (hgd : o.guard = none)
    (ho : o.op = .makeSlice 29 (.const (.int .i64 n)) (.const (.int .i64 n)))
    (h : ∀ w' g, (∀ j, j < n → w'.cell? ⟨g, j, none⟩ = some (.int .u8 0)) → Below w.heap.size w w' → K (a.put o.dst (.slice (some ⟨g, 0, none⟩) n n)) w') :
    if Region.wanted o (yielded ops a.tmps) = true then Oper.wp Try.prog o a w K Q else E := by
  have hw : Region.wanted o (yielded ops a.tmps) = true := by simp [Region.wanted, hgd]
  rw [if_pos hw]
  have hm := mk_any 29 5 (.int .u8 0) 1 1 Try.underlying29 byteInfo (by decide) n hn w
  unfold Oper.wp execOp
  simp only [ho, Sem.run_bind, Sem.run_pure, Result.andThen_ok, Act.eval, hm]
  refine h _ _ (fun j hj => ?_) ((Below.refl _ _).alloc (Nat.le_refl _) _)
  rw [World.cell?_alloc_at _ _ _ _ rfl, made_at _ _ _ (by omega)]
  simp [Value.cells, Nat.mod_one]
/-- string(b) of noughts in a region that draws. -/
theorem st_conv {ops : Array Oper} {o : Oper} {a : Act} {w : World} {K : Act → World → Prop} {Q : Exit → Act → World → Prop} {E : Prop} (n g : Nat) (x : Operand) (hgd : o.guard = none)
    (ho : o.op = .convert 29 9 x) (hx : a.eval x = .slice (some ⟨g, 0, none⟩) n n) (hc : ∀ j, j < n → w.cell? ⟨g, j, none⟩ = some (.int .u8 0))
    (h : K (a.put o.dst (.string (ZB n))) w) : if Region.wanted o (yielded ops a.tmps) = true then Oper.wp Try.prog o a w K Q else E := by
  have hw : Region.wanted o (yielded ops a.tmps) = true := by simp [Region.wanted, hgd]
  rw [if_pos hw]
  have hm := run_convert_bytes_back (P := Try.prog) w 29 9 5 ⟨g, 0, none⟩ n (List.replicate n (0 : UInt8)) Try.underlying29 Try.underlying5 Try.underlying9
    (fun j hj => by
      have hj' : j < n := by simpa using hj
      rw [add_none, Nat.zero_add, hc j hj']
      simp)
  rw [List.length_replicate] at hm
  unfold Oper.wp execOp
  simp only [ho, hx, hm, Sem.run_bind, Sem.run_pure, Result.andThen_ok]
  exact h
/-- The rows' strings and answers. -/
def RS (A B : ByteArray) : List ByteArray := [⟨#[0, 0, 0]⟩, ⟨#[0, 0]⟩, ⟨#[5]⟩, ⟨#[0, 1, 0]⟩, ⟨#[0, 0, 0, 0]⟩, ⟨#[]⟩, ⟨#[0, 1, 2]⟩, ⟨#[4, 1]⟩, A, B]
def RE : List Int := [0, 4, 5, 4, 5, 4, 5, 4, 3, 5]
def rowsC (A B : ByteArray) : List Value := [.string ⟨#[0, 0, 0]⟩, .int .i64 0, .string ⟨#[0, 0]⟩, .int .i64 4, .string ⟨#[5]⟩, .int .i64 5, .string ⟨#[0, 1, 0]⟩, .int .i64 4, .string ⟨#[0, 0, 0, 0]⟩, .int .i64 5, .string ⟨#[]⟩, .int .i64 4, .string ⟨#[0, 1, 2]⟩, .int .i64 5, .string ⟨#[4, 1]⟩, .int .i64 4, .string A, .int .i64 3, .string B, .int .i64 5]
structure RowsAt (A B : ByteArray) (g : Nat) (W : World) : Prop where
  s : ∀ k, k < 10 → W.cell? ⟨g, k * 2, none⟩ = some (.string ((RS A B).getD k ⟨#[]⟩))
  e : ∀ k, k < 10 → W.cell? ⟨g, k * 2 + 1, none⟩ = some (.int .i64 (RE.getD k 0))
theorem rows_new (A B : ByteArray) (W : World) (t : TypeId) : RowsAt A B W.heap.size (W.alloc (.cells (rowsC A B).toArray t)) := by
  refine ⟨fun k hk => ?_, fun k hk => ?_⟩ <;> (rw [World.cell?_alloc_at _ _ _ _ rfl]; rcases (by omega : k = 0 ∨ k = 1 ∨ k = 2 ∨ k = 3 ∨ k = 4 ∨ k = 5 ∨ k = 6 ∨ k = 7 ∨ k = 8 ∨ k = 9) with rfl | rfl | rfl | rfl | rfl | rfl | rfl | rfl | rfl | rfl <;> rfl)
theorem RowsAt.kept {A B : ByteArray} {g : Nat} {W W' : World} (h : RowsAt A B g W) (hb : Below W.heap.size W W') : RowsAt A B g W' := ⟨fun k hk => cn hb (h.s k hk), fun k hk => cn hb (h.e k hk)⟩
theorem dec_zeros (n : Nat) (h : 3 < n) (hn : n ≤ 65536) : decE (List.replicate n 0) = 5 := by
  have h0 : ∀ j, (List.replicate n (0 : Int)).getD j 0 = 0 := by
    intro j
    rw [List.getD_eq_getElem?_getD, List.getElem?_replicate]
    split <;> rfl
  have m : nM (List.replicate n 0) = 0 := by unfold nM; rw [h0]; rfl
  have p : nP (List.replicate n 0) = 0 := by unfold nP; rw [m, h0, h0]; rfl
  unfold decE
  rw [m, p, List.length_replicate, if_neg (by omega), if_neg (by omega), if_neg (by omega), if_neg (by omega), if_neg (by omega), if_neg (by omega), if_pos (by omega)]
theorem dec_big (n : Nat) (h : 65536 < n) : decE (List.replicate n 0) = 3 := by
  unfold decE
  rw [List.length_replicate, if_pos h]
theorem row_dec (k : Nat) (hk : k < 10) : decE (bL ((RS (ZB 65537) (ZB 65536)).getD k ⟨#[]⟩)) = RE.getD k 0 ∧ (dL (bL ((RS (ZB 65537) (ZB 65536)).getD k ⟨#[]⟩))).length = 0 ∧ (dC (bL ((RS (ZB 65537) (ZB 65536)).getD k ⟨#[]⟩))).length = 0 ∧ ((RS (ZB 65537) (ZB 65536)).getD k ⟨#[]⟩).size ≤ 65537 := by
  rcases (by omega : k = 0 ∨ k = 1 ∨ k = 2 ∨ k = 3 ∨ k = 4 ∨ k = 5 ∨ k = 6 ∨ k = 7 ∨ k = 8 ∨ k = 9) with rfl | rfl | rfl | rfl | rfl | rfl | rfl | rfl | rfl | rfl
  · exact ⟨by decide +kernel, by decide +kernel, by decide +kernel, by decide +kernel⟩
  · exact ⟨by decide +kernel, by decide +kernel, by decide +kernel, by decide +kernel⟩
  · exact ⟨by decide +kernel, by decide +kernel, by decide +kernel, by decide +kernel⟩
  · exact ⟨by decide +kernel, by decide +kernel, by decide +kernel, by decide +kernel⟩
  · exact ⟨by decide +kernel, by decide +kernel, by decide +kernel, by decide +kernel⟩
  · exact ⟨by decide +kernel, by decide +kernel, by decide +kernel, by decide +kernel⟩
  · exact ⟨by decide +kernel, by decide +kernel, by decide +kernel, by decide +kernel⟩
  · exact ⟨by decide +kernel, by decide +kernel, by decide +kernel, by decide +kernel⟩
  · show decE (bL (ZB 65537)) = 3 ∧ (dL (bL (ZB 65537))).length = 0 ∧ (dC (bL (ZB 65537))).length = 0 ∧ (ZB 65537).size ≤ 65537
    have h := dec_big 65537 (by omega)
    rw [bL_ZB]
    unfold dL dC
    rw [h, if_neg (by decide), if_neg (by decide)]
    exact ⟨rfl, rfl, rfl, Nat.le_of_eq (ZB_size _)⟩
  · show decE (bL (ZB 65536)) = 5 ∧ (dL (bL (ZB 65536))).length = 0 ∧ (dC (bL (ZB 65536))).length = 0 ∧ (ZB 65536).size ≤ 65537
    have h := dec_zeros 65536 (by omega) (by omega)
    rw [bL_ZB]
    unfold dL dC
    rw [h, if_neg (by decide), if_neg (by decide)]
    exact ⟨rfl, rfl, rfl, Nat.le_trans (Nat.le_of_eq (ZB_size _)) (by omega)⟩
/-- []byte(s): the string's bytes, in a new block. -/
theorem conv_str (W : World) (s : ByteArray) : ∃ cap C, (convert 9 29 (.string s)).run Try.prog W = .ok (.slice (some ⟨W.heap.size, 0, none⟩) s.size cap) (W.drew.alloc C) ∧ s.size ≤ cap ∧ ∀ j, j < s.size → (W.drew.alloc C).cell? ⟨W.heap.size, j, none⟩ = some (.int .u8 ((bL s).getD j 0)) := by
  refine ⟨_, _, run_bytes_of_string W 9 29 5 s Try.underlying9 Try.underlying29 Try.underlying5, grownCap_ge W s.size 0 5, fun j hj => ?_⟩
  have hj' : j < s.data.size := hj
  have hl : (bL s).length = s.size := bL_len s
  rw [List.getD_eq_getElem?_getD, List.getElem?_eq_getElem (by omega)]
  have := World.cell?_alloc_mark W.drew (bytesRow s (grownCap W s.size 0 5)) 5 ((bytesRow s (grownCap W s.size 0 5)).size, (bytesRow s (grownCap W s.size 0 5)).size + 1) j
  refine this.trans ((bytesRow_at s _ j hj').trans ?_)
  simp [bL]
end Go.Proofs.Ytolpgcoebmboeaa
