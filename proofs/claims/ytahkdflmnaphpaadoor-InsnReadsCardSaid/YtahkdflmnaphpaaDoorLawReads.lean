/-
  Law InsnReads: what insn.Decode makes of any bytes is what the document's own Decode makes of them; the bytes stay as they are. The table of sizes is as start-up lays it (the card ties it); no other condition.
-/
import Derived.Test.YtahkdflmnaphpaaDoorInsnW
import Derived.Test.YtahkdflmnaphpaaDoorInsnK
import Derived.Test.YtahkdflmnaphpaaDoorInsnE
import Derived.Laws.AppendOwn
import Derived.Laws.AppendOwnNone
import Derived.OwnWalk
namespace Go.Proofs.YtahkdflmnaphpaaDoor
set_option linter.unusedSimpArgs false
set_option linter.unusedVariables false
open Go.ChangeShapes Go.WideShapes Go.ChangeAt Go.RowKit Go.Joins Go.Deep

/-- What Decode tells of a list of bytes. -/
def decO (n : Nat) (zs : List Int) : Int := if n = 8 then zs.getD 0 0 else 0
def decD (n : Nat) (zs : List Int) : Int := if n = 8 then zs.getD 1 0 % 16 else 0
def decS (n : Nat) (zs : List Int) : Int := if n = 8 then zs.getD 1 0 / 16 else 0
def decF (n : Nat) (zs : List Int) : Int := if n = 8 then offB (zs.getD 2 0) (zs.getD 3 0) else 0
def decM (n : Nat) (zs : List Int) : Int := if n = 8 then immB (zs.getD 4 0) (zs.getD 5 0) (zs.getD 6 0) (zs.getD 7 0) else 0
def decK (n : Nat) : Int := if n < 8 then 4 else if 8 < n then 3 else 0
theorem byte_of {zs : List Int} (h : ∀ z ∈ zs, 0 ≤ z ∧ z < 256) (j : Nat) : 0 ≤ zs.getD j 0 ∧ zs.getD j 0 < 256 := by
  rcases Nat.lt_or_ge j zs.length with hj | hj
  · rw [List.getD_eq_getElem?_getD, List.getElem?_eq_getElem hj]
    exact h _ (List.getElem_mem hj)
  · rw [List.getD_eq_getElem?_getD, List.getElem?_eq_none hj]
    exact ⟨by decide, by decide⟩
theorem decode_any (p : Option Addr) (n c : Nat) (zs : List Int) (w : World) (hb : ByteSl w p n zs) :
    Calls Tryd.prog 19 #[.slice p n c] w fun e w' => e = .returned (.tuple #[insV (decO n zs) (decD n zs) (decS n zs) (decF n zs) (decM n zs), .int .i64 (decK n)]) ∧ Below w.heap.size w w' := by
  by_cases h1 : n < 8
  · have h8 : n ≠ 8 := by omega
    unfold decO decD decS decF decM decK
    rw [if_neg h8, if_neg h8, if_neg h8, if_neg h8, if_neg h8, if_pos h1]
    exact decode_s p n c w h1
  by_cases h2 : 8 < n
  · have h8 : n ≠ 8 := by omega
    unfold decO decD decS decF decM decK
    rw [if_neg h8, if_neg h8, if_neg h8, if_neg h8, if_neg h8, if_neg h1, if_pos h2]
    exact decode_l p n c w h2
  obtain rfl : n = 8 := by omega
  obtain ⟨hl, hz, hc⟩ := hb
  obtain ⟨b, off, rfl, hlt, hc⟩ := hc.resolve_left (by decide)
  exact decode_8 b off c _ _ _ _ _ _ _ _ w hlt (byte_of hz 0).1 (byte_of hz 0).2 (byte_of hz 1).1 (byte_of hz 1).2 (byte_of hz 2).1 (byte_of hz 2).2 (byte_of hz 3).1 (byte_of hz 3).2 (byte_of hz 4).1 (byte_of hz 4).2 (byte_of hz 5).1 (byte_of hz 5).2 (byte_of hz 6).1 (byte_of hz 6).2 (byte_of hz 7).1 (byte_of hz 7).2
    (hc 0 (by decide)) (hc 1 (by decide)) (hc 2 (by decide)) (hc 3 (by decide)) (hc 4 (by decide)) (hc 5 (by decide)) (hc 6 (by decide)) (hc 7 (by decide))
theorem rdecode_any (p : Option Addr) (n c : Nat) (zs : List Int) (w : World) (hb : ByteSl w p n zs) :
    Calls Tryd.prog 20 #[.slice p n c] w fun e w' => e = .returned (.tuple #[insV (decO n zs) (decD n zs) (decS n zs) (decF n zs) (decM n zs), .int .i64 (decK n)]) ∧ Below w.heap.size w w' := by
  by_cases h1 : n < 8
  · have h8 : n ≠ 8 := by omega
    unfold decO decD decS decF decM decK
    rw [if_neg h8, if_neg h8, if_neg h8, if_neg h8, if_neg h8, if_pos h1]
    exact rdecode_s p n c w h1
  by_cases h2 : 8 < n
  · have h8 : n ≠ 8 := by omega
    unfold decO decD decS decF decM decK
    rw [if_neg h8, if_neg h8, if_neg h8, if_neg h8, if_neg h8, if_neg h1, if_pos h2]
    exact rdecode_l p n c w h2
  obtain rfl : n = 8 := by omega
  obtain ⟨hl, hz, hc⟩ := hb
  obtain ⟨b, off, rfl, hlt, hc⟩ := hc.resolve_left (by decide)
  exact rdecode_8 b off c _ _ _ _ _ _ _ _ w hlt (byte_of hz 0).1 (byte_of hz 0).2 (byte_of hz 1).1 (byte_of hz 1).2 (byte_of hz 2).1 (byte_of hz 2).2 (byte_of hz 3).1 (byte_of hz 3).2 (byte_of hz 4).1 (byte_of hz 4).2 (byte_of hz 5).1 (byte_of hz 5).2 (byte_of hz 6).1 (byte_of hz 6).2 (byte_of hz 7).1 (byte_of hz 7).2
    (hc 0 (by decide)) (hc 1 (by decide)) (hc 2 (by decide)) (hc 3 (by decide)) (hc 4 (by decide)) (hc 5 (by decide)) (hc 6 (by decide)) (hc 7 (by decide))

theorem byteInfo : (Tryd.prog.info? 5).map (fun i => (i.zero, i.size, i.bytes)) = some (some (.int .u8 0), 1, 1) := by kernel_rfl
/-- The slice 'v' holds these bytes in memory of the call's own. -/
def OwnB (w0 w : World) (v : Value) (zs : List Int) : Prop := ∃ q cap, v = .slice q zs.length cap ∧ ByteSl w q zs.length zs ∧ Below w0.heap.size w0 w
theorem own_bytes {w0 w : World} {v : Value} {n : Nat} {zs : List Int} (hn : zs.length = n) (hz : ∀ z ∈ zs, 0 ≤ z ∧ z < 256) (h : w.ownsRow w0.heap.size 5 1 v n (zs.map (Value.int .u8))) (hb : Below w0.heap.size w0 w) : OwnB w0 w v zs := by
  subst hn
  rcases h.2 with ⟨rfl, h0⟩ | ⟨g, cap, cur, rfl, hg, hh, _⟩
  · exact ⟨none, 0, by rw [h0], ⟨rfl, hz, .inl h0⟩, hb⟩
  · refine ⟨_, cap, rfl, ⟨rfl, hz, .inr ⟨g, 0, rfl, (h.lt g rfl).2, fun j hj => ?_⟩⟩, hb⟩
    have hc := h.cells (g := g) rfl j (.int .u8 (zs.getD j 0)) (by
      rw [List.getElem?_map, List.getElem?_eq_getElem hj, List.getD_eq_getElem?_getD, List.getElem?_eq_getElem hj]; rfl)
    have e : ((⟨g, 0, none⟩ : Addr).add j) = ⟨g, 0 + j, none⟩ := by simp only [Addr.add]; split <;> simp_all
    rwa [e] at hc
theorem append_bytes {ops : Array Oper} {rest : List Oper} {o : Oper} {a : Act} {Q : Exit → Act → World → Prop} (hgd : o.guard = none) (s x : Operand)
    (ho : o.op = .call { callee := .builtin .append, args := #[s, x], argTypes := #[42, 42] })
    (w : World) (p : Option Addr) (n c : Nat) (zs : List Int) (hbs : ByteSl w p n zs) (hn : n ≤ 140737488351232) (hc0 : p = none → c = 0)
    (hs : a.eval s = .slice none 0 0) (hx : a.eval x = .slice p n c)
    (h : ∀ v' w', OwnB w w' v' zs → wpList Tryd.prog ops Q rest (a.put o.dst v') w') : wpList Tryd.prog ops Q (o :: rest) a w := by
  obtain ⟨i, hi, hp⟩ := Option.map_eq_some_iff.1 byteInfo
  injection hp with hp1 hp
  injection hp with hp2 hp3
  obtain ⟨hl, hz, hcell⟩ := hbs
  cases p with
  | none =>
    obtain rfl : n = 0 := hcell.resolve_right (by rintro ⟨b, off, h, _⟩; cases h)
    obtain rfl := hc0 rfl
    obtain rfl : zs = [] := List.eq_nil_of_length_eq_zero hl
    refine wpList_append_own_none hgd s x 42 ho w.heap.size 5 i 1 Tryd.underlying42 hi (.slice none 0 0) 0 [] hs (World.ownsRow_nil _ _ _ _) hx ?_
    exact h _ _ ⟨none, 0, rfl, ⟨rfl, hz, .inl rfl⟩, Below.refl _ _⟩
  | some ad =>
    refine wpList_append_own _ hgd s x 42 ho w.heap.size 5 i _ 1 1 Tryd.underlying42 hi hp1 hp2 hp3 rfl (by decide) (.slice none 0 0) 0 [] hs (World.ownsRow_nil _ _ _ _)
      ad n c (zs.map (Value.int .u8)) hx (by simp [hl]) ?_ ?_ (by simp only [maxLen]; omega) (by omega) (Nat.le_refl _) ?_
    · intro j u hu
      have hj : j < n := by
        have := (List.getElem?_eq_some_iff.1 hu).1
        simpa [hl] using this
      obtain ⟨b, off, hpa, hlt, hc⟩ := hcell.resolve_left (by omega)
      obtain rfl := Option.some.inj hpa
      have e : ((⟨b, off, none⟩ : Addr).add j) = ⟨b, off + j, none⟩ := by simp only [Addr.add]; split <;> simp_all
      rw [e, hc j hj]
      rw [List.getElem?_map, List.getElem?_eq_getElem (by omega)] at hu
      rw [List.getD_eq_getElem?_getD, List.getElem?_eq_getElem (by omega)]
      exact hu
    · intro u hu
      obtain ⟨z, _, rfl⟩ := List.mem_map.1 hu
      rfl
    · intro v' w' h1 h2 _
      refine h v' w' (own_bytes (n := 0 + n) (by omega) hz (by simpa using h1) ?_)
      exact (Below.refl _ _).grown h2 (Nat.le_refl _) (by intro k hk; simp [Value.ownBlock] at hk)

set_option maxHeartbeats 1000000 in
theorem insnReads_walk (p : Option Addr) (n c : Nat) (zs : List Int) (w : World) (hb : ByteSl w p n zs) (hn : n ≤ 140737488351232) (hc0 : p = none → c = 0) (hz : SzOk w) :
    Calls Tryd.prog 5 #[.slice p n c] w fun e w' => e = .returned (.bool true) ∧ Below w.heap.size w w' := by
  obtain rfl : zs.length = n := hb.1
  have HB := hid hb
  have HZ := hid hz
  have HC := hid hc0
  clear hb hz hc0
  go_enter Tryd.func5, Tryd.ntmps5
  go_wp2_with (at_builtin; refine append_bytes rfl (.const (.slice none 0 0)) (.tmp 8) rfl w p _ c zs HB.out hn HC.out (by exact rfl) (by exact rfl) ?_; intro v1 w1 own1)
  obtain ⟨q, cap, rfl, hq, b0⟩ := own1
  have HD := hid (decode_any q _ cap zs w1 hq)
  have HB1 := hid b0
  have hz1 := hid (HZ.out.below b0)
  have HQ := hid hq
  have HP := hid (HB.out.below b0)
  clear hq b0 HZ HB
  go_wp2_with fail
  refine HD.out.mono ?_
  rintro e w2 ⟨rfl, b2⟩
  have HB2 := hid b2
  have hz2 := hid (hz1.out.below b2)
  have HQ2 := hid (HQ.out.below b2)
  have HP2 := hid (HP.out.below b2)
  clear b2 HD HQ HP hz1
  simp only [insV]
  have HR := hid fun W h => rdecode_any p zs.length c zs W h
  have a1 := fun (W : World) (o : Obj) => (Below.refl W.heap.size W).alloc (Nat.le_refl _) o
  have HA := hid a1
  clear a1
  generalize decO zs.length zs = f0 at HR ⊢
  generalize decD zs.length zs = f1 at HR ⊢
  generalize decS zs.length zs = f2 at HR ⊢
  generalize decF zs.length zs = f3 at HR ⊢
  generalize decM zs.length zs = f4 at HR ⊢
  generalize decK zs.length = kk at HR ⊢
  go_wp2_with fail
  refine (HR.out _ (HP2.out.below (HA.out _ _))).mono ?_
  rintro e w3 ⟨rfl, b3⟩
  have q1 : w2.heap.size < w3.heap.size := by have := b3.size; simp at this; omega
  obtain ⟨hc, hf⟩ := bcell b3
  have HB3 := hid (((Below.refl w2.heap.size w2).alloc (Nat.le_refl _) _).trans (b3.mono (by simp)))
  have hz3 := hid (hz2.out.below HB3.out)
  have HQ3 := hid (HQ2.out.below HB3.out)
  have HP3 := hid (HP2.out.below HB3.out)
  have c0 : w3.cell? ⟨w2.heap.size, 0, none⟩ = some (.int .u8 f0) := by rw [hc _ _ (by simp)]; simp
  have c1 : w3.cell? ⟨w2.heap.size, 1, none⟩ = some (.int .u8 f1) := by rw [hc _ _ (by simp)]; simp
  have c2 : w3.cell? ⟨w2.heap.size, 2, none⟩ = some (.int .u8 f2) := by rw [hc _ _ (by simp)]; simp
  have c3 : w3.cell? ⟨w2.heap.size, 3, none⟩ = some (.int .i16 f3) := by rw [hc _ _ (by simp)]; simp
  have c4 : w3.cell? ⟨w2.heap.size, 4, none⟩ = some (.int .i32 f4) := by rw [hc _ _ (by simp)]; simp
  clear hc hf b3 HR HQ2 HP2 hz2
  simp only [insV]
  have HS := hid fun W => same_yes q p zs.length cap c zs W (by omega)
  go_wp2_with fail
  refine (HS.out _ (HQ3.out.below (HA.out _ _)) (HP3.out.below (HA.out _ _))).mono ?_
  rintro e w4 ⟨rfl, b4⟩
  have HB4 := hid (((Below.refl w3.heap.size w3).alloc (Nat.le_refl _) _).trans (b4.mono (by simp)))
  have hz4 := hid (hz3.out.below HB4.out)
  clear b4 HS
  go_wp2_with fail
  refine (wakes_any _ hz4.out).mono ?_
  rintro e w5 ⟨rfl, b5⟩
  have HB5 := hid b5
  clear b5
  go_wp2
  go_ret
  exact ⟨rfl, below_next (below_next (below_next (below_next HB1.out HB2.out) HB3.out) HB4.out) HB5.out⟩

set_option maxRecDepth 100000 in
theorem cells_u8 : Tryd.prog.cellsOf 5 = 1 := by kernel_rfl
set_option maxRecDepth 100000 in
/-- A parameter that is a slice of bytes, opened. -/
theorem open_bytes {H : Type} {enc : TypeId × Value → H} {W : World} {v : Value} {d : DataW H} {p : List MemPlace} {r : Reach} {b0 : Nat} (hv : Value.okWide Tryd.prog W r b0 42 v)
    (h : DataW.Trod enc Tryd.prog W 0 (fun _ => true) true 42 v d p) (hlt : ∀ x ∈ p, x.block < W.heap.size) :
    ∃ q n c zs, v = .slice q n c ∧ ByteSl W q n zs ∧ (q = none → c = 0) ∧ (n = 0 ∨ ∃ es sp, d = .slice es sp ∧ n ≤ es.length + sp.length) := by
  obtain ⟨a0, len, cap, rfl⟩ := okWide_slice Tryd.underlying42 hv
  obtain ⟨fuel, hf⟩ := h
  rcases open_ints Tryd.underlying42 Tryd.underlying5 cells_u8 hf with ⟨hcs, hx⟩ | ⟨a, len', cap', zs, hcs, _, hl, hm, hz, hx, hcell, hwz⟩
  · simp [Value.cells] at hcs
    obtain ⟨rfl, rfl, rfl⟩ := hcs
    exact ⟨none, 0, 0, [], rfl, ⟨rfl, by simp, .inl rfl⟩, fun _ => rfl, .inl rfl⟩
  · simp [Value.cells] at hcs
    obtain ⟨rfl, rfl, rfl⟩ := hcs
    simp only [if_true] at hz
    simp only [Prod.mk.injEq] at hx
    obtain ⟨rfl, rfl⟩ := hx
    refine ⟨some a, len, cap, zs.take len, rfl, ⟨by rw [List.length_take]; omega, fun z hz' => ?_, ?_⟩, (fun h => by cases h), .inr ⟨_, _, rfl, by simp [lits]; omega⟩⟩
    · have := bounds_u8 (hwz z (List.mem_of_mem_take hz'))
      omega
    · by_cases hl0 : len = 0
      · exact .inl hl0
      · obtain ⟨b, off, spot⟩ := a
        have hspot : spot = none := by simpa [Addr.add] using World.cell?_spot (hcell 0 (by omega))
        subst hspot
        refine .inr ⟨b, off, rfl, hlt (.cell b off) (MemPlace.mem_row.2 ⟨0, by omega, by simp⟩), fun j hj => ?_⟩
        have hc := hcell j (by omega)
        have e : ((⟨b, off, none⟩ : Addr).add j) = ⟨b, off + j, none⟩ := by simp only [Addr.add]; split <;> simp_all
        rw [e] at hc
        rw [hc, List.getD_eq_getElem?_getD, List.getD_eq_getElem?_getD, List.getElem?_take_of_lt hj]
set_option maxRecDepth 100000 in
theorem bytes_one : Tryd.prog.bytesOf 5 = 1 := by kernel_rfl


/-! ### InsnReads -/
namespace insnReads
set_option maxRecDepth 100000 in
theorem contract (H : Type) (enc : TypeId × Value → H) (W : World) (base : Nat) (args : Array Value) (ds gs : List (DataW H)) (before : List MemPlace)
    (hval : ∀ (j : Nat) t v, Tryd.f5.params[j]? = some t → args[j]? = some v → Value.okWide Tryd.prog W .any base t v)
    (hW : DataW.Whole enc Tryd.prog Tryd.f5.params.toList Rows.insnReadsSpec.vars false W args.toList ds gs before) (hL : laidMetH Tryd.prog Rows.insnReadsRow.laid W)
    (hsz : (DataW.weightsEach Tryd.prog (Tryd.f5.params.toList ++ (OpenSpec.ofChange Rows.insnReadsSpec).bare.plain.varTypes Tryd.prog) (ds ++ gs)).all (· ≤ reachBytes) = true) :
    Calls Tryd.prog 5 args W fun e W' => ∃ v, e = .returned v ∧ Rows.insnReadsSpec.post enc Tryd.prog Tryd.f5 false true false false W args v W' := by
  have hW' := hW
  obtain ⟨p, q, hA0, hV, rfl, hfz, hnd⟩ := hW
  have hA : DataW.TrodAll enc Tryd.prog W 0 (fun _ => true) true Tryd.f5.params.toList args.toList ds p := hA0
  rw [Tryd.params5] at hA hval
  obtain ⟨v0, vs0, d0, ds0, p0, q0, hargs, rfl, rfl, h0, r0⟩ := trodAll_cons hA
  obtain ⟨rfl, rfl, rfl⟩ := trodAll_nil r0
  obtain rfl : args = #[v0] := by cases args; simp_all
  obtain ⟨rfl, rfl⟩ := trodVars_none hV
  obtain ⟨p, n, c, zs, rfl, hbs, hc0, hd⟩ := open_bytes (hval 0 42 v0 rfl rfl) h0 (fun x hx => hW'.lt x (by simp [hx]))
  have hn : n ≤ 140737488351232 := by
    rcases hd with rfl | ⟨es, sp, rfl, hle⟩
    · omega
    · have := sized_slice hsz (j := 0) (t := 42) (e := 5) rfl rfl Tryd.underlying42
      rw [bytes_one] at this
      simp only [reachBytes] at this
      omega
  clear hA0
  refine (insnReads_walk p n c zs W hbs hn hc0 (sz_of_laid hL)).mono fun e W' ⟨he, hb⟩ => ?_
  subst he
  exact ⟨_, rfl, law_shut laid hW' rfl rfl Tryd.underlying4 (by kernel_rfl) rfl rfl rfl hb⟩
set_option maxRecDepth 100000 in
theorem laid_met (os : Os) : laidMet Tryd.prog Rows.insnReadsRow.laid ((laidWorld os).forCall (fun _ _ => 0) ⟨#[], #[.slice none 0 0], []⟩).memory :=
  laidMet_of_run' 8 (by kernel_rfl) (by kernel_rfl)
set_option maxRecDepth 100000 in
theorem reads (os : Os) {H : Type} (enc : TypeId × Value → H) : ∃ places, DataW.whole enc Tryd.prog ((laidWorld os).forCall (fun _ _ => 0) ⟨#[], #[.slice none 0 0], []⟩).memory Tryd.f5.params.toList Rows.insnReadsSpec.vars false (#[.slice none 0 0] : Array Value).toList 8 = some ([.nil], [], places) :=
  ⟨[], by kernel_rfl⟩
set_option maxRecDepth 100000 in
theorem lifted (os : Os) (started : os.Started) (H : Type) (enc : TypeId × Value → H) (F : Stop.Interp) :
    ReturnsInHanded {} Tryd.checked os 5 .any ((OpenSpec.ofChange Rows.insnReadsSpec).preRow enc Tryd.prog Tryd.f5 Rows.insnReadsRow.domain false Rows.insnReadsRow.laid) (((OpenSpec.ofChange Rows.insnReadsSpec).at F).post enc Tryd.prog Tryd.f5 false true false false) := by
  obtain ⟨places, hx⟩ := reads os enc
  refine returnsInHanded_of_row (C := Tryd.checked) (s := OpenSpec.ofChange Rows.insnReadsSpec) own started (by kernel_rfl) Tryd.func5
    (witness_row_at (enc := enc) (C := Tryd.checked) false (laidWorld os) #[.slice none 0 0] rfl (by kernel_rfl) (by kernel_rfl) (by kernel_rfl)
      (OpenSpec.preRow_of_cond 8 hx (by kernel_rfl) (fun k hk => by cases hk) (by kernel_rfl) (laid_met os))) ?_
  intro W base args ds gs before hval hW _ _ hsz hL _ _
  exact contract H enc W base args ds gs before hval hW hL hsz
set_option maxRecDepth 100000 in
theorem said : Rows.InsnReadsSaid :=
  OpenClaim.holds_of_cond 5 Tryd.f5 rfl rfl rfl rfl rfl rfl rfl ⟨rfl, rfl, rfl, rfl, rfl⟩ rfl rfl rfl rfl rfl (by kernel_rfl) Tryd.func5 (by kernel_rfl)
    (of_decide_eq_true (by kernel_rfl)) (by unfold Func.isWrapper; first | (rw [if_pos (by decide +kernel)]; kernel_rfl) | (rw [if_neg (by decide +kernel)]; exact ⟨rfl, rfl⟩))
    (fun os started H enc _ F => by rw [OpenClaim.pre_eq_preRow]; exact lifted os started H enc F)
theorem plain (f : FuncId) (fn : Func) (hf : Tryd.pinned.checked.prog.funcNamed "stockade/stockadelaw02.InsnReads" = some f) (hfn : Tryd.pinned.checked.prog.funcs[f]? = some fn) :
    false = Tryd.pinned.checked.prog.looks [] ∧ ∀ (j : Nat) t, fn.params[j]? = some t → Tryd.pinned.checked.prog.wantsStandIn t = false := by
  obtain rfl : f = 5 := Option.some.inj ((show Tryd.prog.funcNamed "stockade/stockadelaw02.InsnReads" = some 5 by kernel_rfl).symm.trans hf) |>.symm
  obtain rfl : fn = Tryd.f5 := (Option.some.inj (Tryd.func5.symm.trans hfn)).symm
  exact ⟨by kernel_rfl, plain_of (by kernel_rfl)⟩
/-- The card. -/
theorem card : Rows.InsnReadsCardSaid :=
  Claim7.holds_tied_plain_at .later [] _ _ _ _ said (fun _ h => by cases h) (by kernel_rfl) (fun _ h => by cases h) insnReads_row_tie rfl ⟨rfl, rfl⟩ (by kernel_rfl) rfl plain (by kernel_rfl)
end insnReads

end Go.Proofs.YtahkdflmnaphpaaDoor
